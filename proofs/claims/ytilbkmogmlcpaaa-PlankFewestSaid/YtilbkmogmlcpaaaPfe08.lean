/- PlankFewest returns true for every book and every number; no condition. Walks: PlankFewest. Walks: can the parts of a set be shared by some planks? Plain mathematics: parts that are shared by a list of planks. -/
import Derived.Test.YtilbkmogmlcpaaaPfe07
import Derived.Test.YtilbkmogmlcpaaaPfe01
namespace Go.Proofs.Ytilbkmogmlcpaaa
open Go.RowKit Go.Shelf

theorem and_all : (List.range 32).all (fun (i : Nat) => (List.range 32).all fun (j : Nat) => (bits BinOp.and IntKind.i64 (i : Int) (j : Int) == ((i &&& j : Nat) : Int))) = true := by kernel_rfl
theorem and_bit {i j : Nat} (hi : i < 32) (hj : j < 32) : bits BinOp.and IntKind.i64 (i : Int) (j : Int) = ((i &&& j : Nat) : Int) := by
  have := List.all_eq_true.1 and_all i (List.mem_range.2 hi)
  have := List.all_eq_true.1 this j (List.mem_range.2 hj)
  simpa using this
theorem sub_all : (List.range 32).all (fun (s : Nat) => (List.range 32).all fun (t : Nat) => !(t &&& s == t) || (List.range 5).all fun (p : Nat) => hasN (s - t) p == (hasN s p && !hasN t p)) = true := by kernel_rfl
theorem sub_has {s t : Nat} (hs : s < 32) (ht : t < 32) (h : t &&& s = t) (p : Nat) : hasN (s - t) p = (hasN s p && !hasN t p) := by
  by_cases hp : p < 5
  · have := List.all_eq_true.1 sub_all s (List.mem_range.2 hs)
    have := List.all_eq_true.1 this t (List.mem_range.2 ht)
    rw [h] at this
    simp only [beq_self_eq_true, Bool.not_true, Bool.false_or] at this
    have := List.all_eq_true.1 this p (List.mem_range.2 hp)
    simpa using this
  · have h1 : ∀ u : Nat, u < 32 → hasN u p = false := fun u hu => by
      rw [← Bool.not_eq_true]; exact fun h => hp (has_lt (n := 5) (by omega) h)
    rw [h1 s hs, h1 (s - t) (by omega)]; rfl
theorem and_le {s t : Nat} (h : t &&& s = t) : t ≤ s := by rw [← h]; exact Nat.and_le_right

/-- Can the parts of a set be shared by some planks? -/
def sharedR (x : Book) : List Int → Nat → Bool
  | [], set => set == 0
  | i :: r, set => anyB (set + 1) fun t => (t &&& set == t) && (canLay x i.toNat t && sharedR x r (set - t))
theorem shared_yes {x : Book} (hb : bookOk x = true) : ∀ (l : List Int) (set : Nat), (∀ y ∈ l, 0 ≤ y ∧ y < x.planks.length) → set < 2 ^ x.parts.length → Pack x (fun j => (j : Int) ∈ l) (fun p => hasN set p = true) → sharedR x l set = true
  | [], set, _, _, h => by
    show (set == 0) = true
    rw [beq_iff_eq]
    obtain ⟨g, a, h1, _⟩ := h
    refine set_ext fun p => ?_
    rw [has_zero]
    cases e : hasN set p with
    | false => rfl
    | true => exact absurd (h1 p e).2.1 (by simp)
  | i :: r, set, hl, hs, h => by
    have hi := hl i (by simp)
    obtain ⟨i', rfl⟩ := Int.eq_ofNat_of_zero_le hi.1
    have hi2 : i' < x.planks.length := by omega
    have h' : Pack x (fun j => (j : Int) ∈ r ∨ j = i') (fun p => hasN set p = true) := h.mono (fun j _ hj => by
      rcases List.mem_cons.1 hj with e | e
      · exact .inr (by omega)
      · exact .inl e) (fun _ h => h)
    rw [Pack.split hi2] at h'
    obtain ⟨D, h1, h2⟩ := h'
    obtain ⟨t, ht, hht⟩ := set_of (fun p => hasN set p && D p) x.parts.length
    have hs32 := lt32 hb hs
    have ht32 := lt32 hb ht
    have e1 : ∀ p, hasN t p = (hasN set p && D p) := fun p => by
      rw [hht]
      cases h : hasN set p with
      | false => simp
      | true => rw [decide_eq_true (has_lt hs h)]; simp
    have hand : t &&& set = t := set_ext fun p => by
      rw [has_and, e1]
      cases hasN set p <;> cases D p <;> rfl
    show anyB (set + 1) _ = true
    rw [anyB_iff]
    refine ⟨t, by have := and_le hand; omega, ?_⟩
    rw [Bool.and_eq_true, Bool.and_eq_true, beq_iff_eq]
    refine ⟨hand, ?_, ?_⟩
    · rw [Int.toNat_natCast]
      exact (canLay_one hb hi2 ht).2 (h2.mono fun p hp => by rw [e1] at hp; simpa using hp)
    · refine shared_yes hb r (set - t) (fun y hy => hl y (by simp [hy])) (by omega) (h1.mono (fun j _ hj => hj.1) (fun p hp => ?_))
      rw [sub_has hs32 ht32 hand, e1] at hp
      cases hd : D p with
      | false => rw [hd] at hp; simpa using hp
      | true =>
        rw [hd] at hp
        cases hh : hasN set p <;> rw [hh] at hp <;> simp at hp
theorem lay_can {x : Book} {i t : Nat} (hb : bookOk x = true) (hi : i < x.planks.length) (ht : t < 2 ^ x.parts.length) : (layR x i (memU t x.parts.length)).2 = (if canLay x i t = true then 0 else 4) := by
  have hP : Parts x (memU t x.parts.length) := parts_mem (good_of hb).parts.2 rfl
  rw [lay_parts hb hi hP]
  unfold canLay
  rw [memU_L ht (lt32 hb ht)]
  cases layL (boardM (gw x.planks i) x.parts x.parts.length) x.parts (gw x.planks i).long (memL t) <;> rfl
end Go.Proofs.Ytilbkmogmlcpaaa
namespace Go.Proofs.Ytilbkmogmlcpaaa
open Go.RowKit Go.Shelf

theorem cut_tail {a : Option Addr} {n c : Nat} (h1 : 1 ≤ n) (h2 : n ≤ c) : ∃ b, (∀ w, (Instr.sliceAt 31 (.slice a n c) (some (.int .i64 1)) none none).run Try.prog w = .ok (.slice b (n - 1) (c - 1)) w) ∧ ∀ {B : Nat} {w : World} {xs : List Int}, IntsAt B w a n xs → IntsAt B w b (n - 1) xs.tail := by
  have hu : Try.prog.underlying 31 = some (.slice (Try.prog.elem 31)) := by kernel_rfl
  have hs : ∀ w, (sizeOf (Try.prog.elem 31)).run Try.prog w = .ok 1 w := fun w => by kernel_rfl
  refine ⟨if c = 1 then a else a.map (·.add (1 * 1)), fun w => ?_, fun {B w xs} h => ?_⟩
  · rw [run_sliceAt_slice (h := hu), run_slice_l (ht := hu) (h0 := by omega) (h1 := by omega), hs]
    rfl
  · have hl : xs.tail.length = n - 1 := by rw [List.length_tail, h.len]
    refine ⟨hl, by have := h.small; omega, fun i hi => ?_⟩
    obtain ⟨b, o, rfl, hb, hc⟩ := h.get 0 (by omega)
    rw [if_neg (by omega)]
    refine ⟨b, o + 1, ?_, hb, fun j hj => ?_⟩
    · simp [Addr.add]
    · have := hc (j + 1) (by omega)
      have e : gi xs.tail j = gi xs (j + 1) := by
        unfold gi
        rw [List.getD_eq_getElem?_getD, List.getD_eq_getElem?_getD, List.getElem?_tail]
      rw [e, show o + 1 + j = o + (j + 1) by omega]
      exact this

set_option maxRecDepth 100000 in
set_option maxHeartbeats 4000000 in
theorem shared_any {B : Nat} {pa sa : Option Addr} {pn pc sn sc : Nat} {x : Book} (hb : bookOk x = true) :
    ∀ (l : List Int) {la : Option Addr} {ln lc set C : Nat} {w : World}, B ≤ w.heap.size → BookAt B w pa pn sa sn x → C ≤ w.heap.size → IntsAt C w la ln l → ln ≤ lc → (∀ y ∈ l, 0 ≤ y ∧ y < (x.planks.length : Int)) → set < 2 ^ x.parts.length →
    Calls Try.prog 48 #[.agg #[.slice pa pn pc, .slice sa sn sc], .slice la ln lc, .int .i64 set] w fun e w' => e = .returned (.bool (sharedR x l set)) ∧ Below w.heap.size w w'
  | [], la, ln, lc, set, C, w, hB, hx, hC, hl, hlc, hi, hs => by
    obtain rfl : ln = 0 := by simpa using hl.len.symm
    obtain ⟨w0, hw0⟩ : ∃ w0, w0 = w.alloc (.cells #[.slice pa pn pc, .slice sa sn sc] 25) := ⟨_, rfl⟩
    have hbw0 : Below w.heap.size w w0 := by rw [hw0]; exact (Below.refl _ _).alloc (Nat.le_refl _) _
    have hR : Hid (sharedR x [] set = decide (set = 0)) := Lib.hid (by show (set == 0) = _; rw [Bool.eq_iff_iff]; simp)
    have hS : Hid (((set : Int) == 0) = decide (set = 0)) := Lib.hid (by rw [Bool.eq_iff_iff]; simp)
    clear hl hx
    go_enter Try.func48, Try.ntmps48
    replace hw0 := hw0.symm
    go_wp2_with fail
    go_ret
    exact ⟨ret_bool (by rw [hR.out]; first | exact hS.out | rfl | simp), hbw0⟩
  | i :: r, la, ln, lc, set, C, w, hB, hx, hC, hl, hlc, hi, hs => by
    have ih := Lib.hid (fun (la : Option Addr) (ln lc set C : Nat) (w : World) (h1 : B ≤ w.heap.size) (h2 : BookAt B w pa pn sa sn x) (h3 : C ≤ w.heap.size) (h4 : IntsAt C w la ln r) (h5 : ln ≤ lc) (h6 : ∀ y ∈ r, 0 ≤ y ∧ y < (x.planks.length : Int)) (h7 : set < 2 ^ x.parts.length) => shared_any (pc := pc) (sc := sc) hb r h1 h2 h3 h4 h5 h6 h7)
    have hG := good_of hb
    have hln : r.length + 1 = ln := hl.len
    have hi0 := hi i (by simp)
    obtain ⟨i', rfl⟩ := Int.eq_ofNat_of_zero_le hi0.1
    have hi2 : i' < x.planks.length := by omega
    have hir := Lib.hid (fun y (hy : y ∈ r) => hi y (by simp [hy]))
    have hpn := Lib.hid hx.planks.len
    have hsn := Lib.hid hx.parts.len
    have s2 : sn ≤ 5 := by rw [← hx.parts.len]; exact hG.parts.2
    have hs32 := lt32 hb hs
    obtain ⟨w0, hw0⟩ : ∃ w0, w0 = w.alloc (.cells #[.slice pa pn pc, .slice sa sn sc] 25) := ⟨_, rfl⟩
    have hbw0 : Below w.heap.size w w0 := by rw [hw0]; exact (Below.refl _ _).alloc (Nat.le_refl _) _
    have hk : Blk w0 w.heap.size #[.slice pa pn pc, .slice sa sn sc] := by rw [hw0]; exact Blk.new w _ _
    have l0 : w.heap.size < w0.heap.size := hk.lt
    have hx0 := Lib.hid (hx.keep (w' := w0) (Nat.le_refl _) (fun b o h => bcells hbw0 b o (by omega)))
    have hl0 := Lib.hid (hl.keep (w' := w0) (Nat.le_refl _) (fun b o h => bcells hbw0 b o (by omega)))
    obtain ⟨b1, o1, rfl, hb1, hc1⟩ := hl0.out.get 0 (by omega)
    have g0 := (hc1 0 (by omega)).1
    have hgi : gi ((i' : Int) :: r) 0 = i' := rfl
    rw [hgi, Nat.add_zero] at g0
    obtain ⟨tb, hcut1, hcut2⟩ := cut_tail (a := some ⟨b1, o1, none⟩) (n := ln) (c := lc) (by omega) hlc
    have hcut1' := Lib.hid (fun w => hcut1 w)
    have htl := Lib.hid (hcut2 hl0.out)
    have hb' := Lib.hid hb
    have hs' := Lib.hid hs
    obtain ⟨R, hR⟩ : ∃ R, R = sharedR x ((i' : Int) :: r) set := ⟨_, rfl⟩
    rw [← hR]
    obtain ⟨cond, hcond⟩ : ∃ cond : Nat → Bool, cond = fun t => (t &&& set == t) && (canLay x i' t && sharedR x r (set - t)) := ⟨_, rfl⟩
    have hR' : Hid (R = anyB (set + 1) cond) := Lib.hid (by rw [hR, hcond]; rfl)
    have hcond' : Hid (∀ t, cond t = ((t &&& set == t) && (canLay x i' t && sharedR x r (set - t)))) := Lib.hid (fun t => by rw [hcond])
    have hln1 : ln - 1 ≤ lc - 1 := by omega
    have hlz : ((ln : Int) == 0) = false := by simp; omega
    have hl1 : (0 : Int) < ln := by omega
    have hl2 : 0 < ln := by omega
    have hlnz : ln ≠ 0 := by omega
    have hI1 : b1 < w0.heap.size := by omega
    clear hl hx hcut1 hcut2 hc1 hgi hR hcond hG hb hs hi hi0 hln
    have q0 : w0.cell? ⟨w.heap.size, 0, none⟩ = some (.slice pa pn pc) := hk.cell
    have q1 : w0.cell? ⟨w.heap.size, 1, none⟩ = some (.slice sa sn sc) := hk.cell
    go_enter Try.func48, Try.ntmps48
    replace hw0 := hw0.symm
    go_wp2_with fail
    clear hw0 q0 q1 hlz
    go_loopw [7] (fun v wr => ∃ m : Int, -1 ≤ m ∧ m ≤ set ∧ v = .int .i64 m ∧ Hid (∀ t : Nat, m < t → t ≤ set → cond t = false) ∧ Below w0.heap.size w0 wr) (fun v _ => (intOf v + 1).toNat)
    case atStart => exact ⟨set, by omega, by omega, rfl, fun t h1 h2 => by omega, Below.refl _ _⟩
    case round =>
      obtain ⟨m, hm1, hm2, rfl, hno, hbr⟩ := hrel
      have hkr := hk.below hbr l0
      have hbwr := hbw0.trans (hbr.mono hbw0.size)
      have hzr := hbr.size
      by_cases hm : 0 ≤ m
      case neg =>
        obtain rfl : m = -1 := by omega
        have hRf : Hid (R = false) := Lib.hid (by
          rw [hR'.out, ← Bool.not_eq_true, anyB_iff]
          rintro ⟨t, ht, h⟩
          rw [hno.out t (by omega) (by omega)] at h; cases h)
        go_wp2_with fail
        go_ret
        exact ⟨ret_bool (by rw [hRf.out]), hbwr⟩
      obtain ⟨t, rfl⟩ := Int.eq_ofNat_of_zero_le hm
      have ht2 : t ≤ set := by omega
      have ht32 : t < 32 := by omega
      have htp : Hid (t < 2 ^ x.parts.length) := Lib.hid (by have := hs'.out; omega)
      have hand := and_bit ht32 hs32
      obtain ⟨Y, hY⟩ : ∃ Y, Y = t &&& set := ⟨_, rfl⟩
      rw [← hY] at hand
      have hct := hcond'.out t
      rw [← hY] at hct
      by_cases hYt : Y = t
      case neg =>
        have h1 : ((Y : Int) != (t : Int)) = true := by simp; omega
        have hc : Hid (cond t = false) := Lib.hid (by rw [hct]; simp [hYt])
        clear hct hY hYt
        go_wp2_with fail
        go_roundw
        case rel => exact ⟨(t : Int) - 1, by omega, by omega, rfl, fun u h1 h2 => by
          by_cases e : u = t
          · rw [e]; exact hc.out
          · exact hno.out u (by omega) h2, hbr⟩
        case measure => simp [intOf] <;> omega
      have h1 : ((Y : Int) != (t : Int)) = false := by simp [hYt]
      rw [hYt] at hct
      simp only [beq_self_eq_true, Bool.true_and] at hct
      obtain ⟨c1, hc1⟩ : ∃ c1, c1 = canLay x i' t := ⟨_, rfl⟩
      obtain ⟨c2, hc2⟩ : ∃ c2, c2 = sharedR x r (set - t) := ⟨_, rfl⟩
      rw [← hc1, ← hc2] at hct
      obtain ⟨E, hE⟩ : ∃ E, (layR x i' (memU t sn)).2 = E := ⟨_, rfl⟩
      have hEc : (c1 = true ∧ E = 0) ∨ (c1 = false ∧ E = 4) := by
        rw [← hE, ← hsn.out, lay_can hb'.out hi2 htp.out, hc1]
        cases canLay x i' t
        · exact .inr ⟨rfl, rfl⟩
        · exact .inl ⟨rfl, rfl⟩
      have hct' := Lib.hid hct
      have hE' := Lib.hid hE
      have hc2' := Lib.hid hc2
      have g1 := (bcells hbr b1 o1 hI1).trans g0
      clear hct hE hc1 hc2 hY hYt
      go_upto_region 7 with fail
      clear h1 hand
      go_cut [9] (fun s wx => s = .int .i64 E ∧ Below wr.heap.size wr wx)
      case first =>
        have hO := open_wide
        have hF := hO.fn
        have hd := hO.depth
        have hS0 : SameBut (fun _ => False) wr wr.drew := (SameBut.refl _ _).drew
        have hread : ∀ w', SameBut (fun _ => False) wr w' → w'.cell? ⟨w.heap.size, 0, none⟩ = some (.slice pa pn pc) ∧ w'.cell? ⟨w.heap.size, 1, none⟩ = some (.slice sa sn sc) ∧ w'.cell? ⟨b1, o1, none⟩ = some (.int .i64 i') := fun w' h =>
          ⟨(hkr.same h (fun e => e)).cell, (hkr.same h (fun e => e)).cell, (h.cell (by omega) (fun e => e)).trans g1⟩
        clear g1
        refine region_planW (fun w' => SameBut (fun _ => False) wr w') [(0, true), (1, true), (2, true), (3, true), (4, true), (5, true), (6, true), (7, true), (8, false), (9, false), (10, true), (11, true), (12, true), (13, true), (14, true)] (by kernel_rfl) (by kernel_rfl) (by kernel_rfl) (by decide) (by kernel_rfl) ?_
        iterate 8
          (refine plan_take ?_ rfl hS0 (by rfl) ?_ ?_
           rotate_left
           · intro w' hw'
             obtain ⟨q1, q2, q3⟩ := hread w' hw'
             go_simp
             with_reducible rfl
           simp only [Act.put, List.setIfInBounds_toArray, List.set_cons_zero, List.set_cons_succ])
        refine plan_one rfl (by rfl) (fun K hK => ?_)
        go_simp
        refine (hO.calls (List_any (s := t) (N := sn) ht32 s2)).mono ?_
        rintro e w5 ⟨ma, mn, mc, rfl, hl5, hb5⟩
        have hS5 : SameBut (fun _ => False) wr w5 := hS0.below hb5
        refine hK _ _ hS5 ?_
        clear hK K
        refine plan_one rfl (by rfl) (fun K hK => ?_)
        go_simp
        refine (hO.calls (Lay_any (B := w5.heap.size) (i := (i' : Int)) (Nat.le_refl _) (hx0.out.keep (by have := hS5.size; omega) (fun b o h => (hS5.cell (by omega) (fun e => e)).trans (bcells hbr b o (by omega)))) hl5)).mono ?_
        rintro e w6 ⟨ra, rn, rc, rfl, _, hb6⟩
        rw [hE'.out]
        have hS6 : SameBut (fun _ => False) wr w6 := hS5.below hb6
        refine hK _ _ hS6 ?_
        clear hK K hb6
        iterate 5
          (refine plan_take ?_ rfl hS6 (by rfl) ?_ ?_
           rotate_left
           · intro w' hw'
             go_simp
             with_reducible rfl
           simp only [Act.put, List.setIfInBounds_toArray, List.set_cons_zero, List.set_cons_succ])
        unfold planW okN
        go_wp2_with fail
        go_meet
        exact ⟨rfl, hS6.toBelow (Nat.le_refl _) (fun _ h => h.elim)⟩
      case rest =>
      obtain ⟨rfl, hb5⟩ := hcut
      obtain ⟨w5, hw5⟩ : ∃ w5, w5 = wc := ⟨_, rfl⟩
      rw [← hw5] at hb5 ⊢
      clear hw5
      have hbr5 := hbr.trans (hb5.mono hbr.size)
      have hk5 := hkr.below hb5 hkr.lt
      have hz5 := hb5.size
      have hbw5 := hbwr.trans (hb5.mono hbwr.size)
      clear g1 hbr hkr hb5 hbwr hE'
      go_upto_region 8 with fail
      go_cut [48] (fun s wx => s = .bool (c1 && c2) ∧ Below w5.heap.size w5 wx)
      case first =>
        have hO := open_wide
        have hF := hO.fn
        have hd := hO.depth
        have hS0 : SameBut (fun _ => False) w5 w5.drew := (SameBut.refl _ _).drew
        have hread : ∀ w', SameBut (fun _ => False) w5 w' → w'.cell? ⟨w.heap.size, 0, none⟩ = some (.slice pa pn pc) ∧ w'.cell? ⟨w.heap.size, 1, none⟩ = some (.slice sa sn sc) := fun w' h =>
          ⟨(hk5.same h (fun e => e)).cell, (hk5.same h (fun e => e)).cell⟩
        rcases hEc with ⟨rfl, rfl⟩ | ⟨rfl, rfl⟩
        case inr =>
          refine region_planW (fun w' => SameBut (fun _ => False) w5 w') [(0, true), (1, true), (2, true), (3, true), (4, true), (5, true), (6, true), (7, true), (8, true), (9, true), (10, true)] (by kernel_rfl) (by kernel_rfl) (by kernel_rfl) (by decide) (by kernel_rfl) ?_
          iterate 3
            (refine plan_take ?_ rfl hS0 (by rfl) ?_ ?_
             rotate_left
             · intro w' hw'
               go_simp
               with_reducible rfl
             simp only [Act.put, List.setIfInBounds_toArray, List.set_cons_zero, List.set_cons_succ])
          iterate 7
            (refine plan_skip rfl hS0 (by rfl) ?_
             simp only [Act.put, List.setIfInBounds_toArray, List.set_cons_zero, List.set_cons_succ])
          iterate 1
            (refine plan_take ?_ rfl hS0 (by rfl) ?_ ?_
             rotate_left
             · intro w' hw'
               go_simp
               with_reducible rfl
             simp only [Act.put, List.setIfInBounds_toArray, List.set_cons_zero, List.set_cons_succ])
          unfold planW okN
          go_wp2_with fail
          go_meet
          exact ⟨rfl, hS0.toBelow (Nat.le_refl _) (fun _ h => h.elim)⟩
        case inl =>
          have e1 : IntKind.i64.wrap ((set : Int) - t) = ((set - t : Nat) : Int) := by rw [show (set : Int) - t = ((set - t : Nat) : Int) by omega]; exact IntWalk.i64_in _ (by omega)
          have hcut1 := hcut1'.out
          refine region_planW (fun w' => SameBut (fun _ => False) w5 w') [(0, true), (1, true), (2, true), (3, true), (4, true), (5, true), (6, true), (7, true), (8, true), (9, false), (10, true)] (by kernel_rfl) (by kernel_rfl) (by kernel_rfl) (by decide) (by kernel_rfl) ?_
          iterate 9
            (refine plan_take ?_ rfl hS0 (by rfl) ?_ ?_
             rotate_left
             · intro w' hw'
               obtain ⟨q1, q2⟩ := hread w' hw'
               go_simp
               with_reducible rfl
             simp only [Act.put, List.setIfInBounds_toArray, List.set_cons_zero, List.set_cons_succ])
          refine plan_one rfl (by rfl) (fun K hK => ?_)
          go_simp
          refine (hO.calls (ih.out tb (ln - 1) (lc - 1) (set - t) C w5.drew (by show B ≤ w5.heap.size; omega) (hx0.out.keep (Nat.le_refl _) (fun b o h => bcells hbr5 b o (by omega))) (by show C ≤ w5.heap.size; omega) (htl.out.keep (Nat.le_refl _) (fun b o h => bcells hbr5 b o (by omega))) hln1 hir.out (by have := hs'.out; omega))).mono ?_
          rintro e w6 ⟨rfl, hb6⟩
          rw [show sharedR x r (set - t) = c2 from hc2'.out.symm]
          have hS6 : SameBut (fun _ => False) w5 w6 := hS0.below hb6
          refine hK _ _ hS6 ?_
          clear hK K hb6
          iterate 1
            (refine plan_take ?_ rfl hS6 (by rfl) ?_ ?_
             rotate_left
             · intro w' hw'
               go_simp
               with_reducible rfl
             simp only [Act.put, List.setIfInBounds_toArray, List.set_cons_zero, List.set_cons_succ])
          unfold planW okN
          go_wp2_with fail
          go_meet
          exact ⟨by cases c2 <;> rfl, hS6.toBelow (Nat.le_refl _) (fun _ h => h.elim)⟩
      case rest =>
      obtain ⟨rfl, hb6⟩ := hcut
      obtain ⟨w6, hw6⟩ : ∃ w6, w6 = wc := ⟨_, rfl⟩
      rw [← hw6] at hb6 ⊢
      clear hw6
      have hbr6 := hbr5.trans (hb6.mono hbr5.size)
      have hbw6 := hbw5.trans (hb6.mono hbw5.size)
      obtain ⟨c3, hc3⟩ : ∃ c3, c3 = (c1 && c2) := ⟨_, rfl⟩
      rw [← hc3]
      have hct3 : Hid (cond t = c3) := Lib.hid (by rw [hct'.out, hc3])
      clear hc3 hb6 hbr5 hbw5
      cases c3 with
      | true =>
        have hRt : Hid (R = true) := Lib.hid (by rw [hR'.out, anyB_iff]; exact ⟨t, by omega, hct3.out⟩)
        go_wp2_with fail
        go_ret
        exact ⟨ret_bool (by rw [hRt.out]), hbw6⟩
      | false =>
        go_wp2_with fail
        go_roundw
        case rel => exact ⟨(t : Int) - 1, by omega, by omega, rfl, fun u h1 h2 => by
          by_cases e : u = t
          · rw [e]; exact hct3.out
          · exact hno.out u (by omega) h2, hbr6⟩
        case measure => simp [intOf] <;> omega
end Go.Proofs.Ytilbkmogmlcpaaa
namespace Go.Proofs.Ytilbkmogmlcpaaa
open Go.RowKit Go.Shelf

section
variable {x : Book}
theorem enough_whole (hb : bookOk x = true) {n U sv : Nat} (hn : n = x.parts.length) (hU : U = 2 ^ n - 1) (hs : sv < 2 ^ x.planks.length) : (enoughR x sv U).1 = wholeF x sv := by
  have h1 : U < 2 ^ x.parts.length := by rw [hU, hn]; exact ones_lt _
  rw [Bool.eq_iff_iff, (enough_is hb hs h1).2, wholeF_pack hb]
  constructor
  · exact fun h => h.mono (fun _ _ h => h) (fun p hp => by rw [hU, has_ones, hn]; exact decide_eq_true hp)
  · exact fun h => h.mono (fun i hi h => h) (fun p hp => by rw [hU, has_ones, hn] at hp; simpa using hp)
theorem whole_pos (hb : bookOk x = true) {S : Nat} (h : wholeF x S = true) : S ≠ 0 := by
  rintro rfl
  obtain ⟨g, a, h1, _⟩ := (wholeF_pack hb).1 h
  have h2 : hasN 0 (g 0) = true := (h1 0 (by have := (good_of hb).parts.1; omega)).2.1
  rw [has_zero] at h2; cases h2
theorem memL_ne {S : Nat} (hS : S < 32) (h : S ≠ 0) : (memL S).length ≠ 0 := by
  intro e
  refine h (set_ext fun p => ?_)
  rw [has_zero]
  cases hp : hasN S p with
  | false => rfl
  | true =>
    have := (mem_memL hS).2 ⟨p, rfl, hp⟩
    rw [List.eq_nil_of_length_eq_zero e] at this
    cases this
end

set_option maxRecDepth 100000 in
set_option maxHeartbeats 4000000 in
theorem fewest_law {B : Nat} {pa sa : Option Addr} {pn pc sn sc : Nat} {x : Book} {n0 : Int} {w : World} (hB : B ≤ w.heap.size) (hx : BookAt B w pa pn sa sn x) :
    Calls Try.prog 9 #[.agg #[.slice pa pn pc, .slice sa sn sc], .int .i64 n0] w fun e w' => e = .returned (.bool true) ∧ Below w.heap.size w w' := by
  have hpn := Lib.hid hx.planks.len
  have hsn := Lib.hid hx.parts.len
  obtain ⟨w0, hw0⟩ : ∃ w0, w0 = w.alloc (.cells #[.slice pa pn pc, .slice sa sn sc] 25) := ⟨_, rfl⟩
  have hbw0 : Below w.heap.size w w0 := by rw [hw0]; exact (Below.refl _ _).alloc (Nat.le_refl _) _
  have hk : Blk w0 w.heap.size #[.slice pa pn pc, .slice sa sn sc] := by rw [hw0]; exact Blk.new w _ _
  have l0 : w.heap.size < w0.heap.size := hk.lt
  have hx0 := Lib.hid (hx.keep (w' := w0) (Nat.le_refl _) (fun b o h => bcells hbw0 b o (by omega)))
  have hBw : B ≤ w0.heap.size := by omega
  clear hx
  have q0 : w0.cell? ⟨w.heap.size, 0, none⟩ = some (.slice pa pn pc) := hk.cell
  have q1 : w0.cell? ⟨w.heap.size, 1, none⟩ = some (.slice sa sn sc) := hk.cell
  obtain ⟨L, hL⟩ : ∃ L, L = (fewestR x).1 := ⟨_, rfl⟩
  obtain ⟨E, hE⟩ : ∃ E, E = (fewestR x).2 := ⟨_, rfl⟩
  have hLE := Lib.hid (And.intro hL hE)
  clear hL hE
  go_enter Try.func9, Try.ntmps9
  replace hw0 := hw0.symm
  go_wp2_with fail
  clear hw0
  refine (Fewest_cap (B := B) hBw hx0.out).mono ?_
  rintro e w1 ⟨la, ln, lc, rfl, hl, hb1, hlc⟩
  rw [← hLE.out.1] at hl
  rw [← hLE.out.2]
  clear q0 q1
  replace hk := hk.below hb1 hk.lt
  replace hx0 := Lib.hid (hx0.out.keep (w' := w1) (Nat.le_refl _) (fun b o h => bcells hb1 b o (by omega)))
  replace hBw : B ≤ w1.heap.size := Nat.le_trans hBw hb1.size
  have hbw1 := hbw0.trans (hb1.mono hbw0.size)
  clear hbw0 hb1
  have hl1 := Lib.hid hl
  clear hl
  have q0 : w1.cell? ⟨w.heap.size, 0, none⟩ = some (.slice pa pn pc) := hk.cell
  have q1 : w1.cell? ⟨w.heap.size, 1, none⟩ = some (.slice sa sn sc) := hk.cell
  go_wp2_with fail
  refine (sound_any (B := B) hBw hx0.out).mono ?_
  rintro e w2 ⟨rfl, hb2⟩
  clear q0 q1
  have hl2 := Lib.hid (hl1.out.keep (w' := w2) hb2.size (fun b o h => bcells hb2 b o h))
  replace hk := hk.below hb2 hk.lt
  replace hx0 := Lib.hid (hx0.out.keep (w' := w2) (Nat.le_refl _) (fun b o h => bcells hb2 b o (by omega)))
  replace hBw : B ≤ w2.heap.size := Nat.le_trans hBw hb2.size
  have hbw2 := hbw1.trans (hb2.mono hbw1.size)
  clear hbw1 hb2
  clear hl1
  have hlen := Lib.hid hl2.out.len
  rcases Bool.eq_false_or_eq_true (bookOk x) with hb | hb
  case inr =>
    rw [hb]
    have h1 : fewestR x = ([], 10) := by unfold fewestR; rw [if_neg (by rw [hb]; simp)]
    have hp0 := hLE.out.1
    have he0 := hLE.out.2
    rw [h1] at hp0 he0
    simp only at hp0 he0
    subst hp0
    subst he0
    obtain rfl : ln = 0 := by simpa using hlen.out.symm
    clear h1 hb
    go_wp2_with fail
    refine (sawn_any _).mono ?_
    rintro e w3 ⟨rfl, hb3⟩
    go_wp2_with fail
    go_ret
    exact ⟨rfl, hbw2.trans (hb3.mono hbw2.size)⟩
  rw [hb]
  have hG := good_of hb
  have hb' := Lib.hid hb
  have hp1 := hG.planks
  have hp2 := hG.parts
  rw [hpn.out] at hp1
  rw [hsn.out] at hp2
  obtain ⟨p1, p2⟩ := hp1
  obtain ⟨s1, s2⟩ := hp2
  obtain ⟨U, hU1, hU2, hU3, hU4⟩ := pow_pred (n := sn) s2
  have hUp : Hid (U < 2 ^ x.parts.length) := Lib.hid (by rw [hsn.out]; exact hU3)
  obtain ⟨N, hN⟩ : ∃ N, N = 2 ^ pn := ⟨_, rfl⟩
  have hN1 : 1 ≤ N := by rw [hN]; exact Nat.pow_pos (by decide)
  have hN32 : N ≤ 32 := by rw [hN]; exact pow_le32 (by omega)
  have hwr1 : Hid (wrap64 (2 ^ pn) = (N : Int)) := Lib.hid (by rw [hN]; exact wrap_pow (by omega))
  have hU5 := Lib.hid hU4
  clear hU4
  have hNI : Hid (I64 (N : Int)) := Lib.hid (by unfold I64; omega)
  obtain ⟨sv, hsv⟩ : ∃ sv : Nat, rnd n0 N = sv := ⟨(rnd n0 N).toNat, by have := rnd_range (n := n0) (m := N) (by omega); omega⟩
  have hsvN : sv < N := by have := rnd_range (n := n0) (m := N) (by omega); omega
  have hsv32 : sv < 32 := by omega
  have hsv2 : Hid (sv < 2 ^ x.planks.length) := Lib.hid (by rw [hpn.out, ← hN]; exact hsvN)
  have hmem : Hid (memU sv pn = memL sv) := Lib.hid (memU_L (by rw [← hN]; exact hsvN) hsv32)
  have hsv' := Lib.hid hsv
  obtain ⟨D, hD⟩ : ∃ D, D = (enoughR x sv U).1 := ⟨_, rfl⟩
  have hD' := Lib.hid hD
  have hDw : D = wholeF x sv := by rw [hD, enough_whole hb hsn.out.symm hU1 hsv2.out]
  have hcase : (L = [] ∧ E = 4 ∧ D = false) ∨ (∃ S, S < 32 ∧ L = memL S ∧ E = 0 ∧ S < 2 ^ x.planks.length ∧ S ≠ 0 ∧ Pack x (fun i => hasN S i = true) (fun p => p < x.parts.length) ∧ (D = true → shorterI (memL sv) (memL S) = false)) := by
    rw [hLE.out.1, hLE.out.2, hDw]
    rcases fewest_is hb with ⟨h1, h2⟩ | ⟨S, h1, h2, h3⟩
    · rw [h1]
      refine .inl ⟨rfl, rfl, ?_⟩
      rw [← Bool.not_eq_true, wholeF_pack hb]
      exact fun h => h2 (h.mono (fun _ _ _ => trivial) (fun _ h => h))
    · rw [h2]
      refine .inr ⟨S, ?_, rfl, rfl, h1.1, whole_pos hb h1.2.1, (wholeF_pack hb).1 h1.2.1, fun h => ?_⟩
      · have h4 := h1.1
        rw [hpn.out, ← hN] at h4
        omega
      · rw [shorter_fewer]
        exact h1.2.2 sv hsv2.out h
  clear hN hsv hD hDw hG hb hU1 hU3 hLE
  have q0 : w2.cell? ⟨w.heap.size, 0, none⟩ = some (.slice pa pn pc) := hk.cell
  have q1 : w2.cell? ⟨w.heap.size, 1, none⟩ = some (.slice sa sn sc) := hk.cell
  have hU4 := hU5.out
  obtain ⟨M, hM⟩ : ∃ M : Int, M = (U : Int) + 1 := ⟨_, rfl⟩
  have hM3 : 1 ≤ M := by clear hU4; omega
  have hM4 : M ≤ 32 := by clear hU4; omega
  have hM2 : M - 1 = (U : Int) := by clear hU4; omega
  rw [← hM] at hU4
  clear hM
  have hwr0 := hwr1.out
  go_wp2_with fail
  refine (Round_any (n := n0) (m := N) _ hNI.out).mono ?_
  rintro e w3 ⟨rfl, rfl⟩
  rw [hsv'.out]
  clear hwr0 hU4 hwr1 hU5 hM2 hM3 hM4
  go_wp2_with fail
  refine (enough_any (B := B) hBw hx0.out hb'.out hsv2.out hUp.out).mono ?_
  rintro e w3 ⟨rfl, hb3⟩
  rw [← hD'.out]
  clear q0 q1
  have hl3 := Lib.hid (hl2.out.keep (w' := w3) hb3.size (fun b o h => bcells hb3 b o h))
  replace hk := hk.below hb3 hk.lt
  replace hx0 := Lib.hid (hx0.out.keep (w' := w3) (Nat.le_refl _) (fun b o h => bcells hb3 b o (by omega)))
  replace hBw : B ≤ w3.heap.size := Nat.le_trans hBw hb3.size
  have hbw3 := hbw2.trans (hb3.mono hbw2.size)
  clear hbw2 hb3
  clear hl2 hD' hsv'
  rcases hcase with ⟨rfl, rfl, rfl⟩ | ⟨S, hS32, rfl, rfl, hS2, hS0, hpk, hsh⟩
  case inl =>
    obtain rfl : ln = 0 := by simpa using hlen.out.symm
    go_wp2_with fail
    refine (sawn_any _).mono ?_
    rintro e w4 ⟨rfl, hb4⟩
    go_wp2_with fail
    go_ret
    exact ⟨rfl, hbw3.trans (hb4.mono hbw3.size)⟩
  have hgr : Hid (growsB (memL S) pn = true) := Lib.hid (grows_mem (by rw [← hpn.out]; exact hS2) hS32)
  have hln0 : ln ≠ 0 := by have h1 := memL_ne hS32 hS0; have h2 := hlen.out; omega
  have hlz : ((ln : Int) == 0) = false := by simp; omega
  have hnum : Hid (∀ y ∈ memL S, 0 ≤ y ∧ y < (x.planks.length : Int)) := Lib.hid (fun y hy => by
    obtain ⟨p, e, hp⟩ := (mem_memL hS32).1 hy
    have := has_lt hS2 hp
    omega)
  have hshr : Hid (sharedR x (memL S) U = true) := Lib.hid (by
    refine shared_yes hb'.out (memL S) U hnum.out hUp.out (hpk.mono (fun i _ hi => (mem_memL hS32).2 ⟨i, rfl, hi⟩) (fun p hp => ?_))
    have := has_lt hUp.out hp
    exact this)
  have hsh' := Lib.hid hsh
  clear hS2 hS0 hpk hsh hlen
  have q0 : w3.cell? ⟨w.heap.size, 0, none⟩ = some (.slice pa pn pc) := hk.cell
  have q1 : w3.cell? ⟨w.heap.size, 1, none⟩ = some (.slice sa sn sc) := hk.cell
  go_upto_region 9 with fail
  go_cut [92] (fun s wx => s = .bool false ∧ Below w3.heap.size w3 wx)
  case first =>
    go_wp2_with fail
    refine (Grows_any (m := (pn : Int)) hl3.out).mono ?_
    rintro e w4 ⟨rfl, hq4⟩
    rw [hgr.out]
    have hb4 : Below w3.heap.size w3 w4 := hq4.below _
    have hl4 := Lib.hid (hl3.out.keep (w' := w4) hb4.size (fun b o h => bcells hb4 b o h))
    have hk4 := hk.below hb4 hk.lt
    have z4 := hb4.size
    clear q0 q1 hq4
    have q0 : w4.cell? ⟨w.heap.size, 0, none⟩ = some (.slice pa pn pc) := hk4.cell
    cases D with
    | false =>
      go_wp2_with fail
      go_meet
      exact ⟨rfl, hb4⟩
    | true =>
      go_wp2_with fail
      refine (List_any (s := sv) (N := pn) hsv32 (by omega)).mono ?_
      rintro e w5 ⟨ma, mn, mc, rfl, hm, hb5⟩
      rw [hmem.out] at hm
      have hl5 := Lib.hid (hl4.out.keep (w' := w5) hb5.size (fun b o h => bcells hb5 b o h))
      have hm5 := Lib.hid hm
      clear hm q0
      go_wp2_with fail
      refine (Shorter_any hm5.out hl5.out).mono ?_
      rintro e w6 ⟨rfl, hq6⟩
      rw [hsh'.out (by simp)]
      have hb6 : Below w3.heap.size w3 w6 := (hb4.trans (hb5.mono z4)).trans ((hq6.below _).mono (Nat.le_trans z4 hb5.size))
      clear hq6 hb4 hb5
      go_wp2_with fail
      go_meet
      exact ⟨rfl, hb6⟩
  case rest =>
  obtain ⟨rfl, hb4⟩ := hcut
  obtain ⟨w4, hw4⟩ : ∃ w4, w4 = wc := ⟨_, rfl⟩
  rw [← hw4] at hb4 ⊢
  clear hw4
  have hl4 := Lib.hid (hl3.out.keep (w' := w4) hb4.size (fun b o h => bcells hb4 b o h))
  clear q0 q1
  replace hk := hk.below hb4 hk.lt
  replace hx0 := Lib.hid (hx0.out.keep (w' := w4) (Nat.le_refl _) (fun b o h => bcells hb4 b o (by omega)))
  replace hBw : B ≤ w4.heap.size := Nat.le_trans hBw hb4.size
  have hbw4 := hbw3.trans (hb4.mono hbw3.size)
  clear hbw3 hb4
  clear hl3
  have q0 : w4.cell? ⟨w.heap.size, 0, none⟩ = some (.slice pa pn pc) := hk.cell
  have q1 : w4.cell? ⟨w.heap.size, 1, none⟩ = some (.slice sa sn sc) := hk.cell
  go_wp2_with fail
  refine (shared_any (B := B) hb'.out (memL S) hBw hx0.out (Nat.le_refl _) hl4.out hlc hnum.out hUp.out).mono ?_
  rintro e w5 ⟨rfl, hb5⟩
  rw [hshr.out]
  have hbw5 := hbw4.trans (hb5.mono hbw4.size)
  go_wp2_with fail
  refine (sawn_any _).mono ?_
  rintro e w6 ⟨rfl, hb6⟩
  go_wp2_with fail
  go_ret
  exact ⟨rfl, hbw5.trans (hb6.mono hbw5.size)⟩
end Go.Proofs.Ytilbkmogmlcpaaa
namespace Go.Proofs.Ytilbkmogmlcpaaa
open Go.ChangeShapes Go.WideShapes Go.ChangeAt Go.RowKit Go.Deep

set_option maxRecDepth 100000 in
theorem plankFewest_lifted (os : Os) (started : os.Started) (H : Type) (enc : TypeId × Value → H) :
    ReturnsInHanded {} Try.checked os 9 .any (Rows.plankFewestSpec.pre6 enc Try.prog Try.f9 Rows.plankFewestRow.domain false) (Rows.plankFewestSpec.post enc Try.prog Try.f9 false true false false) := by
  refine returnsInHanded_of_change_sized (C := Try.checked) ownKnobs started (by kernel_rfl) Try.func9
    (ChangeSpec.witness6 (enc := enc) (C := Try.checked) false ⟨#[], #[.agg #[.slice none 0 0, .slice none 0 0], .int .i64 0], []⟩ 8 (by kernel_rfl) (by kernel_rfl) (by kernel_rfl) (by kernel_rfl)) ?_
  intro W base args ds gs before hval0 hW hcnd hsz0 _
  have hval : ∀ (j : Nat) t v, Try.f9.params[j]? = some t → args[j]? = some v → Value.okWide Try.prog W .any base t v := hval0
  have hsz : (DataW.weightsEach Try.prog (Try.f9.params.toList ++ Rows.plankFewestSpec.plain.varTypes Try.prog) (ds ++ gs)).all (· ≤ reachBytes) = true := hsz0
  have hW' := hW
  obtain ⟨p, q, hA0, hV, rfl, hfz, hnd⟩ := hW
  have hA : DataW.TrodAll enc Try.prog W 0 (fun _ => true) true Try.f9.params.toList args.toList ds p := hA0
  rw [Try.params9] at hA hval hsz
  obtain ⟨v0, vs0, d0, ds0, p0, q0, hargs, rfl, rfl, h0, r0⟩ := trodAll_cons hA
  obtain ⟨v1, vs1, d1, ds1, p1, q1, rfl, rfl, rfl, h1, r1⟩ := trodAll_cons r0
  obtain ⟨rfl, rfl, rfl⟩ := trodAll_nil r1
  obtain rfl : args = #[v0, v1] := by cases args; simp_all
  obtain ⟨rfl, rfl⟩ := trodVars_none hV
  have lt0 : ∀ x ∈ p0, x.block < W.heap.size := by obtain ⟨m, hm⟩ := h0; exact DataW.trod_lt m _ _ _ hm
  have lt1 : ∀ x ∈ p1, x.block < W.heap.size := by obtain ⟨m, hm⟩ := h1; exact DataW.trod_lt m _ _ _ hm
  have z0 : Sized 25 d0 := sized_each hsz (j := 0) rfl rfl
  obtain ⟨pa, pn, pc, sa, sn, sc, x, rfl, hx⟩ := book_open (hval 0 25 v0 rfl rfl) h0 z0
  obtain ⟨n1, rfl, i1⟩ := one_open (hval 1 3 v1 rfl rfl) h1
  clear hA0 hval0 hsz0
  refine (fewest_law (Nat.le_refl _) hx).mono fun e W' ⟨he, bel⟩ => ?_
  subst he
  exact ⟨_, rfl, _, _, _, [], _, [], hW', trodAll_mk1 (shut_bool Try.underlying4 _), (trodAll_cons_mk (Below.trod laidOut (by kernel_rfl) (of_decide_eq_true (by kernel_rfl)) h0 bel lt0) (trodAll_cons_mk (Below.trod laidOut (by kernel_rfl) (of_decide_eq_true (by kernel_rfl)) h1 bel lt1) trodAll_mk0)), rfl, bel.frame _, fun h => by cases h⟩

theorem plankFewest_holds : Rows.PlankFewestSaid :=
  OpenClaim.holds_of_wide 9 Try.f9 rfl rfl rfl rfl rfl rfl rfl ⟨rfl, rfl, rfl, rfl, rfl⟩ rfl rfl rfl rfl rfl (by kernel_rfl) Try.func9 (by kernel_rfl)
    (of_decide_eq_true (by kernel_rfl)) (by unfold Func.isWrapper; first | (rw [if_pos (by decide +kernel)]; kernel_rfl) | (rw [if_neg (by decide +kernel)]; exact ⟨rfl, rfl⟩))
    (fun os started H enc _ => plankFewest_lifted os started H enc)
end Go.Proofs.Ytilbkmogmlcpaaa
