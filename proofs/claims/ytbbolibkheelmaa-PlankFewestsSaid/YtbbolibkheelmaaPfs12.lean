/- Walks: can the parts of a set be shared by some planks? Walks: a book in which the inch of a knot is known. One element more behind a slice of one's own. -/
import Derived.Test.YtbbolibkheelmaaPfs08
import Derived.Test.YtbbolibkheelmaaPfs06
import Derived.Test.YtbbolibkheelmaaGa14
namespace Go.Proofs.Ytbbolibkheelmaa
open Go.RowKit Go.Shelf

theorem cut_tail {a : Option Addr} {n c : Nat} (h1 : 1 ≤ n) (h2 : n ≤ c) : ∃ b, (∀ w, (Instr.sliceAt 31 (.slice a n c) (some (.int .i64 1)) none none).run Try.prog w = .ok (.slice b (n - 1) (c - 1)) w) ∧ ∀ {B : Nat} {w : World} {xs : List Int}, IntsAt B w a n xs → IntsAt B w b (n - 1) xs.tail := by
  have hu : Try.prog.underlying 31 = some (.slice (Try.prog.elem 31)) := by kernel_rfl
  have hs : ∀ w, (sizeOf (Try.prog.elem 31)).run Try.prog w = .ok 1 w := fun w => by kernel_rfl
  refine ⟨if c = 1 then a else a.map (·.add (1 * 1)), fun w => ?_, fun {B w xs} h => ?_⟩
  · rw [run_sliceAt_slice (h := hu), run_slice_l (ht := hu) (h0 := by omega) (h1 := by omega), hs]
    rfl
  · have hl : xs.tail.length = n - 1 := by rw [List.length_tail, h.len]
    refine ⟨hl, by have := h.small; omega, fun i hi => ?_⟩
    obtain ⟨b, o, rfl, hb, hc⟩ := h.get 0 (by omega)
    rw [if_neg (by omega)]
    refine ⟨b, o + 1, ?_, hb, fun j hj => ?_⟩
    · simp [Addr.add]
    · have := hc (j + 1) (by omega)
      have e : gi xs.tail j = gi xs (j + 1) := by
        unfold gi
        rw [List.getD_eq_getElem?_getD, List.getD_eq_getElem?_getD, List.getElem?_tail]
      rw [e, show o + 1 + j = o + (j + 1) by omega]
      exact this

set_option maxRecDepth 100000 in
set_option maxHeartbeats 4000000 in
theorem shared_any {B : Nat} {pa sa : Option Addr} {pn pc sn sc : Nat} {x : Book} (hb : bookOk x = true) :
    ∀ (l : List Int) {la : Option Addr} {ln lc set C : Nat} {w : World}, B ≤ w.heap.size → BookAt B w pa pn sa sn x → C ≤ w.heap.size → IntsAt C w la ln l → ln ≤ lc → (∀ y ∈ l, 0 ≤ y ∧ y < (x.planks.length : Int)) → set < 2 ^ x.parts.length →
    Calls Try.prog 48 #[.agg #[.slice pa pn pc, .slice sa sn sc], .slice la ln lc, .int .i64 set] w fun e w' => e = .returned (.bool (sharedR x l set)) ∧ Below w.heap.size w w'
  | [], la, ln, lc, set, C, w, hB, hx, hC, hl, hlc, hi, hs => by
    obtain rfl : ln = 0 := by simpa using hl.len.symm
    obtain ⟨w0, hw0⟩ : ∃ w0, w0 = w.alloc (.cells #[.slice pa pn pc, .slice sa sn sc] 25) := ⟨_, rfl⟩
    have hbw0 : Below w.heap.size w w0 := by rw [hw0]; exact (Below.refl _ _).alloc (Nat.le_refl _) _
    have hR : Hid (sharedR x [] set = decide (set = 0)) := Lib.hid (by show (set == 0) = _; rw [Bool.eq_iff_iff]; simp)
    have hS : Hid (((set : Int) == 0) = decide (set = 0)) := Lib.hid (by rw [Bool.eq_iff_iff]; simp)
    clear hl hx
    go_enter Try.func48, Try.ntmps48
    replace hw0 := hw0.symm
    go_wp2_with fail
    go_ret
    exact ⟨ret_bool (by rw [hR.out]; first | exact hS.out | rfl | simp), hbw0⟩
  | i :: r, la, ln, lc, set, C, w, hB, hx, hC, hl, hlc, hi, hs => by
    have ih := Lib.hid (fun (la : Option Addr) (ln lc set C : Nat) (w : World) (h1 : B ≤ w.heap.size) (h2 : BookAt B w pa pn sa sn x) (h3 : C ≤ w.heap.size) (h4 : IntsAt C w la ln r) (h5 : ln ≤ lc) (h6 : ∀ y ∈ r, 0 ≤ y ∧ y < (x.planks.length : Int)) (h7 : set < 2 ^ x.parts.length) => shared_any (pc := pc) (sc := sc) hb r h1 h2 h3 h4 h5 h6 h7)
    have hG := good_of hb
    have hln : r.length + 1 = ln := hl.len
    have hi0 := hi i (by simp)
    obtain ⟨i', rfl⟩ := Int.eq_ofNat_of_zero_le hi0.1
    have hi2 : i' < x.planks.length := by omega
    have hir := Lib.hid (fun y (hy : y ∈ r) => hi y (by simp [hy]))
    have hpn := Lib.hid hx.planks.len
    have hsn := Lib.hid hx.parts.len
    have s2 : sn ≤ 5 := by rw [← hx.parts.len]; exact hG.parts.2
    have hs32 := lt32 hb hs
    obtain ⟨w0, hw0⟩ : ∃ w0, w0 = w.alloc (.cells #[.slice pa pn pc, .slice sa sn sc] 25) := ⟨_, rfl⟩
    have hbw0 : Below w.heap.size w w0 := by rw [hw0]; exact (Below.refl _ _).alloc (Nat.le_refl _) _
    have hk : Blk w0 w.heap.size #[.slice pa pn pc, .slice sa sn sc] := by rw [hw0]; exact Blk.new w _ _
    have l0 : w.heap.size < w0.heap.size := hk.lt
    have hx0 := Lib.hid (hx.keep (w' := w0) (Nat.le_refl _) (fun b o h => bcells hbw0 b o (by omega)))
    have hl0 := Lib.hid (hl.keep (w' := w0) (Nat.le_refl _) (fun b o h => bcells hbw0 b o (by omega)))
    obtain ⟨b1, o1, rfl, hb1, hc1⟩ := hl0.out.get 0 (by omega)
    have g0 := (hc1 0 (by omega)).1
    have hgi : gi ((i' : Int) :: r) 0 = i' := rfl
    rw [hgi, Nat.add_zero] at g0
    obtain ⟨tb, hcut1, hcut2⟩ := cut_tail (a := some ⟨b1, o1, none⟩) (n := ln) (c := lc) (by omega) hlc
    have hcut1' := Lib.hid (fun w => hcut1 w)
    have htl := Lib.hid (hcut2 hl0.out)
    have hb' := Lib.hid hb
    have hs' := Lib.hid hs
    obtain ⟨R, hR⟩ : ∃ R, R = sharedR x ((i' : Int) :: r) set := ⟨_, rfl⟩
    rw [← hR]
    obtain ⟨cond, hcond⟩ : ∃ cond : Nat → Bool, cond = fun t => (t &&& set == t) && (canLay x i' t && sharedR x r (set - t)) := ⟨_, rfl⟩
    have hR' : Hid (R = anyB (set + 1) cond) := Lib.hid (by rw [hR, hcond]; rfl)
    have hcond' : Hid (∀ t, cond t = ((t &&& set == t) && (canLay x i' t && sharedR x r (set - t)))) := Lib.hid (fun t => by rw [hcond])
    have hln1 : ln - 1 ≤ lc - 1 := by omega
    have hlz : ((ln : Int) == 0) = false := by simp; omega
    have hl1 : (0 : Int) < ln := by omega
    have hl2 : 0 < ln := by omega
    have hlnz : ln ≠ 0 := by omega
    have hI1 : b1 < w0.heap.size := by omega
    clear hl hx hcut1 hcut2 hc1 hgi hR hcond hG hb hs hi hi0 hln
    have q0 : w0.cell? ⟨w.heap.size, 0, none⟩ = some (.slice pa pn pc) := hk.cell
    have q1 : w0.cell? ⟨w.heap.size, 1, none⟩ = some (.slice sa sn sc) := hk.cell
    go_enter Try.func48, Try.ntmps48
    replace hw0 := hw0.symm
    go_wp2_with fail
    clear hw0 q0 q1 hlz
    go_loopw [7] (fun v wr => ∃ m : Int, -1 ≤ m ∧ m ≤ set ∧ v = .int .i64 m ∧ Hid (∀ t : Nat, m < t → t ≤ set → cond t = false) ∧ Below w0.heap.size w0 wr) (fun v _ => (intOf v + 1).toNat)
    case atStart => exact ⟨set, by omega, by omega, rfl, fun t h1 h2 => by omega, Below.refl _ _⟩
    case round =>
      obtain ⟨m, hm1, hm2, rfl, hno, hbr⟩ := hrel
      have hkr := hk.below hbr l0
      have hbwr := hbw0.trans (hbr.mono hbw0.size)
      have hzr := hbr.size
      by_cases hm : 0 ≤ m
      case neg =>
        obtain rfl : m = -1 := by omega
        have hRf : Hid (R = false) := Lib.hid (by
          rw [hR'.out, ← Bool.not_eq_true, anyB_iff]
          rintro ⟨t, ht, h⟩
          rw [hno.out t (by omega) (by omega)] at h; cases h)
        go_wp2_with fail
        go_ret
        exact ⟨ret_bool (by rw [hRf.out]), hbwr⟩
      obtain ⟨t, rfl⟩ := Int.eq_ofNat_of_zero_le hm
      have ht2 : t ≤ set := by omega
      have ht32 : t < 32 := by omega
      have htp : Hid (t < 2 ^ x.parts.length) := Lib.hid (by have := hs'.out; omega)
      have hand := and_bit ht32 hs32
      obtain ⟨Y, hY⟩ : ∃ Y, Y = t &&& set := ⟨_, rfl⟩
      rw [← hY] at hand
      have hct := hcond'.out t
      rw [← hY] at hct
      by_cases hYt : Y = t
      case neg =>
        have h1 : ((Y : Int) != (t : Int)) = true := by simp; omega
        have hc : Hid (cond t = false) := Lib.hid (by rw [hct]; simp [hYt])
        clear hct hY hYt
        go_wp2_with fail
        go_roundw
        case rel => exact ⟨(t : Int) - 1, by omega, by omega, rfl, fun u h1 h2 => by
          by_cases e : u = t
          · rw [e]; exact hc.out
          · exact hno.out u (by omega) h2, hbr⟩
        case measure => simp [intOf] <;> omega
      have h1 : ((Y : Int) != (t : Int)) = false := by simp [hYt]
      rw [hYt] at hct
      simp only [beq_self_eq_true, Bool.true_and] at hct
      obtain ⟨c1, hc1⟩ : ∃ c1, c1 = canLay x i' t := ⟨_, rfl⟩
      obtain ⟨c2, hc2⟩ : ∃ c2, c2 = sharedR x r (set - t) := ⟨_, rfl⟩
      rw [← hc1, ← hc2] at hct
      obtain ⟨E, hE⟩ : ∃ E, (layR x i' (memU t sn)).2 = E := ⟨_, rfl⟩
      have hEc : (c1 = true ∧ E = 0) ∨ (c1 = false ∧ E = 4) := by
        rw [← hE, ← hsn.out, lay_can hb'.out hi2 htp.out, hc1]
        cases canLay x i' t
        · exact .inr ⟨rfl, rfl⟩
        · exact .inl ⟨rfl, rfl⟩
      have hct' := Lib.hid hct
      have hE' := Lib.hid hE
      have hc2' := Lib.hid hc2
      have g1 := (bcells hbr b1 o1 hI1).trans g0
      clear hct hE hc1 hc2 hY hYt
      go_upto_region 7 with fail
      clear h1 hand
      go_cut [9] (fun s wx => s = .int .i64 E ∧ Below wr.heap.size wr wx)
      case first =>
        have hO := open_wide
        have hF := hO.fn
        have hd := hO.depth
        have hS0 : SameBut (fun _ => False) wr wr.drew := (SameBut.refl _ _).drew
        have hread : ∀ w', SameBut (fun _ => False) wr w' → w'.cell? ⟨w.heap.size, 0, none⟩ = some (.slice pa pn pc) ∧ w'.cell? ⟨w.heap.size, 1, none⟩ = some (.slice sa sn sc) ∧ w'.cell? ⟨b1, o1, none⟩ = some (.int .i64 i') := fun w' h =>
          ⟨(hkr.same h (fun e => e)).cell, (hkr.same h (fun e => e)).cell, (h.cell (by omega) (fun e => e)).trans g1⟩
        clear g1
        refine region_planW (fun w' => SameBut (fun _ => False) wr w') [(0, true), (1, true), (2, true), (3, true), (4, true), (5, true), (6, true), (7, true), (8, false), (9, false), (10, true), (11, true), (12, true), (13, true), (14, true)] (by kernel_rfl) (by kernel_rfl) (by kernel_rfl) (by decide) (by kernel_rfl) ?_
        iterate 8
          (refine plan_take ?_ rfl hS0 (by rfl) ?_ ?_
           rotate_left
           · intro w' hw'
             obtain ⟨q1, q2, q3⟩ := hread w' hw'
             go_simp
             with_reducible rfl
           simp only [Act.put, List.setIfInBounds_toArray, List.set_cons_zero, List.set_cons_succ])
        refine plan_one rfl (by rfl) (fun K hK => ?_)
        go_simp
        refine (hO.calls (List_any (s := t) (N := sn) ht32 s2)).mono ?_
        rintro e w5 ⟨ma, mn, mc, rfl, hl5, hb5⟩
        have hS5 : SameBut (fun _ => False) wr w5 := hS0.below hb5
        refine hK _ _ hS5 ?_
        clear hK K
        refine plan_one rfl (by rfl) (fun K hK => ?_)
        go_simp
        refine (hO.calls (Lay_any (B := w5.heap.size) (i := (i' : Int)) (Nat.le_refl _) (hx0.out.keep (by have := hS5.size; omega) (fun b o h => (hS5.cell (by omega) (fun e => e)).trans (bcells hbr b o (by omega)))) hl5)).mono ?_
        rintro e w6 ⟨ra, rn, rc, rfl, _, hb6⟩
        rw [hE'.out]
        have hS6 : SameBut (fun _ => False) wr w6 := hS5.below hb6
        refine hK _ _ hS6 ?_
        clear hK K hb6
        iterate 5
          (refine plan_take ?_ rfl hS6 (by rfl) ?_ ?_
           rotate_left
           · intro w' hw'
             go_simp
             with_reducible rfl
           simp only [Act.put, List.setIfInBounds_toArray, List.set_cons_zero, List.set_cons_succ])
        unfold planW okN
        go_wp2_with fail
        go_meet
        exact ⟨rfl, hS6.toBelow (Nat.le_refl _) (fun _ h => h.elim)⟩
      case rest =>
      obtain ⟨rfl, hb5⟩ := hcut
      obtain ⟨w5, hw5⟩ : ∃ w5, w5 = wc := ⟨_, rfl⟩
      rw [← hw5] at hb5 ⊢
      clear hw5
      have hbr5 := hbr.trans (hb5.mono hbr.size)
      have hk5 := hkr.below hb5 hkr.lt
      have hz5 := hb5.size
      have hbw5 := hbwr.trans (hb5.mono hbwr.size)
      clear g1 hbr hkr hb5 hbwr hE'
      go_upto_region 8 with fail
      go_cut [48] (fun s wx => s = .bool (c1 && c2) ∧ Below w5.heap.size w5 wx)
      case first =>
        have hO := open_wide
        have hF := hO.fn
        have hd := hO.depth
        have hS0 : SameBut (fun _ => False) w5 w5.drew := (SameBut.refl _ _).drew
        have hread : ∀ w', SameBut (fun _ => False) w5 w' → w'.cell? ⟨w.heap.size, 0, none⟩ = some (.slice pa pn pc) ∧ w'.cell? ⟨w.heap.size, 1, none⟩ = some (.slice sa sn sc) := fun w' h =>
          ⟨(hk5.same h (fun e => e)).cell, (hk5.same h (fun e => e)).cell⟩
        rcases hEc with ⟨rfl, rfl⟩ | ⟨rfl, rfl⟩
        case inr =>
          refine region_planW (fun w' => SameBut (fun _ => False) w5 w') [(0, true), (1, true), (2, true), (3, true), (4, true), (5, true), (6, true), (7, true), (8, true), (9, true), (10, true)] (by kernel_rfl) (by kernel_rfl) (by kernel_rfl) (by decide) (by kernel_rfl) ?_
          iterate 3
            (refine plan_take ?_ rfl hS0 (by rfl) ?_ ?_
             rotate_left
             · intro w' hw'
               go_simp
               with_reducible rfl
             simp only [Act.put, List.setIfInBounds_toArray, List.set_cons_zero, List.set_cons_succ])
          iterate 7
            (refine plan_skip rfl hS0 (by rfl) ?_
             simp only [Act.put, List.setIfInBounds_toArray, List.set_cons_zero, List.set_cons_succ])
          iterate 1
            (refine plan_take ?_ rfl hS0 (by rfl) ?_ ?_
             rotate_left
             · intro w' hw'
               go_simp
               with_reducible rfl
             simp only [Act.put, List.setIfInBounds_toArray, List.set_cons_zero, List.set_cons_succ])
          unfold planW okN
          go_wp2_with fail
          go_meet
          exact ⟨rfl, hS0.toBelow (Nat.le_refl _) (fun _ h => h.elim)⟩
        case inl =>
          have e1 : IntKind.i64.wrap ((set : Int) - t) = ((set - t : Nat) : Int) := by rw [show (set : Int) - t = ((set - t : Nat) : Int) by omega]; exact IntWalk.i64_in _ (by omega)
          have hcut1 := hcut1'.out
          refine region_planW (fun w' => SameBut (fun _ => False) w5 w') [(0, true), (1, true), (2, true), (3, true), (4, true), (5, true), (6, true), (7, true), (8, true), (9, false), (10, true)] (by kernel_rfl) (by kernel_rfl) (by kernel_rfl) (by decide) (by kernel_rfl) ?_
          iterate 9
            (refine plan_take ?_ rfl hS0 (by rfl) ?_ ?_
             rotate_left
             · intro w' hw'
               obtain ⟨q1, q2⟩ := hread w' hw'
               go_simp
               with_reducible rfl
             simp only [Act.put, List.setIfInBounds_toArray, List.set_cons_zero, List.set_cons_succ])
          refine plan_one rfl (by rfl) (fun K hK => ?_)
          go_simp
          refine (hO.calls (ih.out tb (ln - 1) (lc - 1) (set - t) C w5.drew (by show B ≤ w5.heap.size; omega) (hx0.out.keep (Nat.le_refl _) (fun b o h => bcells hbr5 b o (by omega))) (by show C ≤ w5.heap.size; omega) (htl.out.keep (Nat.le_refl _) (fun b o h => bcells hbr5 b o (by omega))) hln1 hir.out (by have := hs'.out; omega))).mono ?_
          rintro e w6 ⟨rfl, hb6⟩
          rw [show sharedR x r (set - t) = c2 from hc2'.out.symm]
          have hS6 : SameBut (fun _ => False) w5 w6 := hS0.below hb6
          refine hK _ _ hS6 ?_
          clear hK K hb6
          iterate 1
            (refine plan_take ?_ rfl hS6 (by rfl) ?_ ?_
             rotate_left
             · intro w' hw'
               go_simp
               with_reducible rfl
             simp only [Act.put, List.setIfInBounds_toArray, List.set_cons_zero, List.set_cons_succ])
          unfold planW okN
          go_wp2_with fail
          go_meet
          exact ⟨by cases c2 <;> rfl, hS6.toBelow (Nat.le_refl _) (fun _ h => h.elim)⟩
      case rest =>
      obtain ⟨rfl, hb6⟩ := hcut
      obtain ⟨w6, hw6⟩ : ∃ w6, w6 = wc := ⟨_, rfl⟩
      rw [← hw6] at hb6 ⊢
      clear hw6
      have hbr6 := hbr5.trans (hb6.mono hbr5.size)
      have hbw6 := hbw5.trans (hb6.mono hbw5.size)
      obtain ⟨c3, hc3⟩ : ∃ c3, c3 = (c1 && c2) := ⟨_, rfl⟩
      rw [← hc3]
      have hct3 : Hid (cond t = c3) := Lib.hid (by rw [hct'.out, hc3])
      clear hc3 hb6 hbr5 hbw5
      cases c3 with
      | true =>
        have hRt : Hid (R = true) := Lib.hid (by rw [hR'.out, anyB_iff]; exact ⟨t, by omega, hct3.out⟩)
        go_wp2_with fail
        go_ret
        exact ⟨ret_bool (by rw [hRt.out]), hbw6⟩
      | false =>
        go_wp2_with fail
        go_roundw
        case rel => exact ⟨(t : Int) - 1, by omega, by omega, rfl, fun u h1 h2 => by
          by_cases e : u = t
          · rw [e]; exact hct3.out
          · exact hno.out u (by omega) h2, hbr6⟩
        case measure => simp [intOf] <;> omega
end Go.Proofs.Ytbbolibkheelmaa
namespace Go.Proofs.Ytbbolibkheelmaa
open Go.RowKit Go.Shelf

/-- Some elements more behind a slice of one's own. -/
theorem grow_many {w : World} {base n m c b o e sl size bytes : Nat} {z : Value} {va : Option Addr} {vn vc : Nat} {xs news : List Value} (hinfo : (Try.prog.info? e).map (fun i => (i.zero, i.size, i.bytes)) = some (some z, size, bytes)) (hu : Try.prog.underlying sl = some (.slice e))
    (hz : z.cells.size = size) (h0 : 0 < size) (hby : bytes ≤ 1000) (hown : w.ownsRow base e size (.slice va vn vc) n xs) (hl : news.length = m * size) (hc : ∀ j u, news[j]? = some u → w.cell? ⟨b, o + j, none⟩ = some u) (h1 : ∀ u ∈ news, u.oneCell' = true) (hn : n + m ≤ 1000) (hb : base ≤ w.heap.size) :
    ∃ v' w', (appendS #[sl, sl] sl #[.slice va vn vc, .slice (some ⟨b, o, none⟩) m c]).run Try.prog w = .ok v' w' ∧
      w'.ownsRow base e size v' (n + m) (xs ++ news) ∧ SameBut (fun i => base ≤ i) w w' := by
  obtain ⟨i0, hi, hz0, hz1, hz2⟩ := info_parts hinfo
  obtain ⟨v', w7, hap, hown7, hgr7, _, _⟩ := run_append_own_at (P := Try.prog) (w := w) base sl sl e i0 z size bytes hu hi hz0 hz1 hz2 hz h0 (.slice va vn vc) _ _ hown ⟨b, o, none⟩ m c news hl
    (fun j u hj => by rw [add_at]; exact hc j u hj)
    h1 (by unfold maxLen; omega) (by have : (n + m) * bytes ≤ 1000 * 1000 := Nat.mul_le_mul (by omega) hby
                                     omega) hb
  have hlt6 := hown.lt
  exact ⟨v', w7, hap, hown7, same_grown hgr7 (fun k h => (hlt6 k h).1)⟩
theorem own_blk {w : World} {base e size n : Nat} {v : Value} {xs : List Value} (h : w.ownsRow base e size v n xs) (hn : 0 < n) :
    ∃ g c cur, v = .slice (some ⟨g, 0, none⟩) n c ∧ base ≤ g ∧ g < w.heap.size ∧ n ≤ c ∧ Blk w g cur ∧ ∀ (k : Nat) (u : Value), xs[k]? = some u → cur[k]? = some u := by
  obtain ⟨h1, h2⟩ := h
  rcases h2 with ⟨rfl, rfl⟩ | ⟨g, cap, cur, rfl, hb, hg, hc, hm, hs, ht⟩
  · omega
  · refine ⟨g, cap, cur, rfl, hb, (Array.getElem?_eq_some_iff.1 hg).1, hc, ⟨_, hg⟩, fun k u hk => ?_⟩
    have hkl : k < n * size := by
      have := (List.getElem?_eq_some_iff.1 hk).1
      omega
    rw [← Array.getElem?_toList, ← List.getElem?_take_of_lt hkl, ht]
    exact hk

theorem flat_len {f : Nat → List Value} {n m : Nat} (hf : ∀ i, (f i).length = m) : ((List.range n).flatMap f).length = n * m := by
  induction n with
  | zero => simp
  | succ n ih => rw [List.range_succ, List.flatMap_append, List.length_append, ih]; simp [hf, Nat.succ_mul]
theorem flat_cell {w : World} {b o n m : Nat} {f : Nat → List Value} (hf : ∀ i, (f i).length = m) (hm : 0 < m) (hc : ∀ i, i < n → ∀ j, j < m → w.cell? ⟨b, o + (i * m + j), none⟩ = (f i)[j]?) : ∀ (j : Nat) (u : Value), ((List.range n).flatMap f)[j]? = some u → w.cell? ⟨b, o + j, none⟩ = some u := by
  intro j u hj
  have hl : j < n * m := by
    have := (List.getElem?_eq_some_iff.1 hj).1
    rwa [flat_len hf] at this
  have h1 : j / m < n := Nat.div_lt_of_lt_mul (by rw [Nat.mul_comm]; exact hl)
  have h2 : j % m < m := Nat.mod_lt _ hm
  have h3 : j / m * m + j % m = j := by have := Nat.div_add_mod j m; rw [Nat.mul_comm] at this; exact this
  have h4 := flat_get (L := List.range n) (f := f) (m := m) (i := j / m) (j := j % m) hf (by simpa using h1) h2
  rw [h3, hj, List.getElem_range] at h4
  have h5 := hc (j / m) h1 (j % m) h2
  rw [h3] at h5
  rw [h5, ← h4]
def spanC (x : Wood) (j : Nat) : List Value := [.int .i64 (gp x.knots j).1, .int .i64 (gp x.knots j).2]
theorem two_cases {j : Nat} {P : Nat → Prop} (h : j < 2) (h0 : P 0) (h1 : P 1) : P j := by
  rcases (by omega : j = 0 ∨ j = 1) with rfl | rfl <;> assumption

/-- What is left of the last row of cells when one is stored. -/
theorem set_get {c : Array Value} {i j : Nat} {v u : Value} (h : c[j]? = some u) : (c.setIfInBounds i v)[j]? = some (if j = i then v else u) := by
  rw [Array.getElem?_setIfInBounds]
  have hj : j < c.size := (Array.getElem?_eq_some_iff.1 h).1
  by_cases e : i = j
  · subst e; simp [hj]
  · rw [if_neg e, if_neg (fun h => e h.symm)]; exact h

attribute [local go_sem ↓] append_alias

set_option maxRecDepth 100000 in
set_option maxHeartbeats 4000000 in
theorem known_any {B : Nat} {pa sa : Option Addr} {pn pc sn sc i k : Nat} {x : Book} {t : Int} {w : World} (hB : B ≤ w.heap.size) (hx : BookAt B w pa pn sa sn x) (h1 : pn ≤ 100) (hi : i < pn) (hk : k < (gw x.planks i).knots.length) (h3 : (gw x.planks i).knots.length ≤ 100) (ht : I64 t) :
    Calls Try.prog 51 #[.agg #[.slice pa pn pc, .slice sa sn sc], .int .i64 i, .int .i64 k, .int .i64 t] w fun e w' => ∃ qa qn qc, e = .returned (.agg #[.slice qa qn qc, .slice sa sn sc]) ∧ BookAt w'.heap.size w' qa qn sa sn (lookedB x i k t) ∧ Below w.heap.size w w' := by
  have hpn := Lib.hid hx.planks.len
  obtain ⟨W0, hW0⟩ : ∃ W0, W0 = ((w.alloc (.cells #[.slice pa pn pc, .slice sa sn sc] 25)).alloc (.cells #[.slice none 0 0, .slice none 0 0] 25)).alloc (.cells #[.slice pa pn pc, .slice sa sn sc] 25) := ⟨_, rfl⟩
  have hb0 : Below w.heap.size w W0 := by rw [hW0]; exact (((Below.refl _ _).alloc (Nat.le_refl _) _).alloc (by simp) _).alloc (by simp; omega) _
  have hk0 : Blk W0 w.heap.size #[.slice pa pn pc, .slice sa sn sc] := by rw [hW0]; exact ((Blk.new w _ _).alloc _).alloc _
  have hr0 : Blk W0 (w.heap.size + 1) #[.slice none 0 0, .slice none 0 0] := by
    rw [hW0]
    have := Blk.new (w.alloc (.cells #[.slice pa pn pc, .slice sa sn sc] 25)) #[.slice none 0 0, .slice none 0 0] 25
    rw [World.size_alloc] at this
    exact this.alloc _
  have hX0 : Blk W0 (w.heap.size + 2) #[.slice pa pn pc, .slice sa sn sc] := by
    rw [hW0]
    have := Blk.new ((w.alloc (.cells #[.slice pa pn pc, .slice sa sn sc] 25)).alloc (.cells #[.slice none 0 0, .slice none 0 0] 25)) #[.slice pa pn pc, .slice sa sn sc] 25
    rw [World.size_alloc, World.size_alloc] at this
    exact this
  have hz0 : w.heap.size + 3 ≤ W0.heap.size := by rw [hW0]; simp
  have hx0 := hx.keep (w' := W0) (Nat.le_refl _) (fun b o h => bcells hb0 b o (by omega))
  clear hx
  have hparts := Lib.hid hx0.parts
  obtain ⟨pb, po, kv, rfl, hpB, hkv⟩ := woods_cells hx0.planks (by omega)
  obtain ⟨hki, _, c1, _⟩ := hkv i hi
  obtain ⟨ka, kn, kc, hke, hks⟩ := hki
  have hkn : kn = (gw x.planks i).knots.length := hks.len.symm
  rw [hke] at c1
  obtain ⟨kb, ko, rfl, hkB, hkc⟩ := hks.get 0 (by omega)
  have hkv' := Lib.hid hkv
  have hkc' := Lib.hid hkc
  have hkn3 : kn ≤ 100 := by omega
  have hkk : k < kn := by omega
  have hkn' := Lib.hid hkn
  have hke' := Lib.hid hke
  have q0 : W0.cell? ⟨w.heap.size, 0, none⟩ = some (.slice (some ⟨pb, po, none⟩) pn pc) := hk0.cell
  clear hkv hkc hks hx0 hkn hke hk h3
  go_enter Try.func51, Try.ntmps51
  go_upto_region 2 with fail
  rw [← hW0]
  clear hW0
  go_cut [9] (fun s wx => s = .pointer (some ⟨w.heap.size + 2, 0, none⟩) ∧ ∃ (g c : Nat) (cur : Array Value), W0.heap.size ≤ g ∧ g < wx.heap.size ∧ Blk wx (w.heap.size + 2) #[.slice (some ⟨g, 0, none⟩) pn c, .slice sa sn sc] ∧ Blk wx g cur ∧
    (∀ (j : Nat) (u : Value), ((List.range pn).flatMap (woodC x kv))[j]? = some u → cur[j]? = some u) ∧ SameBut (fun b => b = w.heap.size + 2 ∨ W0.heap.size ≤ b) W0 wx)
  case first =>
    have ho : (W0.alloc (.cells #[] 48)).ownsRow W0.heap.size 48 2 (.slice (some ⟨W0.heap.size, 0, none⟩) 0 0) 0 [] := World.ownsRow_lit (base := W0.heap.size) (e := 48) (size := 2) W0 #[] 0 (Nat.le_refl _) (by decide) rfl
    obtain ⟨v', w7, hap, hown7, hs7⟩ := grow_many (b := pb) (o := po) (m := pn) (c := pc) (news := (List.range pn).flatMap (woodC x kv)) woodInfo woodsUnder rfl (by decide) (by decide) ho (flat_len (fun _ => rfl)) (flat_cell (m := 2) (fun _ => rfl) (by decide) (fun j hj l hl => by
        have hkvj := hkv'.out j hj
        rw [← Nat.add_assoc]
        rw [cell_alloc_lt _ (show pb < W0.heap.size by omega)]
        exact two_cases (P := fun l => W0.cell? ⟨pb, po + j * 2 + l, none⟩ = (woodC x kv j)[l]?) hl hkvj.2.1 hkvj.2.2.1))
      (fun u hu => by
        rw [List.mem_flatMap] at hu
        obtain ⟨j, hj, hu⟩ := hu
        obtain ⟨⟨ja, jn, jc, je, _⟩, _⟩ := hkv'.out j (List.mem_range.1 hj)
        unfold woodC at hu
        rw [je] at hu
        simp at hu
        rcases hu with rfl | rfl <;> rfl) (by omega) (by simp)
    rw [Nat.zero_add, List.nil_append] at hown7
    obtain ⟨g, c, cur, rfl, hg1, hg2, hgc, hgk, hcur⟩ := own_blk hown7 (by omega)
    have hs7' : SameBut (fun b => W0.heap.size ≤ b) W0 w7 := ((SameBut.refl _ W0).alloc _).trans hs7
    have hX7 := hX0.same hs7' (by omega)
    have x0 : w7.cell? ⟨w.heap.size + 2, 0, none⟩ = some (.slice (some ⟨pb, po, none⟩) pn pc) := hX7.cell
    have xf : w7.frozen? ⟨w.heap.size + 2, 0, none⟩ = false := hX7.frozen
    have hcur' := Lib.hid hcur
    have lW : w.heap.size < W0.heap.size := by omega
    clear hown7 ho hcur
    go_wp2_with fail
    go_meet
    exact ⟨rfl, g, c, cur, hg1, by simp; omega, hX7.setAt (i := 0) _, hgk.setOther (by omega) _, hcur'.out, (hs7'.mono (fun b h => .inr h)).setCell (M := fun b => b = w.heap.size + 2 ∨ W0.heap.size ≤ b) (.inl (.inl rfl)) _⟩
  case rest =>
  obtain ⟨rfl, g, c, cur, hg1, hg2, hX1, hG1, hcur, hs1⟩ := hcut
  obtain ⟨w1, hw1⟩ : ∃ w1, w1 = wc := ⟨_, rfl⟩
  rw [← hw1] at hg2 hX1 hG1 hs1 ⊢
  clear hw1
  have hz1 := hs1.size
  have hk1 := hk0.same hs1 (by omega)
  have hr1 := hr0.same hs1 (by omega)
  have c1' := (hs1.cell (b := pb) (o := po + i * 2 + 1) (by omega) (by omega)).trans c1
  have hcur' := Lib.hid hcur
  have hii : (i : Int) < pn := by omega
  have hki : (k : Int) < kn := by omega
  have lk0 : w.heap.size < w1.heap.size := by omega
  have lk2 : w.heap.size + 2 < w1.heap.size := by omega
  clear q0 c1 hcur
  go_upto_region 3 with fail
  go_cut [9] (fun s wx => s = .pointer (some ⟨w.heap.size + 2, 0, none⟩) ∧ ∃ (g2 c2 : Nat) (cur2 : Array Value), w1.heap.size ≤ g2 ∧ g2 < wx.heap.size ∧ Blk wx g (cur.setIfInBounds (i * 2 + 1) (.slice (some ⟨g2, 0, none⟩) kn c2)) ∧ Blk wx g2 cur2 ∧
    (∀ (j : Nat) (u : Value), ((List.range kn).flatMap (spanC (gw x.planks i)))[j]? = some u → cur2[j]? = some u) ∧ SameBut (fun b => b = g ∨ w1.heap.size ≤ b) w1 wx)
  case first =>
    have hF0 : SameBut (fun b => b = g ∨ w1.heap.size ≤ b) w1 w1.drew := (SameBut.refl _ _).drew
    have hread : ∀ w', SameBut (fun b => b = g ∨ w1.heap.size ≤ b) w1 w' → w'.cell? ⟨w.heap.size, 0, none⟩ = some (.slice (some ⟨pb, po, none⟩) pn pc) ∧ w'.cell? ⟨w.heap.size + 2, 0, none⟩ = some (.slice (some ⟨g, 0, none⟩) pn c) ∧ w'.cell? ⟨pb, po + i * 2 + 1, none⟩ = some (.slice (some ⟨kb, ko, none⟩) kn kc) := fun w' h =>
      ⟨(hk1.same h (by omega)).cell, (hX1.same h (by omega)).cell, (h.cell (by omega) (by omega)).trans c1'⟩
    clear c1'
    have hO := open_wide
    have hF := hO.fn
    have hd := hO.depth
    refine region_planW (fun w' => SameBut (fun b => b = g ∨ w1.heap.size ≤ b) w1 w') [(0, true), (1, true), (2, true), (4, true), (5, true), (6, true), (7, true), (8, true), (9, true), (3, false), (10, false), (11, true), (12, true), (13, false)] (by kernel_rfl) (by kernel_rfl) (by kernel_rfl) (by decide) (by kernel_rfl) ?_
    have hG0 := hG1.drew
    have hspan : ∀ (j : Nat), j < kn → ∀ l, l < 2 → (w1.drew.alloc (.cells #[] 60)).cell? ⟨kb, ko + (j * 2 + l), none⟩ = (spanC (gw x.planks i) j)[l]? := fun j hj l hl => by
      have hkcj := hkc'.out j hj
      rw [cell_alloc_lt _ (show kb < w1.drew.heap.size by show kb < w1.heap.size; omega), ← Nat.add_assoc]
      have e : ∀ o, w1.drew.cell? ⟨kb, o, none⟩ = W0.cell? ⟨kb, o, none⟩ := fun o => hs1.cell (b := kb) (o := o) (by omega) (by omega)
      rw [e]
      exact two_cases (P := fun l => W0.cell? ⟨kb, ko + j * 2 + l, none⟩ = (spanC (gw x.planks i) j)[l]?) hl hkcj.1 hkcj.2.1
    have hF0' := hF0
    obtain ⟨wd, hwd⟩ : ∃ wd, wd = w1.drew := ⟨_, rfl⟩
    rw [← hwd] at hF0 hG0 hspan ⊢
    have hzd : w1.heap.size ≤ wd.heap.size := hF0.size
    clear hwd hF0'
    iterate 9
      (refine plan_take ?_ rfl hF0 (by rfl) ?_ ?_
       rotate_left
       · intro w' hw'
         obtain ⟨q1, q2, q3⟩ := hread w' hw'
         go_simp
         with_reducible rfl
       simp only [Act.put, List.setIfInBounds_toArray, List.set_cons_zero, List.set_cons_succ])
    refine plan_one rfl (by rfl) (fun K hK => ?_)
    go_simp
    refine hK _ _ (hF0.alloc _) ?_
    clear hK K
    have ho : (wd.alloc (.cells #[] 60)).ownsRow wd.heap.size 60 2 (.slice (some ⟨wd.heap.size, 0, none⟩) 0 0) 0 [] := World.ownsRow_lit (base := wd.heap.size) (e := 60) (size := 2) wd #[] 0 (Nat.le_refl _) (by decide) rfl
    obtain ⟨v', w7, hap, hown7, hs7⟩ := grow_many (b := kb) (o := ko) (m := kn) (c := kc) (news := (List.range kn).flatMap (spanC (gw x.planks i))) spanInfo spansUnder rfl (by decide) (by decide) ho (flat_len (fun _ => rfl)) (flat_cell (m := 2) (fun _ => rfl) (by decide) hspan)
      (fun u hu => by
        rw [List.mem_flatMap] at hu
        obtain ⟨j, hj, hu⟩ := hu
        unfold spanC at hu
        simp at hu
        rcases hu with rfl | rfl <;> rfl) (by omega) (by simp)
    rw [Nat.zero_add, List.nil_append] at hown7
    obtain ⟨g2, c2, cur2, rfl, hg3, hg4, hgc, hgk, hcur2⟩ := own_blk hown7 (by omega)
    have hs7a : SameBut (fun b => b = g ∨ w1.heap.size ≤ b) wd w7 := ((SameBut.refl _ wd).alloc _).trans (hs7.mono (fun b h => .inr (by omega)))
    have hs7' : SameBut (fun b => b = g ∨ w1.heap.size ≤ b) w1 w7 := hF0.trans hs7a
    have hG7 := hG0.same (((SameBut.refl (fun b => w1.heap.size ≤ b) wd).alloc _).trans (hs7.mono (fun b h => by omega))) (by omega)
    have hcur2' := Lib.hid hcur2
    clear hown7 ho hcur2 hspan hs7 hG0
    refine plan_one rfl (by rfl) (fun K hK => ?_)
    go_simp
    refine hK _ _ hs7' ?_
    clear hK K hap
    iterate 2
      (refine plan_take ?_ rfl hs7' (by rfl) ?_ ?_
       rotate_left
       · intro w' hw'
         go_simp
         with_reducible rfl
       simp only [Act.put, List.setIfInBounds_toArray, List.set_cons_zero, List.set_cons_succ])
    have hidx : (cur[i * 2 + 1]?).isSome = true := by
      have h1 := hcur'.out (i * 2 + 1) (kv i) (by
        rw [flat_get (L := List.range pn) (f := woodC x kv) (m := 2) (fun _ => rfl) (by simpa using hi) (by decide), List.getElem_range]; rfl)
      rw [h1]; rfl
    obtain ⟨uo, huo⟩ := Option.isSome_iff_exists.1 hidx
    have x0 : w7.cell? ⟨g, 0 + i * 2 + 1, none⟩ = some uo := by rw [Nat.zero_add]; exact hG7.cell.trans huo
    have x1 : w7.cell? ⟨g, i * 2 + 1, none⟩ = some uo := hG7.cell.trans huo
    have xf0 : w7.frozen? ⟨g, 0 + i * 2 + 1, none⟩ = false := hG7.frozen
    have xf1 : w7.frozen? ⟨g, i * 2 + 1, none⟩ = false := hG7.frozen
    refine plan_one rfl (by rfl) (fun K hK => ?_)
    go_simp
    refine hK _ _ (hs7'.setCell (M := fun b => b = g ∨ w1.heap.size ≤ b) (.inl (.inl rfl)) _) ?_
    clear hK K
    unfold planW okN
    go_wp2_with fail
    go_meet
    exact ⟨rfl, g2, c2, cur2, by omega, by simp; omega, hG7.setAt (i := i * 2 + 1) _, hgk.setOther (by omega) _, hcur2'.out, hs7'.setCell (M := fun b => b = g ∨ w1.heap.size ≤ b) (.inl (.inl rfl)) _⟩
  case rest =>
  obtain ⟨rfl, g2, c2, cur2, hg3, hg4, hG2, hH2, hcur2, hs2⟩ := hcut
  obtain ⟨w2, hw2⟩ : ∃ w2, w2 = wc := ⟨_, rfl⟩
  rw [← hw2] at hg4 hG2 hH2 hs2 ⊢
  clear hw2
  have hz2 := hs2.size
  have hk2 := hk1.same hs2 (by omega)
  have hr2 := hr1.same hs2 (by omega)
  have hX2 := hX1.same hs2 (by omega)
  have hsz : i * 2 + 1 < cur.size := by
    have h1 := hcur'.out (i * 2 + 1) (kv i) (by
      rw [flat_get (L := List.range pn) (f := woodC x kv) (m := 2) (fun _ => rfl) (by simpa using hi) (by decide), List.getElem_range]; rfl)
    exact (Array.getElem?_eq_some_iff.1 h1).1
  have y0 : (cur.setIfInBounds (i * 2 + 1) (.slice (some ⟨g2, 0, none⟩) kn c2))[i * 2 + 1]? = some (.slice (some ⟨g2, 0, none⟩) kn c2) := by
    rw [Array.getElem?_setIfInBounds, if_pos rfl, if_pos hsz]
  have y1 := Lib.hid y0
  have hcur2' := Lib.hid hcur2
  clear hsz y0 hcur2 c1'
  go_upto_region 4 with fail
  go_cut [9] (fun s wx => s = .pointer (some ⟨w.heap.size + 2, 0, none⟩) ∧ Blk wx g2 ((cur2.setIfInBounds (k * 2) (.int .i64 t)).setIfInBounds (k * 2 + 1) (.int .i64 t)) ∧ SameBut (fun b => b = g2 ∨ w2.heap.size ≤ b) w2 wx)
  case first =>
    have hF0 : SameBut (fun b => b = g2 ∨ w2.heap.size ≤ b) w2 w2.drew := (SameBut.refl _ _).drew
    have hread : ∀ w', SameBut (fun b => b = g2 ∨ w2.heap.size ≤ b) w2 w' → w'.cell? ⟨w.heap.size + 2, 0, none⟩ = some (.slice (some ⟨g, 0, none⟩) pn c) ∧ w'.cell? ⟨g, i * 2 + 1, none⟩ = some (.slice (some ⟨g2, 0, none⟩) kn c2) := fun w' h =>
      ⟨(hX2.same h (by omega)).cell, ((h.cell (b := g) (by omega) (by omega)).trans hG2.cell).trans y1.out⟩
    have hsp : ∀ l, l < 2 → ∃ u, cur2[k * 2 + l]? = some u := fun l hl => ⟨_, hcur2'.out (k * 2 + l) ((spanC (gw x.planks i) k)[l]'(by exact hl)) (by
      rw [flat_get (L := List.range kn) (f := spanC (gw x.planks i)) (m := 2) (fun _ => rfl) (by simpa using hkk) hl, List.getElem_range]
      exact List.getElem?_eq_getElem _)⟩
    obtain ⟨u0, hu0⟩ := hsp 0 (by decide)
    obtain ⟨u1, hu1⟩ := hsp 1 (by decide)
    rw [Nat.add_zero] at hu0
    have hu0' := Lib.hid hu0
    have hu1' := Lib.hid hu1
    clear hsp hu0 hu1
    have hO := open_wide
    have hF := hO.fn
    have hd := hO.depth
    refine region_planW (fun w' => SameBut (fun b => b = g2 ∨ w2.heap.size ≤ b) w2 w') [(0, true), (1, true), (2, true), (3, true), (4, true), (5, true), (6, true), (7, true), (8, false), (9, true), (10, false)] (by kernel_rfl) (by kernel_rfl) (by kernel_rfl) (by decide) (by kernel_rfl) ?_
    iterate 8
      (refine plan_take ?_ rfl hF0 (by rfl) ?_ ?_
       rotate_left
       · intro w' hw'
         obtain ⟨q1, q2⟩ := hread w' hw'
         go_simp
         with_reducible rfl
       simp only [Act.put, List.setIfInBounds_toArray, List.set_cons_zero, List.set_cons_succ])
    refine plan_one rfl (by rfl) (fun K hK => ?_)
    go_simp
    refine (hO.calls (one_any t _)).mono ?_
    rintro e w5 ⟨rfl, rfl⟩
    refine hK _ _ (hF0.alloc _) ?_
    clear hK K
    have hH5 : Blk (w2.drew.alloc (.cells #[.int .i64 t, .int .i64 t] 60)) g2 cur2 := (hH2.drew).alloc _
    have hs5 : SameBut (fun b => b = g2 ∨ w2.heap.size ≤ b) w2 (w2.drew.alloc (.cells #[.int .i64 t, .int .i64 t] 60)) := hF0.alloc _
    obtain ⟨w5, hw5⟩ : ∃ w5, w5 = w2.drew.alloc (.cells #[.int .i64 t, .int .i64 t] 60) := ⟨_, rfl⟩
    rw [← hw5] at hH5 hs5
    have hw5' := hw5.symm
    first | rw [← hw5] | (simp only [World.drew_alloc] at hw5; rw [← hw5]) | skip
    clear hw5 hw5'
    iterate 1
      (refine plan_take ?_ rfl hs5 (by rfl) ?_ ?_
       rotate_left
       · intro w' hw'
         go_simp
         with_reducible rfl
       simp only [Act.put, List.setIfInBounds_toArray, List.set_cons_zero, List.set_cons_succ])
    have y0 : w5.cell? ⟨g2, k * 2, none⟩ = some u0 := hH5.cell.trans hu0'.out
    have y2 : w5.cell? ⟨g2, k * 2 + 1, none⟩ = some u1 := hH5.cell.trans hu1'.out
    have y3 : w5.frozen? ⟨g2, k * 2, none⟩ = false := hH5.frozen
    have y4 : w5.frozen? ⟨g2, k * 2 + 1, none⟩ = false := hH5.frozen
    refine plan_one rfl (by rfl) (fun K hK => ?_)
    go_simp
    refine hK _ _ ((hs5.setCell (M := fun b => b = g2 ∨ w2.heap.size ≤ b) (.inl (.inl rfl)) _).setCell (M := fun b => b = g2 ∨ w2.heap.size ≤ b) (.inl (.inl rfl)) _) ?_
    clear hK K
    unfold planW okN
    go_wp2_with fail
    go_meet
    exact ⟨rfl, (hH5.setAt (i := k * 2) _).setAt (i := k * 2 + 1) _, (hs5.setCell (M := fun b => b = g2 ∨ w2.heap.size ≤ b) (.inl (.inl rfl)) _).setCell (M := fun b => b = g2 ∨ w2.heap.size ≤ b) (.inl (.inl rfl)) _⟩
  case rest =>
  obtain ⟨rfl, hH3, hs3⟩ := hcut
  obtain ⟨w3, hw3⟩ : ∃ w3, w3 = wc := ⟨_, rfl⟩
  rw [← hw3] at hH3 hs3 ⊢
  clear hw3
  have hz3 := hs3.size
  have hX3 := hX2.same hs3 (by omega)
  have hr3 := hr2.same hs3 (by omega)
  have hG3 := hG2.same hs3 (by omega)
  have x0 : w3.cell? ⟨w.heap.size + 2, 0, none⟩ = some (.slice (some ⟨g, 0, none⟩) pn c) := hX3.cell
  have x1 : w3.cell? ⟨w.heap.size + 2, 1, none⟩ = some (.slice sa sn sc) := hX3.cell
  have r0 : w3.cell? ⟨w.heap.size + 1, 0, none⟩ = some (.slice none 0 0) := hr3.cell
  have r1 : w3.cell? ⟨w.heap.size + 1, 1, none⟩ = some (.slice none 0 0) := hr3.cell
  have f0 : w3.frozen? ⟨w.heap.size + 1, 0, none⟩ = false := hr3.frozen
  have f1 : w3.frozen? ⟨w.heap.size + 1, 1, none⟩ = false := hr3.frozen
  have hfin : ∀ w9, SameBut (fun b => b = w.heap.size + 1) w3 w9 → BookAt w9.heap.size w9 (some ⟨g, 0, none⟩) pn sa sn (lookedB x i k t) ∧ Below w.heap.size w w9 := by
    intro w9 h9
    have hz9 := h9.size
    have h03 : SameBut (fun b => w.heap.size + 1 ≤ b) W0 w9 := (((hs1.mono (fun b h => by omega)).trans (hs2.mono (fun b h => by omega))).trans (hs3.mono (fun b h => by omega))).trans (h9.mono (fun b h => by omega))
    have hold : ∀ b o, b < B → w9.cell? ⟨b, o, none⟩ = W0.cell? ⟨b, o, none⟩ := fun b o hb => h03.cell (by omega) (by omega)
    have hG9 := hG3.same h9 (by omega)
    have hH9 := hH3.same h9 (by omega)
    have hget : ∀ j, j < pn → ∀ l, l < 2 → cur[j * 2 + l]? = (woodC x kv j)[l]? := fun j hj l hl => by
      have h1 := flat_get (L := List.range pn) (f := woodC x kv) (m := 2) (i := j) (j := l) (fun _ => rfl) (by simpa using hj) hl
      rw [List.getElem_range] at h1
      have h2 : ∃ u, (woodC x kv j)[l]? = some u := ⟨_, List.getElem?_eq_getElem (show l < (woodC x kv j).length from hl)⟩
      obtain ⟨u, hu⟩ := h2
      rw [hu] at h1 ⊢
      exact hcur'.out _ _ h1
    have hget2 : ∀ j, j < kn → ∀ l, l < 2 → cur2[j * 2 + l]? = (spanC (gw x.planks i) j)[l]? := fun j hj l hl => by
      have h1 := flat_get (L := List.range kn) (f := spanC (gw x.planks i)) (m := 2) (i := j) (j := l) (fun _ => rfl) (by simpa using hj) hl
      rw [List.getElem_range] at h1
      have h2 : ∃ u, (spanC (gw x.planks i) j)[l]? = some u := ⟨_, List.getElem?_eq_getElem (show l < (spanC (gw x.planks i) j).length from hl)⟩
      obtain ⟨u, hu⟩ := h2
      rw [hu] at h1 ⊢
      exact hcur2'.out _ _ h1
    refine ⟨⟨⟨?_, by omega, fun j hj => ⟨g, 0, rfl, by omega, fun j hj => ?_⟩⟩, hparts.out.keep (by omega) hold⟩, hb0.trans (h03.toBelow (by omega) (fun b h => by omega))⟩
    · unfold lookedB; simp [hpn.out]
    · obtain ⟨hv, _, _, gI⟩ := hkv'.out j hj
      rw [Nat.zero_add]
      have e0 : w9.cell? ⟨g, j * 2, none⟩ = some (.int .i64 (gw x.planks j).long) := by
        have h0 : cur[j * 2]? = some (.int .i64 (gw x.planks j).long) := hget j hj 0 (by decide)
        rw [hG9.cell, set_get h0, if_neg (by omega)]
      have e1 : w9.cell? ⟨g, j * 2 + 1, none⟩ = some (if j = i then .slice (some ⟨g2, 0, none⟩) kn c2 else kv j) := by
        rw [hG9.cell, set_get (hget j hj 1 (by decide) : cur[j * 2 + 1]? = _)]
        by_cases e : j = i
        · rw [if_pos (by omega), if_pos e]
        · rw [if_neg (by omega), if_neg e]
      by_cases e : j = i
      · subst e
        rw [looked_same (by rw [hpn.out]; exact hj)]
        rw [if_pos rfl] at e1
        refine ⟨_, ⟨some ⟨g2, 0, none⟩, kn, c2, rfl, ?_⟩, e0, e1, gI⟩
        refine ⟨by simp [hkn'.out], by omega, fun l hl => ⟨g2, 0, rfl, by omega, fun l hl => ?_⟩⟩
        rw [Nat.zero_add]
        have d0 : w9.cell? ⟨g2, l * 2, none⟩ = some (if l = k then .int .i64 t else .int .i64 (gp (gw x.planks j).knots l).1) := by
          have h0 : cur2[l * 2]? = some (.int .i64 (gp (gw x.planks j).knots l).1) := hget2 l hl 0 (by decide)
          rw [hH9.cell, set_get (set_get h0), if_neg (by omega)]
          by_cases e : l = k
          · rw [if_pos (by omega), if_pos e]
          · rw [if_neg (by omega), if_neg e]
        have d1 : w9.cell? ⟨g2, l * 2 + 1, none⟩ = some (if l = k then .int .i64 t else .int .i64 (gp (gw x.planks j).knots l).2) := by
          rw [hH9.cell, set_get (set_get (hget2 l hl 1 (by decide) : cur2[l * 2 + 1]? = _))]
          by_cases e : l = k
          · rw [if_pos (by omega), if_pos e]
          · rw [if_neg (by omega), if_neg (by omega), if_neg e]
        rw [d0, d1]
        by_cases e : l = k
        · subst e
          rw [gp_set_same (by rw [← hkn'.out]; exact hl)]
          simp only [if_true]
          exact ⟨trivial, trivial, ht, ht⟩
        · rw [gp_set_other e, if_neg e, if_neg e]
          obtain ⟨_, _, i1, i2⟩ := hkc'.out l hl
          exact ⟨rfl, rfl, i1, i2⟩
      · rw [looked_other e]
        rw [if_neg e] at e1
        exact ⟨_, hv.keep (by omega) hold, e0, e1, gI⟩
  have hfin' := Lib.hid hfin
  clear hfin
  go_wp2_with fail
  refine bodyPost_ret (v := .agg #[.slice (some ⟨g, 0, none⟩) pn c, .slice sa sn sc]) ?_ rfl ⟨_, _, _, rfl, hfin'.out _ (((SameBut.refl _ w3).setCell (M := fun b => b = w.heap.size + 1) (.inl rfl) _).setCell (M := fun b => b = w.heap.size + 1) (.inl rfl) _)⟩
  simp [results, Try.results51, go_sem, r0, r1]
end Go.Proofs.Ytbbolibkheelmaa
namespace Go.Proofs.Ytbbolibkheelmaa
open Go.RowKit Go.Shelf

/-- One element more behind a slice of one's own: nothing else is touched but its row. -/
theorem grow_at {w : World} {base n e sl size bytes : Nat} {z : Value} {va : Option Addr} {vn vc : Nat} {xs news : List Value} (hinfo : (Try.prog.info? e).map (fun i => (i.zero, i.size, i.bytes)) = some (some z, size, bytes)) (hu : Try.prog.underlying sl = some (.slice e))
    (hz : z.cells.size = size) (h0 : 0 < size) (hby : bytes ≤ 1000) (hown : w.ownsRow base e size (.slice va vn vc) n xs) (hl : news.length = size) (h1 : ∀ u ∈ news, u.oneCell' = true) (hn : n ≤ 1000) (hb : base ≤ w.heap.size) :
    ∃ (ua : Option Addr) (un uc : Nat) (w' : World), (appendS #[sl, sl] sl #[.slice va vn vc, .slice (some ⟨w.heap.size, 0, none⟩) 1 1]).run Try.prog (w.alloc (.cells news.toArray e)) = .ok (.slice ua un uc) w' ∧
      w'.ownsRow base e size (.slice ua un uc) (n + 1) (xs ++ news) ∧ SameBut (fun k => (Value.slice va vn vc).ownBlock = some k) w w' ∧ (∀ g, (Value.slice ua un uc).ownBlock = some g → (Value.slice va vn vc).ownBlock = some g ∨ w.heap.size ≤ g) := by
  obtain ⟨i0, hi, hz0, hz1, hz2⟩ := info_parts hinfo
  obtain ⟨v', w7, hap, hown7, hgr7, _, hat⟩ := run_append_own_at (P := Try.prog) (w := w.alloc (.cells news.toArray e)) base sl sl e i0 z size bytes hu hi hz0 hz1 hz2 hz h0 (.slice va vn vc) _ _ (hown.alloc _) ⟨w.heap.size, 0, none⟩ 1 1 news (by rw [hl, Nat.one_mul])
    (fun j u hj => by
      have := (Blk.new w news.toArray e).cell (i := j)
      rw [add_at, Nat.zero_add, this]
      simpa using hj)
    h1 (by unfold maxLen; omega) (by have : (n + 1) * bytes ≤ 1001 * 1000 := Nat.mul_le_mul (by omega) hby
                                     omega) (by simp; omega)
  obtain ⟨ua, un, uc, rfl⟩ := own_slice hown7
  refine ⟨ua, un, uc, w7, hap, hown7, ((SameBut.refl _ w).alloc _).trans (same_grown hgr7 (fun k h => h)), fun g hg => ?_⟩
  rcases hat with h | h
  · left; rw [← h]; exact hg
  · right
    rw [h] at hg
    simp only [World.size_alloc, Option.some.injEq] at hg
    omega
end Go.Proofs.Ytbbolibkheelmaa
