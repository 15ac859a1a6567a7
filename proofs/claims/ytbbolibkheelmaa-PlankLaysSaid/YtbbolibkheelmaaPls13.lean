/- Walks: the tables of all planks; what is given by some of them. Walks: a list with an element more, in new memory. -/
import Derived.Test.YtbbolibkheelmaaPls11
import Derived.Test.YtbbolibkheelmaaPls12
import Derived.Test.YtbbolibkheelmaaPls10
namespace Go.Proofs.Ytbbolibkheelmaa
open Go.RowKit Go.Shelf

theorem ends_ints {w : World} {g i : Nat} {x : Book} (hb : bookOk x = true) (hi : i < x.planks.length) (h : Blk w g (rowI (2 ^ x.parts.length) (endT x i (2 ^ x.parts.length)))) : IntsAt w.heap.size w (some ⟨g, 0, none⟩) (2 ^ x.parts.length) (endsL x i) := by
  refine ⟨endsL_len x i, ?_, fun j hj => ⟨g, 0, rfl, h.lt, fun j hj => ⟨?_, ?_⟩⟩⟩
  · have := pow_le32 (good_of hb).parts.2; omega
  · rw [Nat.zero_add, endsL_get hj]
    exact h.cell.trans (rowI_get _ _ hj)
  · rw [endsL_get hj]
    have := endT_in hb hi (2 ^ x.parts.length) j
    unfold I64; omega

attribute [local go_sem ↓] append_alias

set_option maxRecDepth 100000 in
set_option maxHeartbeats 4000000 in
theorem tables_any {B : Nat} {pa sa : Option Addr} {pn pc sn sc : Nat} {x : Book} {w : World} (hB : B ≤ w.heap.size) (hx : BookAt B w pa pn sa sn x) (hb : bookOk x = true) :
    Calls Try.prog 85 #[.agg #[.slice pa pn pc, .slice sa sn sc]] w fun e w' => ∃ a c, e = .returned (.slice a pn c) ∧ TabAt w'.heap.size w' a pn x ∧ Below w.heap.size w w' := by
  have hpn := Lib.hid hx.planks.len
  have hb' := Lib.hid hb
  have hp3 : pn ≤ 3 := by have := (good_of hb).planks; have := hpn.out; omega
  obtain ⟨w0, hw0⟩ : ∃ w0, w0 = (w.alloc (.cells #[.slice pa pn pc, .slice sa sn sc] 25)).alloc (.cells #[] 31) := ⟨_, rfl⟩
  have hbw0 : Below w.heap.size w w0 := by rw [hw0]; exact ((Below.refl _ _).alloc (Nat.le_refl _) _).alloc (by simp) _
  have hk : Blk w0 w.heap.size #[.slice pa pn pc, .slice sa sn sc] := by rw [hw0]; exact (Blk.new w _ _).alloc _
  have hz0 : w0.heap.size = w.heap.size + 2 := by rw [hw0]; simp
  have ho0 : w0.ownsRow (w.heap.size + 1) 31 1 (.slice (some ⟨w.heap.size + 1, 0, none⟩) 0 0) 0 [] := by
    rw [hw0]
    have := World.ownsRow_lit (base := w.heap.size + 1) (e := 31) (size := 1) (w.alloc (.cells #[.slice pa pn pc, .slice sa sn sc] 25)) #[] 0 (by simp) (by decide) rfl
    rw [World.size_alloc] at this
    exact this
  have hx0 := Lib.hid (hx.keep (w' := w0) (Nat.le_refl _) (fun b o h => bcells hbw0 b o (by omega)))
  have l0 : w.heap.size + 1 < w0.heap.size := by omega
  obtain ⟨N, hN⟩ : ∃ N, N = 2 ^ x.parts.length := ⟨_, rfl⟩
  have hN' := Lib.hid hN
  clear hx hb hz0 hN
  go_enter Try.func85, Try.ntmps85
  replace hw0 := hw0.symm
  go_wp2_with fail
  clear hw0
  go_loopw [3, 4] (fun l v wr => ∃ (k : Nat) (G : Nat → Nat), k ≤ pn ∧ v = .int .i64 k ∧ wr.ownsRow (w.heap.size + 1) 31 1 l k ((List.range k).flatMap fun j => [Value.slice (some ⟨G j, 0, none⟩) N N]) ∧
    Hid (∀ j, j < k → w.heap.size + 1 ≤ G j ∧ G j < wr.heap.size ∧ l.ownBlock ≠ some (G j) ∧ Blk wr (G j) (rowI N (endT x j N))) ∧ SameBut (fun b => w.heap.size + 1 ≤ b) w0 wr) (fun _ v _ => pn - (intOf v).toNat)
  case atStart => exact ⟨0, fun _ => 0, by omega, rfl, ho0, fun j hj => absurd hj (by omega), SameBut.refl _ _⟩
  case round =>
    obtain ⟨k, G, hk2, rfl, hown, hG, hs⟩ := hrel
    obtain ⟨va, vn, vc, hv⟩ := own_slice hown
    subst hv
    have hkr := hk.same hs (by omega)
    have hzr := hs.size
    have q0 : wr.cell? ⟨w.heap.size, 0, none⟩ = some (.slice pa pn pc) := hkr.cell
    have q1 : wr.cell? ⟨w.heap.size, 1, none⟩ = some (.slice sa sn sc) := hkr.cell
    by_cases hlt : k < pn
    case neg =>
      obtain rfl : k = pn := by omega
      go_wp2_with fail
      go_ret
      obtain ⟨a, c, e, hget⟩ := own_get hown (by omega)
      cases e
      refine ⟨va, vc, rfl, ⟨hpn.out, fun i hi => ?_⟩, hbw0.trans (hs.toBelow (by omega) (fun b h => by omega))⟩
      obtain ⟨gg, rfl, g1, g2, g3⟩ := hget i hi
      refine ⟨gg, 0, rfl, g1, fun i hi => ?_⟩
      obtain ⟨_, _, _, h4⟩ := hG.out i hi
      rw [hN'.out] at h4
      refine ⟨some ⟨G i, 0, none⟩, N, ?_, ends_ints hb'.out (by rw [hpn.out]; exact hi) h4⟩
      rw [Nat.zero_add, ← hN'.out]
      have h5 := flat_get (L := List.range k) (f := fun j => [Value.slice (some ⟨G j, 0, none⟩) N N]) (m := 1) (i := i) (j := 0) (fun _ => rfl) (by simpa using hi) (by decide)
      rw [List.getElem_range, Nat.mul_one, Nat.add_zero] at h5
      exact g3 i _ h5
    have hki : (k : Int) < pn := by omega
    have hxr := Lib.hid (hx0.out.keep (w' := wr) (Nat.le_refl _) (fun b o h => hs.cell (by omega) (by omega)))
    go_wp2_with fail
    refine (ends_any (B := B) (by omega) hxr.out hb'.out hlt).mono ?_
    rintro e w5 ⟨g, rfl, hg1, hg2, hb5⟩
    rw [← hN'.out] at hg2 ⊢
    have hs5 := hs.below hb5
    have hown5 := own_below hown hb5
    have hz5 := hb5.size
    have hg3 := hg2.lt
    obtain ⟨ua, un, uc, w6, hap, hown6, hs6, hat⟩ := grow_at (news := [Value.slice (some ⟨g, 0, none⟩) N N]) sliceInfo3 slicesUnder rfl (by decide) (by decide) hown5 rfl (fun u hu => by simp at hu; subst hu; rfl) (by omega) (by omega)
    have hrow := hown.lt
    have hs6' : SameBut (fun b => w.heap.size + 1 ≤ b) w5 w6 := hs6.mono (fun b h => (hrow b h).1)
    have hown7 : w6.ownsRow (w.heap.size + 1) 31 1 (.slice ua un uc) (k + 1) ((List.range (k + 1)).flatMap fun j => [Value.slice (some ⟨if j = k then g else G j, 0, none⟩) N N]) := by
      rw [List.range_succ, List.flatMap_append]
      have e1 : ((List.range k).flatMap fun j => [Value.slice (some ⟨if j = k then g else G j, 0, none⟩) N N]) = ((List.range k).flatMap fun j => [Value.slice (some ⟨G j, 0, none⟩) N N]) := by
        rw [← List.map_eq_flatMap, ← List.map_eq_flatMap]
        exact List.map_congr_left (fun j hj => by rw [if_neg (by have := List.mem_range.1 hj; omega)])
      rw [e1]
      simpa using hown6
    have hG7 : Hid (∀ j, j < k + 1 → w.heap.size + 1 ≤ (if j = k then g else G j) ∧ (if j = k then g else G j) < w6.heap.size ∧ (Value.slice ua un uc).ownBlock ≠ some (if j = k then g else G j) ∧ Blk w6 (if j = k then g else G j) (rowI N (endT x j N))) := Lib.hid (fun j hj => by
      have hz6 := hs6.size
      by_cases e : j = k
      · subst e
        rw [if_pos rfl]
        refine ⟨by omega, by omega, fun h => ?_, hg2.same hs6 (fun h => ?_)⟩
        · rcases hat _ h with h | h
          · have := (hrow _ h).2; omega
          · omega
        · have := (hrow _ h).2; omega
      · rw [if_neg e]
        obtain ⟨h1, h2, h3, h4⟩ := hG.out j (by omega)
        refine ⟨h1, by omega, fun h => ?_, (h4.below hb5 h2).same hs6 h3⟩
        rcases hat _ h with h | h
        · exact h3 h
        · omega)
    have hown7' := Lib.hid hown7
    have hs7 := hs5.trans hs6'
    clear hown7 hown6 hown5 hs6 hs6' hat hrow hown hG hs5 hs hg2 hb5 q0 q1
    go_wp2_with fail
    go_roundw
    case rel => exact ⟨k + 1, fun j => if j = k then g else G j, by omega, by go_num, hown7'.out, hG7, hs7⟩
    case measure => simp [intOf]; omega

def GivenOk (x : Book) (l : List Int) : Prop := ∀ (B C : Nat) (ta la : Option Addr) (tn tc ln lc set : Nat) (w : World), B ≤ w.heap.size → TabAt B w ta tn x → C ≤ w.heap.size → IntsAt C w la ln l → ln ≤ lc → (∀ y ∈ l, 0 ≤ y ∧ y < (x.planks.length : Int)) → set < 2 ^ x.parts.length →
    Calls Try.prog 87 #[.slice ta tn tc, .slice la ln lc, .int .i64 set] w fun e w' => e = .returned (.bool (sharedR x l set)) ∧ Below w.heap.size w w'
set_option maxRecDepth 100000 in
set_option maxHeartbeats 1000000 in
theorem given_nil {x : Book} : GivenOk x [] := by
  intro B C ta la tn tc ln lc set w hB ht hC hl hlc hi hs
  obtain rfl : ln = 0 := by simpa using hl.len.symm
  have hR : Hid (sharedR x [] set = decide (set = 0)) := Lib.hid (by show (set == 0) = _; rw [Bool.eq_iff_iff]; simp)
  have hS : Hid (((set : Int) == 0) = decide (set = 0)) := Lib.hid (by rw [Bool.eq_iff_iff]; simp)
  clear hl ht
  go_enter Try.func87, Try.ntmps87
  go_wp2_with fail
  go_ret
  exact ⟨ret_bool (by rw [hR.out]; first | exact hS.out | rfl | simp), Below.refl _ _⟩
set_option maxRecDepth 100000 in
set_option maxHeartbeats 4000000 in
theorem given_cons {x : Book} (hb : bookOk x = true) {i : Int} {r : List Int} (hrec : GivenOk x r) : GivenOk x (i :: r) := by
  intro B C ta la tn tc ln lc set w hB ht hC hl hlc hi hs
  have ih := Lib.hid hrec
  clear hrec
  have hln : r.length + 1 = ln := hl.len
  have hi0 := hi i (by simp)
  obtain ⟨i', rfl⟩ := Int.eq_ofNat_of_zero_le hi0.1
  have hi2 : i' < x.planks.length := by omega
  have hir := Lib.hid (fun y (hy : y ∈ r) => hi y (by simp [hy]))
  have htn := ht.len
  have hs32 := lt32 hb hs
  have hit : i' < tn := by omega
  obtain ⟨tb, tof, rfl, htB, htc⟩ := ht.get i' hit
  obtain ⟨ra, rc, e0, hrow⟩ := htc i' hit
  obtain ⟨N, hN⟩ : ∃ N, N = 2 ^ x.parts.length := ⟨_, rfl⟩
  have hN' := Lib.hid hN
  rw [← hN] at e0 hrow hs
  obtain ⟨rb, ro, rfl, hrB, hrc⟩ := hrow.get 0 (by omega)
  have hrow' : Hid (∀ t, t < N → w.cell? ⟨rb, ro + t, none⟩ = some (.int .i64 (endT x i' N t))) := Lib.hid (fun t ht => by
    have := (hrc t ht).1
    rw [endsL_get (by rw [← hN]; exact ht), ← hN] at this
    exact this)
  obtain ⟨b1, o1, rfl, hb1, hc1⟩ := hl.get 0 (by omega)
  have g0 := (hc1 0 (by omega)).1
  have hgi : gi ((i' : Int) :: r) 0 = i' := rfl
  rw [hgi, Nat.add_zero] at g0
  obtain ⟨tlb, hcut1, hcut2⟩ := cut_tail (a := some ⟨b1, o1, none⟩) (n := ln) (c := lc) (by omega) hlc
  have hcut1' := Lib.hid (fun w => hcut1 w)
  have htl := Lib.hid (hcut2 hl)
  have ht' := Lib.hid ht
  have hb' := Lib.hid hb
  have hs' := Lib.hid hs
  obtain ⟨R, hR⟩ : ∃ R, R = sharedR x ((i' : Int) :: r) set := ⟨_, rfl⟩
  rw [← hR]
  obtain ⟨cond, hcond⟩ : ∃ cond : Nat → Bool, cond = fun t => (t &&& set == t) && (canLay x i' t && sharedR x r (set - t)) := ⟨_, rfl⟩
  have hR' : Hid (R = anyB (set + 1) cond) := Lib.hid (by rw [hR, hcond]; rfl)
  have hcond' : Hid (∀ t, cond t = ((t &&& set == t) && (canLay x i' t && sharedR x r (set - t)))) := Lib.hid (fun t => by rw [hcond])
  have hln1 : ln - 1 ≤ lc - 1 := by omega
  have hlz : ((ln : Int) == 0) = false := by simp; omega
  have hl1 : (0 : Int) < ln := by omega
  have hl2 : 0 < ln := by omega
  have hlnz : ln ≠ 0 := by omega
  have hI1 : b1 < w.heap.size := by omega
  have hiti : (i' : Int) < tn := by omega
  have hi2' := Lib.hid hi2
  clear hl ht hcut1 hcut2 hc1 hgi hR hcond hb hs hi hi0 hln hN hrc hrow htc htn
  go_enter Try.func87, Try.ntmps87
  go_wp2_with fail
  clear hlz
  go_loopw [7] (fun v wr => ∃ t : Nat, t ≤ set + 1 ∧ v = .int .i64 t ∧ Hid (∀ u : Nat, u < t → cond u = false) ∧ Below w.heap.size w wr) (fun v _ => set + 1 - (intOf v).toNat)
  case atStart => exact ⟨0, by omega, rfl, fun t h1 => absurd h1 (by omega), Below.refl _ _⟩
  case round =>
    obtain ⟨t, ht1, rfl, hno, hbr⟩ := hrel
    have hzr := hbr.size
    by_cases ht2 : t ≤ set
    case neg =>
      have hRf : Hid (R = false) := Lib.hid (by
        rw [hR'.out, ← Bool.not_eq_true, anyB_iff]
        rintro ⟨u, hu, h⟩
        rw [hno.out u (by omega)] at h; cases h)
      have htI : ¬ (t : Int) ≤ set := by omega
      go_wp2_with fail
      go_ret
      exact ⟨ret_bool (by rw [hRf.out]), hbr⟩
    have htI : (t : Int) ≤ set := by omega
    have htN : t < N := by have := hs'.out; omega
    have htNI : (t : Int) < N := by omega
    have ht32 : t < 32 := by omega
    have hand := and_bit ht32 hs32
    obtain ⟨Y, hY⟩ : ∃ Y, Y = t &&& set := ⟨_, rfl⟩
    rw [← hY] at hand
    have hct := hcond'.out t
    rw [← hY] at hct
    by_cases hYt : Y = t
    case neg =>
      have h1 : ((Y : Int) == (t : Int)) = false := by simp; omega
      have hc : Hid (cond t = false) := Lib.hid (by rw [hct]; simp [hYt])
      clear hct hY hYt
      go_wp2_with fail
      go_roundw
      case rel => exact ⟨t + 1, by omega, by go_num, fun u h1 => by
        by_cases e : u = t
        · rw [e]; exact hc.out
        · exact hno.out u (by omega), hbr⟩
      case measure => simp [intOf]; omega
    have h1 : ((Y : Int) == (t : Int)) = true := by simp [hYt]
    rw [hYt] at hct
    simp only [beq_self_eq_true, Bool.true_and] at hct
    have g1 := (bcells hbr b1 o1 hI1).trans g0
    have e1 := (bcells hbr tb (tof + i') (by omega)).trans e0
    have e2 := (bcells hbr rb (ro + t) (by omega)).trans (hrow'.out t htN)
    have hcan := end_can hb'.out hi2'.out (s := t) (by rw [← hN'.out]; exact htN)
    rw [← hN'.out] at hcan
    obtain ⟨E, hE⟩ : ∃ E, E = endT x i' N t := ⟨_, rfl⟩
    rw [← hE] at e2 hcan
    obtain ⟨c1, hc1⟩ : ∃ c1, c1 = canLay x i' t := ⟨_, rfl⟩
    obtain ⟨c2, hc2⟩ : ∃ c2, c2 = sharedR x r (set - t) := ⟨_, rfl⟩
    rw [← hc1] at hcan
    rw [← hc1, ← hc2] at hct
    have hct' := Lib.hid hct
    have hc2' := Lib.hid hc2
    have hcut1 := hcut1'.out
    have hsub : IntKind.i64.wrap ((set : Int) - t) = ((set - t : Nat) : Int) := by rw [show (set : Int) - t = ((set - t : Nat) : Int) by omega]; exact IntWalk.i64_in _ (by omega)
    clear hct hE hc1 hc2 hY hYt
    cases c1 with
    | false =>
      have hE99 : ¬ E < 99 := by simpa using hcan
      have hc : Hid (cond t = false) := Lib.hid (by rw [hct'.out]; rfl)
      clear hcan
      go_wp2_with fail
      go_roundw
      case rel => exact ⟨t + 1, by omega, by go_num, fun u h1 => by
        by_cases e : u = t
        · rw [e]; exact hc.out
        · exact hno.out u (by omega), hbr⟩
      case measure => simp [intOf]; omega
    | true =>
      have hE99 : E < 99 := by simpa using hcan
      have hct2 : Hid (cond t = c2) := Lib.hid (by rw [hct'.out]; rfl)
      clear hcan
      go_wp2_with fail
      refine (ih.out B C _ tlb tn tc (ln - 1) (lc - 1) (set - t) wr (by omega) (ht'.out.keep (Nat.le_refl _) (fun b o h => bcells hbr b o (by omega))) (by omega) (htl.out.keep (Nat.le_refl _) (fun b o h => bcells hbr b o (by omega))) hln1 hir.out (by rw [← hN'.out]; have := hs'.out; omega)).mono ?_
      rintro e w6 ⟨rfl, hb6⟩
      rw [show sharedR x r (set - t) = c2 from hc2'.out.symm]
      have hbr6 := hbr.trans (hb6.mono hbr.size)
      clear hb6 g1 e1 e2
      cases c2 with
      | true =>
        have hRt : Hid (R = true) := Lib.hid (by rw [hR'.out, anyB_iff]; exact ⟨t, by omega, hct2.out⟩)
        go_wp2_with fail
        go_ret
        exact ⟨ret_bool (by rw [hRt.out]), hbr6⟩
      | false =>
        go_wp2_with fail
        go_roundw
        case rel => exact ⟨t + 1, by omega, by go_num, fun u h1 => by
          by_cases e : u = t
          · rw [e]; exact hct2.out
          · exact hno.out u (by omega), hbr6⟩
        case measure => simp [intOf]; omega
theorem given_any {x : Book} (hb : bookOk x = true) : ∀ l : List Int, GivenOk x l
  | [] => given_nil
  | _ :: r => given_cons hb (given_any hb r)
end Go.Proofs.Ytbbolibkheelmaa
namespace Go.Proofs.Ytbbolibkheelmaa
open Go.RowKit Go.Shelf

theorem make_cap0 (w : World) : (Instr.makeSlice 31 (.int .i64 0) (.int .i64 (((0 : Nat) : Int) + 1))).run Try.prog w = .ok (.slice (some ⟨w.heap.size, 0, none⟩) 0 1) (w.alloc (.cells (Array.replicate 1 (.int .i64 0)) 3)) := by kernel_rfl
theorem make_cap1 (w : World) : (Instr.makeSlice 31 (.int .i64 0) (.int .i64 (((1 : Nat) : Int) + 1))).run Try.prog w = .ok (.slice (some ⟨w.heap.size, 0, none⟩) 0 2) (w.alloc (.cells (Array.replicate 2 (.int .i64 0)) 3)) := by kernel_rfl
theorem make_cap2 (w : World) : (Instr.makeSlice 31 (.int .i64 0) (.int .i64 (((2 : Nat) : Int) + 1))).run Try.prog w = .ok (.slice (some ⟨w.heap.size, 0, none⟩) 0 3) (w.alloc (.cells (Array.replicate 3 (.int .i64 0)) 3)) := by kernel_rfl
theorem make_cap3 (w : World) : (Instr.makeSlice 31 (.int .i64 0) (.int .i64 (((3 : Nat) : Int) + 1))).run Try.prog w = .ok (.slice (some ⟨w.heap.size, 0, none⟩) 0 4) (w.alloc (.cells (Array.replicate 4 (.int .i64 0)) 3)) := by kernel_rfl
theorem make_cap4 (w : World) : (Instr.makeSlice 31 (.int .i64 0) (.int .i64 (((4 : Nat) : Int) + 1))).run Try.prog w = .ok (.slice (some ⟨w.heap.size, 0, none⟩) 0 5) (w.alloc (.cells (Array.replicate 5 (.int .i64 0)) 3)) := by kernel_rfl
theorem make_cap {n : Nat} (h : n ≤ 4) (w : World) : (Instr.makeSlice 31 (.int .i64 0) (.int .i64 ((n : Int) + 1))).run Try.prog w = .ok (.slice (some ⟨w.heap.size, 0, none⟩) 0 (n + 1)) (w.alloc (.cells (Array.replicate (n + 1) (.int .i64 0)) 3)) := by
  have : n = 0 ∨ n = 1 ∨ n = 2 ∨ n = 3 ∨ n = 4 := by omega
  rcases this with rfl | rfl | rfl | rfl | rfl
  · exact make_cap0 w
  · exact make_cap1 w
  · exact make_cap2 w
  · exact make_cap3 w
  · exact make_cap4 w

attribute [local go_sem ↓] append_alias

set_option maxRecDepth 100000 in
set_option maxHeartbeats 2000000 in
theorem Add_any {B b o : Nat} {xs : List Int} {n c : Nat} {y : Int} {w : World} (hB : B ≤ w.heap.size) (hx : IntsAt B w (some ⟨b, o, none⟩) n xs) (hn : n ≤ 4) (hy : I64 y) :
    Calls Try.prog 108 #[.slice (some ⟨b, o, none⟩) n c, .int .i64 y] w fun e w' => ∃ g c', e = .returned (.slice (some ⟨g, 0, none⟩) (n + 1) c') ∧ IntsAt w'.heap.size w' (some ⟨g, 0, none⟩) (n + 1) (xs ++ [y]) ∧ Below w.heap.size w w' := by
  have hl := hx.len
  obtain ⟨w1, hw1⟩ : ∃ w1, w1 = w.alloc (.cells (Array.replicate (n + 1) (.int .i64 0)) 3) := ⟨_, rfl⟩
  have hb1 : Below w.heap.size w w1 := by rw [hw1]; exact (Below.refl _ _).alloc (Nat.le_refl _) _
  have ho1 : w1.ownsRow w.heap.size 3 1 (.slice (some ⟨w.heap.size, 0, none⟩) 0 (n + 1)) 0 [] := by
    rw [hw1]
    exact World.ownsRow_made (base := w.heap.size) (e := 3) (size := 1) w (Array.replicate (n + 1) (.int .i64 0)) (n + 1) (Nat.le_refl _) (by unfold maxLen; omega) (by simp)
  have mk := make_cap hn w
  rw [← hw1] at mk
  obtain ⟨v2, w2, hap, hown2, hs2⟩ := grow_many (w := w1) (b := b) (o := o) (m := n) (c := c) (news := xs.map intV) intInfo3 intsUnder rfl (by decide) (by decide) ho1 (by simp [hl]) (fun j u hj => by
      rw [List.getElem?_map, Option.map_eq_some_iff] at hj
      obtain ⟨z, hz, rfl⟩ := hj
      have hjn : j < n := by rw [← hl]; exact (List.getElem?_eq_some_iff.1 hz).1
      obtain ⟨b', o', e, hb', hc⟩ := hx.get j hjn
      cases e
      rw [bcells hb1 _ _ (by omega), (hc j hjn).1]
      have : gi xs j = z := by
        obtain ⟨h1, h2⟩ := List.getElem?_eq_some_iff.1 hz
        rw [gi_eq h1]; exact h2
      rw [this])
    (fun u hu => by rw [List.mem_map] at hu; obtain ⟨z, _, rfl⟩ := hu; rfl) (by omega) (by have := hb1.size; omega)
  rw [Nat.zero_add, List.nil_append] at hown2
  obtain ⟨va, vn, vc, rfl⟩ := own_slice hown2
  have hz1 := hb1.size
  have hz2 := hs2.size
  have hown2' : w2.ownsRow w.heap.size 3 1 (.slice va vn vc) xs.length (xs.map intV) := by rw [hl]; exact hown2
  obtain ⟨v3, w3, hap3, hown3, hs3⟩ := grow_int y hown2' (by omega) (by omega)
  have hI : Hid (∀ j, j < (xs ++ [y]).length → I64 (gi (xs ++ [y]) j)) := Lib.hid (fun j hj => by
    rw [List.length_append] at hj
    by_cases e : j < n
    · obtain ⟨b', o', _, _, hc⟩ := hx.get j e
      have h2 : gi (xs ++ [y]) j = gi xs j := by
        rw [gi_eq (by simp; omega), gi_eq (by omega), List.getElem_append_left (by omega)]
      rw [h2]; exact (hc j e).2
    · have e2 : j = xs.length := by simp at hj; omega
      subst e2
      have h2 : gi (xs ++ [y]) xs.length = y := by rw [gi_eq (by simp)]; simp
      rw [h2]; exact hy)
  have hown3' := Lib.hid hown3
  have hbw3 : Below w.heap.size w w3 := hb1.trans ((hs2.trans hs3).toBelow hz1 (fun _ h => h))
  have hl' := Lib.hid hl
  clear hown3 hown2 hown2' ho1 hs2 hs3 hw1 hx hl hb1
  go_enter Try.func108, Try.ntmps108
  go_wp2_with fail
  go_ret
  obtain ⟨g, c', cur, rfl, _⟩ := own_blk hown3'.out (by simp)
  obtain ⟨a, m, c2, e, hxx⟩ := ints_of_own hown3'.out hI.out (by simp; have := hl'.out; omega)
  cases e
  have hm : (xs ++ [y]).length = n + 1 := by simp [hl'.out]
  rw [hm] at hxx ⊢
  exact ⟨g, c', rfl, hxx, hbw3⟩
end Go.Proofs.Ytbbolibkheelmaa
