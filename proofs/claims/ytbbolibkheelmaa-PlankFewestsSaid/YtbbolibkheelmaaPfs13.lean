/- Walks: the tables of all planks; what is given by some of them. Plain mathematics: how many parts can be cut at the worst; which knot should be looked for. Walks: how many parts can be cut, at the worst, once the inch of a knot is known (the law's own). Plain mathematics: there is but one best list; the specification's loops find it. -/
import Derived.Test.YtbbolibkheelmaaPfs11
import Derived.Test.YtbbolibkheelmaaPfs12
import Derived.Test.YtbbolibkheelmaaPfs05
import Derived.Test.YtbbolibkheelmaaGa14
import Derived.Test.YtbbolibkheelmaaPfs01
namespace Go.Proofs.Ytbbolibkheelmaa
open Go.RowKit Go.Shelf

theorem ends_ints {w : World} {g i : Nat} {x : Book} (hb : bookOk x = true) (hi : i < x.planks.length) (h : Blk w g (rowI (2 ^ x.parts.length) (endT x i (2 ^ x.parts.length)))) : IntsAt w.heap.size w (some ⟨g, 0, none⟩) (2 ^ x.parts.length) (endsL x i) := by
  refine ⟨endsL_len x i, ?_, fun j hj => ⟨g, 0, rfl, h.lt, fun j hj => ⟨?_, ?_⟩⟩⟩
  · have := pow_le32 (good_of hb).parts.2; omega
  · rw [Nat.zero_add, endsL_get hj]
    exact h.cell.trans (rowI_get _ _ hj)
  · rw [endsL_get hj]
    have := endT_in hb hi (2 ^ x.parts.length) j
    unfold I64; omega

attribute [local go_sem ↓] append_alias

set_option maxRecDepth 100000 in
set_option maxHeartbeats 4000000 in
theorem tables_any {B : Nat} {pa sa : Option Addr} {pn pc sn sc : Nat} {x : Book} {w : World} (hB : B ≤ w.heap.size) (hx : BookAt B w pa pn sa sn x) (hb : bookOk x = true) :
    Calls Try.prog 85 #[.agg #[.slice pa pn pc, .slice sa sn sc]] w fun e w' => ∃ a c, e = .returned (.slice a pn c) ∧ TabAt w'.heap.size w' a pn x ∧ Below w.heap.size w w' := by
  have hpn := Lib.hid hx.planks.len
  have hb' := Lib.hid hb
  have hp3 : pn ≤ 3 := by have := (good_of hb).planks; have := hpn.out; omega
  obtain ⟨w0, hw0⟩ : ∃ w0, w0 = (w.alloc (.cells #[.slice pa pn pc, .slice sa sn sc] 25)).alloc (.cells #[] 31) := ⟨_, rfl⟩
  have hbw0 : Below w.heap.size w w0 := by rw [hw0]; exact ((Below.refl _ _).alloc (Nat.le_refl _) _).alloc (by simp) _
  have hk : Blk w0 w.heap.size #[.slice pa pn pc, .slice sa sn sc] := by rw [hw0]; exact (Blk.new w _ _).alloc _
  have hz0 : w0.heap.size = w.heap.size + 2 := by rw [hw0]; simp
  have ho0 : w0.ownsRow (w.heap.size + 1) 31 1 (.slice (some ⟨w.heap.size + 1, 0, none⟩) 0 0) 0 [] := by
    rw [hw0]
    have := World.ownsRow_lit (base := w.heap.size + 1) (e := 31) (size := 1) (w.alloc (.cells #[.slice pa pn pc, .slice sa sn sc] 25)) #[] 0 (by simp) (by decide) rfl
    rw [World.size_alloc] at this
    exact this
  have hx0 := Lib.hid (hx.keep (w' := w0) (Nat.le_refl _) (fun b o h => bcells hbw0 b o (by omega)))
  have l0 : w.heap.size + 1 < w0.heap.size := by omega
  obtain ⟨N, hN⟩ : ∃ N, N = 2 ^ x.parts.length := ⟨_, rfl⟩
  have hN' := Lib.hid hN
  clear hx hb hz0 hN
  go_enter Try.func85, Try.ntmps85
  replace hw0 := hw0.symm
  go_wp2_with fail
  clear hw0
  go_loopw [3, 4] (fun l v wr => ∃ (k : Nat) (G : Nat → Nat), k ≤ pn ∧ v = .int .i64 k ∧ wr.ownsRow (w.heap.size + 1) 31 1 l k ((List.range k).flatMap fun j => [Value.slice (some ⟨G j, 0, none⟩) N N]) ∧
    Hid (∀ j, j < k → w.heap.size + 1 ≤ G j ∧ G j < wr.heap.size ∧ l.ownBlock ≠ some (G j) ∧ Blk wr (G j) (rowI N (endT x j N))) ∧ SameBut (fun b => w.heap.size + 1 ≤ b) w0 wr) (fun _ v _ => pn - (intOf v).toNat)
  case atStart => exact ⟨0, fun _ => 0, by omega, rfl, ho0, fun j hj => absurd hj (by omega), SameBut.refl _ _⟩
  case round =>
    obtain ⟨k, G, hk2, rfl, hown, hG, hs⟩ := hrel
    obtain ⟨va, vn, vc, hv⟩ := own_slice hown
    subst hv
    have hkr := hk.same hs (by omega)
    have hzr := hs.size
    have q0 : wr.cell? ⟨w.heap.size, 0, none⟩ = some (.slice pa pn pc) := hkr.cell
    have q1 : wr.cell? ⟨w.heap.size, 1, none⟩ = some (.slice sa sn sc) := hkr.cell
    by_cases hlt : k < pn
    case neg =>
      obtain rfl : k = pn := by omega
      go_wp2_with fail
      go_ret
      obtain ⟨a, c, e, hget⟩ := own_get hown (by omega)
      cases e
      refine ⟨va, vc, rfl, ⟨hpn.out, fun i hi => ?_⟩, hbw0.trans (hs.toBelow (by omega) (fun b h => by omega))⟩
      obtain ⟨gg, rfl, g1, g2, g3⟩ := hget i hi
      refine ⟨gg, 0, rfl, g1, fun i hi => ?_⟩
      obtain ⟨_, _, _, h4⟩ := hG.out i hi
      rw [hN'.out] at h4
      refine ⟨some ⟨G i, 0, none⟩, N, ?_, ends_ints hb'.out (by rw [hpn.out]; exact hi) h4⟩
      rw [Nat.zero_add, ← hN'.out]
      have h5 := flat_get (L := List.range k) (f := fun j => [Value.slice (some ⟨G j, 0, none⟩) N N]) (m := 1) (i := i) (j := 0) (fun _ => rfl) (by simpa using hi) (by decide)
      rw [List.getElem_range, Nat.mul_one, Nat.add_zero] at h5
      exact g3 i _ h5
    have hki : (k : Int) < pn := by omega
    have hxr := Lib.hid (hx0.out.keep (w' := wr) (Nat.le_refl _) (fun b o h => hs.cell (by omega) (by omega)))
    go_wp2_with fail
    refine (ends_any (B := B) (by omega) hxr.out hb'.out hlt).mono ?_
    rintro e w5 ⟨g, rfl, hg1, hg2, hb5⟩
    rw [← hN'.out] at hg2 ⊢
    have hs5 := hs.below hb5
    have hown5 := own_below hown hb5
    have hz5 := hb5.size
    have hg3 := hg2.lt
    obtain ⟨ua, un, uc, w6, hap, hown6, hs6, hat⟩ := grow_at (news := [Value.slice (some ⟨g, 0, none⟩) N N]) sliceInfo3 slicesUnder rfl (by decide) (by decide) hown5 rfl (fun u hu => by simp at hu; subst hu; rfl) (by omega) (by omega)
    have hrow := hown.lt
    have hs6' : SameBut (fun b => w.heap.size + 1 ≤ b) w5 w6 := hs6.mono (fun b h => (hrow b h).1)
    have hown7 : w6.ownsRow (w.heap.size + 1) 31 1 (.slice ua un uc) (k + 1) ((List.range (k + 1)).flatMap fun j => [Value.slice (some ⟨if j = k then g else G j, 0, none⟩) N N]) := by
      rw [List.range_succ, List.flatMap_append]
      have e1 : ((List.range k).flatMap fun j => [Value.slice (some ⟨if j = k then g else G j, 0, none⟩) N N]) = ((List.range k).flatMap fun j => [Value.slice (some ⟨G j, 0, none⟩) N N]) := by
        rw [← List.map_eq_flatMap, ← List.map_eq_flatMap]
        exact List.map_congr_left (fun j hj => by rw [if_neg (by have := List.mem_range.1 hj; omega)])
      rw [e1]
      simpa using hown6
    have hG7 : Hid (∀ j, j < k + 1 → w.heap.size + 1 ≤ (if j = k then g else G j) ∧ (if j = k then g else G j) < w6.heap.size ∧ (Value.slice ua un uc).ownBlock ≠ some (if j = k then g else G j) ∧ Blk w6 (if j = k then g else G j) (rowI N (endT x j N))) := Lib.hid (fun j hj => by
      have hz6 := hs6.size
      by_cases e : j = k
      · subst e
        rw [if_pos rfl]
        refine ⟨by omega, by omega, fun h => ?_, hg2.same hs6 (fun h => ?_)⟩
        · rcases hat _ h with h | h
          · have := (hrow _ h).2; omega
          · omega
        · have := (hrow _ h).2; omega
      · rw [if_neg e]
        obtain ⟨h1, h2, h3, h4⟩ := hG.out j (by omega)
        refine ⟨h1, by omega, fun h => ?_, (h4.below hb5 h2).same hs6 h3⟩
        rcases hat _ h with h | h
        · exact h3 h
        · omega)
    have hown7' := Lib.hid hown7
    have hs7 := hs5.trans hs6'
    clear hown7 hown6 hown5 hs6 hs6' hat hrow hown hG hs5 hs hg2 hb5 q0 q1
    go_wp2_with fail
    go_roundw
    case rel => exact ⟨k + 1, fun j => if j = k then g else G j, by omega, by go_num, hown7'.out, hG7, hs7⟩
    case measure => simp [intOf]; omega

def GivenOk (x : Book) (l : List Int) : Prop := ∀ (B C : Nat) (ta la : Option Addr) (tn tc ln lc set : Nat) (w : World), B ≤ w.heap.size → TabAt B w ta tn x → C ≤ w.heap.size → IntsAt C w la ln l → ln ≤ lc → (∀ y ∈ l, 0 ≤ y ∧ y < (x.planks.length : Int)) → set < 2 ^ x.parts.length →
    Calls Try.prog 87 #[.slice ta tn tc, .slice la ln lc, .int .i64 set] w fun e w' => e = .returned (.bool (sharedR x l set)) ∧ Below w.heap.size w w'
set_option maxRecDepth 100000 in
set_option maxHeartbeats 1000000 in
theorem given_nil {x : Book} : GivenOk x [] := by
  intro B C ta la tn tc ln lc set w hB ht hC hl hlc hi hs
  obtain rfl : ln = 0 := by simpa using hl.len.symm
  have hR : Hid (sharedR x [] set = decide (set = 0)) := Lib.hid (by show (set == 0) = _; rw [Bool.eq_iff_iff]; simp)
  have hS : Hid (((set : Int) == 0) = decide (set = 0)) := Lib.hid (by rw [Bool.eq_iff_iff]; simp)
  clear hl ht
  go_enter Try.func87, Try.ntmps87
  go_wp2_with fail
  go_ret
  exact ⟨ret_bool (by rw [hR.out]; first | exact hS.out | rfl | simp), Below.refl _ _⟩
set_option maxRecDepth 100000 in
set_option maxHeartbeats 4000000 in
theorem given_cons {x : Book} (hb : bookOk x = true) {i : Int} {r : List Int} (hrec : GivenOk x r) : GivenOk x (i :: r) := by
  intro B C ta la tn tc ln lc set w hB ht hC hl hlc hi hs
  have ih := Lib.hid hrec
  clear hrec
  have hln : r.length + 1 = ln := hl.len
  have hi0 := hi i (by simp)
  obtain ⟨i', rfl⟩ := Int.eq_ofNat_of_zero_le hi0.1
  have hi2 : i' < x.planks.length := by omega
  have hir := Lib.hid (fun y (hy : y ∈ r) => hi y (by simp [hy]))
  have htn := ht.len
  have hs32 := lt32 hb hs
  have hit : i' < tn := by omega
  obtain ⟨tb, tof, rfl, htB, htc⟩ := ht.get i' hit
  obtain ⟨ra, rc, e0, hrow⟩ := htc i' hit
  obtain ⟨N, hN⟩ : ∃ N, N = 2 ^ x.parts.length := ⟨_, rfl⟩
  have hN' := Lib.hid hN
  rw [← hN] at e0 hrow hs
  obtain ⟨rb, ro, rfl, hrB, hrc⟩ := hrow.get 0 (by omega)
  have hrow' : Hid (∀ t, t < N → w.cell? ⟨rb, ro + t, none⟩ = some (.int .i64 (endT x i' N t))) := Lib.hid (fun t ht => by
    have := (hrc t ht).1
    rw [endsL_get (by rw [← hN]; exact ht), ← hN] at this
    exact this)
  obtain ⟨b1, o1, rfl, hb1, hc1⟩ := hl.get 0 (by omega)
  have g0 := (hc1 0 (by omega)).1
  have hgi : gi ((i' : Int) :: r) 0 = i' := rfl
  rw [hgi, Nat.add_zero] at g0
  obtain ⟨tlb, hcut1, hcut2⟩ := cut_tail (a := some ⟨b1, o1, none⟩) (n := ln) (c := lc) (by omega) hlc
  have hcut1' := Lib.hid (fun w => hcut1 w)
  have htl := Lib.hid (hcut2 hl)
  have ht' := Lib.hid ht
  have hb' := Lib.hid hb
  have hs' := Lib.hid hs
  obtain ⟨R, hR⟩ : ∃ R, R = sharedR x ((i' : Int) :: r) set := ⟨_, rfl⟩
  rw [← hR]
  obtain ⟨cond, hcond⟩ : ∃ cond : Nat → Bool, cond = fun t => (t &&& set == t) && (canLay x i' t && sharedR x r (set - t)) := ⟨_, rfl⟩
  have hR' : Hid (R = anyB (set + 1) cond) := Lib.hid (by rw [hR, hcond]; rfl)
  have hcond' : Hid (∀ t, cond t = ((t &&& set == t) && (canLay x i' t && sharedR x r (set - t)))) := Lib.hid (fun t => by rw [hcond])
  have hln1 : ln - 1 ≤ lc - 1 := by omega
  have hlz : ((ln : Int) == 0) = false := by simp; omega
  have hl1 : (0 : Int) < ln := by omega
  have hl2 : 0 < ln := by omega
  have hlnz : ln ≠ 0 := by omega
  have hI1 : b1 < w.heap.size := by omega
  have hiti : (i' : Int) < tn := by omega
  have hi2' := Lib.hid hi2
  clear hl ht hcut1 hcut2 hc1 hgi hR hcond hb hs hi hi0 hln hN hrc hrow htc htn
  go_enter Try.func87, Try.ntmps87
  go_wp2_with fail
  clear hlz
  go_loopw [7] (fun v wr => ∃ t : Nat, t ≤ set + 1 ∧ v = .int .i64 t ∧ Hid (∀ u : Nat, u < t → cond u = false) ∧ Below w.heap.size w wr) (fun v _ => set + 1 - (intOf v).toNat)
  case atStart => exact ⟨0, by omega, rfl, fun t h1 => absurd h1 (by omega), Below.refl _ _⟩
  case round =>
    obtain ⟨t, ht1, rfl, hno, hbr⟩ := hrel
    have hzr := hbr.size
    by_cases ht2 : t ≤ set
    case neg =>
      have hRf : Hid (R = false) := Lib.hid (by
        rw [hR'.out, ← Bool.not_eq_true, anyB_iff]
        rintro ⟨u, hu, h⟩
        rw [hno.out u (by omega)] at h; cases h)
      have htI : ¬ (t : Int) ≤ set := by omega
      go_wp2_with fail
      go_ret
      exact ⟨ret_bool (by rw [hRf.out]), hbr⟩
    have htI : (t : Int) ≤ set := by omega
    have htN : t < N := by have := hs'.out; omega
    have htNI : (t : Int) < N := by omega
    have ht32 : t < 32 := by omega
    have hand := and_bit ht32 hs32
    obtain ⟨Y, hY⟩ : ∃ Y, Y = t &&& set := ⟨_, rfl⟩
    rw [← hY] at hand
    have hct := hcond'.out t
    rw [← hY] at hct
    by_cases hYt : Y = t
    case neg =>
      have h1 : ((Y : Int) == (t : Int)) = false := by simp; omega
      have hc : Hid (cond t = false) := Lib.hid (by rw [hct]; simp [hYt])
      clear hct hY hYt
      go_wp2_with fail
      go_roundw
      case rel => exact ⟨t + 1, by omega, by go_num, fun u h1 => by
        by_cases e : u = t
        · rw [e]; exact hc.out
        · exact hno.out u (by omega), hbr⟩
      case measure => simp [intOf]; omega
    have h1 : ((Y : Int) == (t : Int)) = true := by simp [hYt]
    rw [hYt] at hct
    simp only [beq_self_eq_true, Bool.true_and] at hct
    have g1 := (bcells hbr b1 o1 hI1).trans g0
    have e1 := (bcells hbr tb (tof + i') (by omega)).trans e0
    have e2 := (bcells hbr rb (ro + t) (by omega)).trans (hrow'.out t htN)
    have hcan := end_can hb'.out hi2'.out (s := t) (by rw [← hN'.out]; exact htN)
    rw [← hN'.out] at hcan
    obtain ⟨E, hE⟩ : ∃ E, E = endT x i' N t := ⟨_, rfl⟩
    rw [← hE] at e2 hcan
    obtain ⟨c1, hc1⟩ : ∃ c1, c1 = canLay x i' t := ⟨_, rfl⟩
    obtain ⟨c2, hc2⟩ : ∃ c2, c2 = sharedR x r (set - t) := ⟨_, rfl⟩
    rw [← hc1] at hcan
    rw [← hc1, ← hc2] at hct
    have hct' := Lib.hid hct
    have hc2' := Lib.hid hc2
    have hcut1 := hcut1'.out
    have hsub : IntKind.i64.wrap ((set : Int) - t) = ((set - t : Nat) : Int) := by rw [show (set : Int) - t = ((set - t : Nat) : Int) by omega]; exact IntWalk.i64_in _ (by omega)
    clear hct hE hc1 hc2 hY hYt
    cases c1 with
    | false =>
      have hE99 : ¬ E < 99 := by simpa using hcan
      have hc : Hid (cond t = false) := Lib.hid (by rw [hct'.out]; rfl)
      clear hcan
      go_wp2_with fail
      go_roundw
      case rel => exact ⟨t + 1, by omega, by go_num, fun u h1 => by
        by_cases e : u = t
        · rw [e]; exact hc.out
        · exact hno.out u (by omega), hbr⟩
      case measure => simp [intOf]; omega
    | true =>
      have hE99 : E < 99 := by simpa using hcan
      have hct2 : Hid (cond t = c2) := Lib.hid (by rw [hct'.out]; rfl)
      clear hcan
      go_wp2_with fail
      refine (ih.out B C _ tlb tn tc (ln - 1) (lc - 1) (set - t) wr (by omega) (ht'.out.keep (Nat.le_refl _) (fun b o h => bcells hbr b o (by omega))) (by omega) (htl.out.keep (Nat.le_refl _) (fun b o h => bcells hbr b o (by omega))) hln1 hir.out (by rw [← hN'.out]; have := hs'.out; omega)).mono ?_
      rintro e w6 ⟨rfl, hb6⟩
      rw [show sharedR x r (set - t) = c2 from hc2'.out.symm]
      have hbr6 := hbr.trans (hb6.mono hbr.size)
      clear hb6 g1 e1 e2
      cases c2 with
      | true =>
        have hRt : Hid (R = true) := Lib.hid (by rw [hR'.out, anyB_iff]; exact ⟨t, by omega, hct2.out⟩)
        go_wp2_with fail
        go_ret
        exact ⟨ret_bool (by rw [hRt.out]), hbr6⟩
      | false =>
        go_wp2_with fail
        go_roundw
        case rel => exact ⟨t + 1, by omega, by go_num, fun u h1 => by
          by_cases e : u = t
          · rw [e]; exact hct2.out
          · exact hno.out u (by omega), hbr6⟩
        case measure => simp [intOf]; omega
theorem given_any {x : Book} (hb : bookOk x = true) : ∀ l : List Int, GivenOk x l
  | [] => given_nil
  | _ :: r => given_cons hb (given_any hb r)
end Go.Proofs.Ytbbolibkheelmaa
namespace Go.Proofs.Ytbbolibkheelmaa
open Go.RowKit Go.Shelf

theorem ones_all : (List.range 32).all (fun (s : Nat) => decide ((memL s).length = onesN s)) = true := by kernel_rfl
theorem ones_len {s : Nat} (hs : s < 32) : (memL s).length = onesN s := by
  have := List.all_eq_true.1 ones_all s (List.mem_range.2 hs)
  simpa using this
theorem maxU_le {a M : Int} {xs : List Int} (ha : a ≤ M) : ∀ n, (∀ j, j < n → gi xs j ≤ M) → maxU a xs n ≤ M
  | 0, _ => ha
  | n + 1, h => by
    have h1 := maxU_le ha n (fun j hj => h j (by omega))
    have h2 := h n (by omega)
    show max (maxU a xs n) (gi xs n) ≤ M
    omega
theorem maxU_ge {a : Int} {xs : List Int} : ∀ n j, j < n → gi xs j ≤ maxU a xs n
  | 0, _, h => by omega
  | n + 1, j, h => by
    show gi xs j ≤ max (maxU a xs n) (gi xs n)
    by_cases e : j = n
    · subst e; omega
    · have := maxU_ge (a := a) (xs := xs) n j (by omega); omega
theorem mostN_is {m : Nat → Bool} {s : Nat} (hs : s < 32) (h : BestOf moreB m 32 s) : mostN m = (memL s).length := by
  have hle : ∀ j, j < 32 → m j = true → (onesN j : Int) ≤ onesN s := by
    intro j hj hm
    have := h.2.2 j hj hm
    rw [more_is, Bool.or_eq_false_iff, decide_eq_false_iff_not, ones_len hj, ones_len hs] at this
    omega
  rw [ones_len hs]
  unfold mostN
  have h1 : maxU 0 (sizesU m 32) (sizesU m 32).length ≤ onesN s := maxU_le (by omega) _ (fun j hj => by
    have hm : gi (sizesU m 32) j ∈ sizesU m 32 := by rw [gi_eq hj]; exact List.getElem_mem hj
    have hm2 := hm
    unfold sizesU at hm2
    rw [List.mem_map] at hm2
    obtain ⟨q, hq, e⟩ := hm2
    rw [List.mem_filter, List.mem_range] at hq
    have := hle q hq.1 hq.2
    rw [show gi (sizesU m 32) j = ((onesN q : Nat) : Int) from e.symm]
    exact this)
  have h2 : ((onesN s : Nat) : Int) ∈ sizesU m 32 := by
    unfold sizesU
    rw [List.mem_map]
    exact ⟨s, by rw [List.mem_filter, List.mem_range]; exact ⟨hs, h.2.1⟩, rfl⟩
  obtain ⟨j, hj, e⟩ := List.mem_iff_getElem.1 h2
  have h3 := maxU_ge (a := 0) (xs := sizesU m 32) (sizesU m 32).length j hj
  rw [gi_eq hj, e] at h3
  omega
section
variable {x : Book}
theorem stock_congr {f f' : Nat → Nat → Bool} {S : Nat} : ∀ n, (∀ k, k < n → f k = f' k) → stockCut f S n = stockCut f' S n
  | 0, _ => rfl
  | n + 1, h => by
    unfold stockCut
    rw [stock_congr n (fun k hk => h k (by omega)), h n (by omega)]
theorem cutsM_congr {y : Book} {p : Nat} (h1 : gw y.planks p = gw x.planks p) (h2 : y.parts = x.parts) : cutsM y p = cutsM x p := by
  have : canLay y p = canLay x p := by
    funext s
    unfold canLay
    rw [h1, h2]
  unfold cutsM
  rw [this, h2]
theorem found_is {p k : Nat} {t : Int} (hp : p < x.planks.length) : foundN x (stockF x) p k t = mostN (allF (lookedB x p k t)) := by
  unfold foundN allF
  have hl : (lookedB x p k t).planks.length = x.planks.length := by unfold lookedB; simp
  rw [hl]
  congr 1
  refine stock_congr _ (fun j hj => ?_)
  unfold updF stockF stockU
  rw [hl, if_pos hj]
  by_cases e : j = p
  · rw [if_pos e, e, if_pos hp]
  · rw [if_neg e, if_pos hj]
    exact (cutsM_congr (looked_other e) rfl).symm
theorem found_len {p k : Nat} {t : Int} (hb : bookOk (lookedB x p k t) = true) (hp : p < x.planks.length) : foundN x (stockF x) p k t = ((mostR (lookedB x p k t)).1.length : Int) := by
  obtain ⟨s, h1, h2, h3⟩ := most_is hb
  rw [found_is hp, h3, mostN_is (lt32 hb h2) h1]

/-! ### The knot -/
/-- The best one of those that were offered. -/
def BestSt (bet : Bet) (P : List Int → Int → Prop) : Option (List Int × Int) → Prop
  | none => ∀ xs c, ¬ P xs c
  | some (xs, c) => P xs c ∧ ∀ ys d, P ys d → bet ys d xs c = false
theorem best_offer {bet : Bet} (hl : BetLaw bet) {P : List Int → Int → Prop} {st : Option (List Int × Int)} (h : BestSt bet P st) (zs : List Int) (cz : Int) : BestSt bet (fun xs c => P xs c ∨ (xs = zs ∧ c = cz)) (offerL bet st zs cz) := by
  cases st with
  | none =>
    refine ⟨.inr ⟨rfl, rfl⟩, fun ys d hy => ?_⟩
    rcases hy with hy | ⟨rfl, rfl⟩
    · exact absurd hy (h _ _)
    · exact hl.self _ _
  | some p =>
    obtain ⟨xs, cx⟩ := p
    obtain ⟨h1, h2⟩ := h
    show BestSt bet _ (if bet zs cz xs cx = true then some (zs, cz) else some (xs, cx))
    by_cases hb : bet zs cz xs cx = true
    · rw [if_pos hb]
      refine ⟨.inr ⟨rfl, rfl⟩, fun ys d hy => ?_⟩
      rcases hy with hy | ⟨rfl, rfl⟩
      · rw [← Bool.not_eq_true]
        intro h3
        have := hl.trans _ _ _ _ _ _ h3 hb
        rw [h2 _ _ hy] at this
        cases this
      · exact hl.self _ _
    · rw [if_neg hb]
      refine ⟨.inl h1, fun ys d hy => ?_⟩
      rcases hy with hy | ⟨rfl, rfl⟩
      · exact h2 _ _ hy
      · simpa using hb
theorem best_congr {bet : Bet} {P P' : List Int → Int → Prop} {st : Option (List Int × Int)} (h : BestSt bet P st) (he : ∀ xs c, P xs c ↔ P' xs c) : BestSt bet P' st := by
  cases st with
  | none => exact fun xs c hp => h xs c ((he xs c).2 hp)
  | some p => exact ⟨(he _ _).1 h.1, fun ys d hy => h.2 ys d ((he _ _).2 hy)⟩
theorem look_in {f : Nat → Nat → Bool} {i : Nat} {P : List Int → Int → Prop} {st : Option (List Int × Int)} (h : BestSt moreB P st) : ∀ j : Nat, BestSt moreB (fun xs c => P xs c ∨ ∃ k : Nat, k < j ∧ xs = [(i : Int), (k : Int)] ∧ c = worstN x f i k) (lookIn x f i st j)
  | 0 => best_congr h (fun xs c => by simp)
  | j + 1 => by
    refine best_congr (best_offer more_law (look_in h j) [(i : Int), (j : Int)] (worstN x f i j)) (fun xs c => ?_)
    constructor
    · rintro ((h | ⟨k, hk, e⟩) | e)
      · exact .inl h
      · exact .inr ⟨k, by omega, e⟩
      · exact .inr ⟨j, by omega, e⟩
    · rintro (h | ⟨k, hk, e⟩)
      · exact .inl (.inl h)
      · by_cases ek : k = j
        · subst ek; exact .inr e
        · exact .inl (.inr ⟨k, by omega, e⟩)
theorem look_out {f : Nat → Nat → Bool} : ∀ n : Nat, BestSt moreB (fun xs c => ∃ i k : Nat, i < n ∧ k < (gw x.planks i).knots.length ∧ xs = [(i : Int), (k : Int)] ∧ c = worstN x f i k) (lookOut x f n)
  | 0 => fun xs c => by rintro ⟨i, k, hi, _⟩; omega
  | n + 1 => by
    refine best_congr (look_in (look_out n) (gw x.planks n).knots.length) (fun xs c => ?_)
    constructor
    · rintro (⟨i, k, hi, hk, e⟩ | ⟨k, hk, e⟩)
      · exact ⟨i, k, by omega, hk, e⟩
      · exact ⟨n, k, by omega, hk, e⟩
    · rintro ⟨i, k, hi, hk, e⟩
      by_cases ei : i = n
      · subst ei; exact .inr ⟨k, hk, e⟩
      · exact .inl ⟨i, k, by omega, hk, e⟩
theorem look_is (hb : bookOk x = true) : (lookR x = (0, 0, 4) ∧ ∀ i, i < x.planks.length → (gw x.planks i).knots.length = 0) ∨
    ∃ i k : Nat, lookR x = ((i : Int), (k : Int), 0) ∧ i < x.planks.length ∧ k < (gw x.planks i).knots.length ∧ ∀ p q : Nat, p < x.planks.length → q < (gw x.planks p).knots.length →
      worstN x (stockF x) p q < worstN x (stockF x) i k ∨ (worstN x (stockF x) p q = worstN x (stockF x) i k ∧ (i < p ∨ (i = p ∧ k ≤ q))) := by
  have h := look_out (x := x) (f := stockF x) x.planks.length
  unfold lookR
  rw [if_pos hb]
  cases ho : lookOut x (stockF x) x.planks.length with
  | none =>
    rw [ho] at h
    refine .inl ⟨rfl, fun i hi => ?_⟩
    by_cases e : (gw x.planks i).knots.length = 0
    · exact e
    · exact absurd ⟨i, 0, hi, by omega, rfl, rfl⟩ (h [(i : Int), ((0 : Nat) : Int)] (worstN x (stockF x) i 0))
  | some r =>
    obtain ⟨xs, c⟩ := r
    rw [ho] at h
    obtain ⟨⟨i, k, hi, hk, rfl, rfl⟩, h2⟩ := h
    refine .inr ⟨i, k, rfl, hi, hk, fun p q hp hq => ?_⟩
    have := h2 [(p : Int), (q : Int)] _ ⟨p, q, hp, hq, rfl, rfl⟩
    rw [more_is, Bool.or_eq_false_iff, decide_eq_false_iff_not] at this
    obtain ⟨h3, h4⟩ := this
    by_cases e : worstN x (stockF x) p q = worstN x (stockF x) i k
    · refine .inr ⟨e, ?_⟩
      rw [decide_eq_true e, Bool.true_and] at h4
      unfold lessI at h4
      by_cases e2 : (p : Int) = i
      · rw [if_pos e2] at h4
        unfold lessI at h4
        by_cases e3 : (q : Int) = k
        · exact .inr ⟨by omega, by omega⟩
        · rw [if_neg e3, decide_eq_false_iff_not] at h4
          exact .inr ⟨by omega, by omega⟩
      · rw [if_neg e2, decide_eq_false_iff_not] at h4
        exact .inl (by omega)
    · exact .inl (by omega)
end
end Go.Proofs.Ytbbolibkheelmaa
namespace Go.Proofs.Ytbbolibkheelmaa
open Go.RowKit Go.Shelf

set_option maxRecDepth 100000 in
set_option maxHeartbeats 4000000 in
theorem lawworst_any {B : Nat} {pa sa : Option Addr} {pn pc sn sc p k : Nat} {x : Book} {w : World} (hB : B ≤ w.heap.size) (hx : BookAt B w pa pn sa sn x) (hb : bookOk x = true) (hp : p < pn) (hk : k < (gw x.planks p).knots.length) :
    Calls Try.prog 50 #[.agg #[.slice pa pn pc, .slice sa sn sc], .int .i64 p, .int .i64 k] w fun e w' => e = .returned (.int .i64 (worstN x (stockF x) p k)) ∧ Below w.heap.size w w' := by
  have hpn := Lib.hid hx.planks.len
  have hsn := Lib.hid hx.parts.len
  have hG := good_of hb
  have hxp : p < x.planks.length := by rw [hpn.out]; exact hp
  have hwd := hG.wood p hxp
  have hkn := hG.knot p hxp k hk
  have hpn3 : pn ≤ 100 := by have := hG.planks; have := hpn.out; omega
  have hsn5 : sn ≤ 5 := by have := hG.parts; have := hsn.out; omega
  obtain ⟨w0, hw0⟩ : ∃ w0, w0 = w.alloc (.cells #[.slice pa pn pc, .slice sa sn sc] 25) := ⟨_, rfl⟩
  have hbw0 : Below w.heap.size w w0 := by rw [hw0]; exact (Below.refl _ _).alloc (Nat.le_refl _) _
  have hk0 : Blk w0 w.heap.size #[.slice pa pn pc, .slice sa sn sc] := by rw [hw0]; exact Blk.new w _ _
  have l0 : w.heap.size < w0.heap.size := hk0.lt
  have hx0 := hx.keep (w' := w0) (Nat.le_refl _) (fun b o h => bcells hbw0 b o (by omega))
  clear hx
  obtain ⟨pb, po, rfl, hpB, hpc⟩ := hx0.planks.get p hp
  obtain ⟨kv, hkv, kc0, kc1, kI⟩ := hpc p hp
  clear hpc
  obtain ⟨ka, kn, kc, rfl, hks⟩ := hkv
  have hkn2 := hks.len
  obtain ⟨kb, ko, rfl, hkB, hkc⟩ := hks.get k (by omega)
  obtain ⟨c0, c1, i0, i1⟩ := hkc k (by omega)
  clear hkc hks
  obtain ⟨lo, hlo⟩ : ∃ lo, lo = (gp (gw x.planks p).knots k).1 := ⟨_, rfl⟩
  obtain ⟨hi, hhi⟩ : ∃ hi, hi = (gp (gw x.planks p).knots k).2 := ⟨_, rfl⟩
  have hlohi : lo ≤ hi ∧ 0 ≤ lo ∧ hi ≤ 16 := by rw [hlo, hhi]; unfold Knot at hkn; exact ⟨hkn.2.1, hkn.1, by omega⟩
  obtain ⟨hlh, hlo0, hhi16⟩ := hlohi
  rw [← hlo] at c0
  rw [← hhi] at c1
  have hk100 : (gw x.planks p).knots.length ≤ 100 := by have := hwd.2.2; omega
  obtain ⟨N, hN⟩ : ∃ N : Nat, (N : Int) = hi - lo + 1 := ⟨(hi - lo + 1).toNat, by omega⟩
  obtain ⟨R, hR⟩ : ∃ R, R = worstN x (stockF x) p k := ⟨_, rfl⟩
  rw [← hR]
  have hR' : Hid (R = worstU x (stockF x) p k N) := Lib.hid (by rw [hR]; unfold worstN; rw [← hlo, ← hhi, ← hN, Int.toNat_natCast])
  have hok : Hid (∀ t, lo ≤ t → t ≤ hi → bookOk (lookedB x p k t) = true) := Lib.hid (fun t h1 h2 => looked_ok hb hxp hk (by rw [← hlo]; exact h1) (by rw [← hhi]; exact h2))
  have hstep : Hid (∀ j : Nat, lo + (j : Int) ≤ hi → worstU x (stockF x) p k (j + 1) = min (worstU x (stockF x) p k j) ((mostR (lookedB x p k (lo + j))).1.length : Int)) := Lib.hid (fun j hj => by
    have : worstU x (stockF x) p k (j + 1) = min (worstU x (stockF x) p k j) (foundN x (stockF x) p k (lo + j)) := by rw [hlo]; rfl
    rw [this, found_len (hok.out _ (by omega) hj) hxp])
  have hme : Hid (∀ t, lo ≤ t → t ≤ hi → (mostR (lookedB x p k t)).2 = 0) := Lib.hid (fun t h1 h2 => by
    obtain ⟨s, _, _, h3⟩ := most_is (hok.out t h1 h2)
    rw [h3])
  have hx1 := Lib.hid hx0
  have hpi : (p : Int) < pn := by omega
  have hki : (k : Int) < kn := by omega
  have q0 : w0.cell? ⟨w.heap.size, 0, none⟩ = some (.slice (some ⟨pb, po, none⟩) pn pc) := hk0.cell
  have q1 : w0.cell? ⟨w.heap.size, 1, none⟩ = some (.slice sa sn sc) := hk0.cell
  have lpb : pb < w0.heap.size := by omega
  have lkb : kb < w0.heap.size := by omega
  have hwu0 : Hid ((sn : Int) = worstU x (stockF x) p k 0) := Lib.hid (by unfold worstU; rw [hsn.out])
  clear hx0 hR hlo hhi hG hwd hkn kc0 kI hkn2 i0 i1 hb
  go_enter Try.func50, Try.ntmps50
  replace hw0 := hw0.symm
  go_wp2_with fail
  clear hw0 q0 q1
  go_loopw [7, 8] (fun v i wr => ∃ j : Nat, j ≤ N ∧ i = .int .i64 (lo + j) ∧ v = .int .i64 (worstU x (stockF x) p k j) ∧ Below w0.heap.size w0 wr) (fun _ i _ => (hi + 1 - intOf i).toNat)
  case atStart => exact ⟨0, by omega, by simp, by rw [hwu0.out], Below.refl _ _⟩
  case round =>
    obtain ⟨j, hj, rfl, rfl, hbr⟩ := hrel
    have hkr := hk0.below hbr l0
    have hzr := hbr.size
    have hbwr := hbw0.trans (hbr.mono hbw0.size)
    have q0 : wr.cell? ⟨w.heap.size, 0, none⟩ = some (.slice (some ⟨pb, po, none⟩) pn pc) := hkr.cell
    have q1 : wr.cell? ⟨w.heap.size, 1, none⟩ = some (.slice sa sn sc) := hkr.cell
    have q2 := (bcells hbr pb (po + p * 2 + 1) lpb).trans kc1
    have q3 := (bcells hbr kb (ko + k * 2) lkb).trans c0
    have q4 := (bcells hbr kb (ko + k * 2 + 1) lkb).trans c1
    by_cases hlt : j < N
    · have hle : lo + (j : Int) ≤ hi := by omega
      have hxr := Lib.hid (hx1.out.keep (w' := wr) (Nat.le_refl _) (fun b o h => bcells hbr b o (by omega)))
      have hst := hstep.out j hle
      obtain ⟨W, hW⟩ : ∃ W, W = worstU x (stockF x) p k j := ⟨_, rfl⟩
      rw [← hW] at hst ⊢
      have hst' := Lib.hid hst
      clear hW hst
      go_wp2_with fail
      refine (known_any (B := B) (t := lo + j) (by omega) hxr.out hpn3 hp hk hk100 (by unfold I64; omega)).mono ?_
      rintro e w5 ⟨qa, qn, qc, rfl, hy, hb5⟩
      clear q0 q1 q2 q3 q4
      go_wp2_with fail
      refine (Most_any (Nat.le_refl _) hy).mono ?_
      rintro e w6 ⟨ra, rn, rc, rfl, hl, hb6⟩
      rw [hme.out (lo + j) (by omega) hle]
      have hln := hl.len
      have hst2 : Hid (worstU x (stockF x) p k (j + 1) = min W (rn : Int)) := Lib.hid (by rw [hst'.out, hln])
      have hbr6 := (hbr.trans (hb5.mono hbr.size)).trans (hb6.mono (Nat.le_trans hbr.size hb5.size))
      clear hl hln hb6 hb5 hy
      go_wp2_with fail
      go_roundw
      case rel =>
        refine ⟨j + 1, by omega, ?_, ?_, hbr6⟩
        · rw [show lo + (j : Int) + 1 = lo + ((j + 1 : Nat) : Int) by omega]
        · rw [hst2.out]
          congr 1
          rw [Int.min_def]
          split <;> split <;> omega
      case measure => simp [intOf]; omega
    · obtain rfl : j = N := by omega
      have hgt : hi < lo + (j : Int) := by omega
      go_wp2_with fail
      go_ret
      exact ⟨ret_int (by rw [hR'.out]), hbwr⟩
end Go.Proofs.Ytbbolibkheelmaa
namespace Go.Proofs.Ytbbolibkheelmaa
open Go.RowKit Go.Shelf

theorem best_fewer {m : Nat → Bool} {n a b : Nat} (ha : BestOf fewerB m n a) (hb : BestOf fewerB m n b) : memL a = memL b := by
  have h1 := ha.2.2 b hb.1 hb.2.1
  have h2 := hb.2.2 a ha.1 ha.2.1
  rw [fewer_is, Bool.or_eq_false_iff, decide_eq_false_iff_not] at h1 h2
  have hl : (memL a).length = (memL b).length := by omega
  have h3 := h1.2
  have h4 := h2.2
  rw [decide_eq_true (by omega), Bool.true_and] at h3 h4
  exact less_total h4 h3
theorem best_more {m : Nat → Bool} {n a b : Nat} (ha : BestOf moreB m n a) (hb : BestOf moreB m n b) : memL a = memL b := by
  have h1 := ha.2.2 b hb.1 hb.2.1
  have h2 := hb.2.2 a ha.1 ha.2.1
  rw [more_is, Bool.or_eq_false_iff, decide_eq_false_iff_not] at h1 h2
  have hl : (memL a).length = (memL b).length := by omega
  have h3 := h1.2
  have h4 := h2.2
  rw [decide_eq_true (by omega), Bool.true_and] at h3 h4
  exact less_total h4 h3
/-- Which one is the best so far, of those below k, or of one that was there before. -/
def SoFar (bet : Bet) (m : Nat → Bool) (k b : Nat) : Prop := m b = true ∧ ∀ j, j < k → m j = true → bet (memL j) (memL j).length (memL b) (memL b).length = false
theorem sofar_keep {bet : Bet} {m : Nat → Bool} {k b : Nat} (h : SoFar bet m k b) (hk : ¬ (bet (memL k) (memL k).length (memL b) (memL b).length = true ∧ m k = true)) : SoFar bet m (k + 1) b :=
  ⟨h.1, fun j hj hm => by
    by_cases e : j = k
    · subst e
      rw [← Bool.not_eq_true]
      exact fun h' => hk ⟨h', hm⟩
    · exact h.2 j (by omega) hm⟩
theorem sofar_take {bet : Bet} (hl : BetLaw bet) {m : Nat → Bool} {k b : Nat} (h : SoFar bet m k b) (h1 : bet (memL k) (memL k).length (memL b) (memL b).length = true) (h2 : m k = true) : SoFar bet m (k + 1) k :=
  ⟨h2, fun j hj hm => by
    by_cases e : j = k
    · subst e; exact hl.self _ _
    · rw [← Bool.not_eq_true]
      intro h'
      have := hl.trans _ _ _ _ _ _ h' h1
      rw [h.2 j (by omega) hm] at this
      cases this⟩
theorem mem_full_len {n : Nat} (hn : n ≤ 5) : (memL (2 ^ n - 1)).length = n := by
  rw [← memU_L (ones_lt n) (by have := pow_le32 hn; have := ones_lt n; omega)]
  unfold memU
  rw [List.length_map, List.filter_eq_self.2, List.length_range]
  intro p hp
  rw [has_ones]; exact decide_eq_true (List.mem_range.1 hp)
theorem memL_zero : memL 0 = [] := by rfl
section
variable {x : Book}
theorem sofar_fewest (hb : bookOk x = true) {b : Nat} (hlt : b < 2 ^ x.planks.length) (h : SoFar fewerB (wholeF x) (2 ^ x.planks.length) b) : fewestR x = (memL b, 0) := by
  have hB : BestOf fewerB (wholeF x) (2 ^ x.planks.length) b := ⟨hlt, h.1, h.2⟩
  rcases fewest_is hb with ⟨_, h2⟩ | ⟨S, h1, h2, _⟩
  · exact absurd (((wholeF_pack hb).1 h.1).mono (fun _ _ _ => trivial) (fun _ h => h)) h2
  · rw [h2, best_fewer h1 hB]
theorem none_fewest (hb : bookOk x = true) (h : wholeF x (2 ^ x.planks.length - 1) = false) : fewestR x = ([], 4) := by
  rcases fewest_is hb with ⟨h1, _⟩ | ⟨S, h1, _, h2⟩
  · exact h1
  · have h3 : wholeF x (2 ^ x.planks.length - 1) = true := (wholeF_pack hb).2 (h2.mono (fun i hi _ => by rw [has_ones]; exact decide_eq_true hi) (fun _ h => h))
    rw [h3] at h; cases h
theorem sofar_most (hb : bookOk x = true) {b : Nat} (h : SoFar moreB (allF x) (2 ^ x.parts.length) b) : mostR x = (memL b, 0) := by
  obtain ⟨s, h1, h2, h3⟩ := most_is hb
  have hlt := stock_false hb _ (Nat.le_refl _) b h.1
  have hB : BestOf moreB (allF x) 32 b := ⟨lt32 hb hlt, h.1, fun j _ hm => h.2 j (stock_false hb _ (Nat.le_refl _) j hm) hm⟩
  rw [h3, best_more h1 hB]
theorem all_zero (hb : bookOk x = true) : allF x 0 = true := (all_pack hb (Nat.pow_pos (by decide))).2 (Pack.none fun p h => by rw [has_zero] at h; cases h)
/-- When is one list more than another one, as the specification asks it. -/
theorem more_asked (xs ys : List Int) : moreB xs xs.length ys ys.length = (decide (ys.length < xs.length) || (decide (xs.length = ys.length) && lessI xs ys)) := by
  rw [more_is]
  have h1 : decide ((ys.length : Int) < xs.length) = decide (ys.length < xs.length) := by rw [decide_eq_decide]; omega
  have h2 : decide ((xs.length : Int) = ys.length) = decide (xs.length = ys.length) := by rw [decide_eq_decide]; omega
  rw [h1, h2]

/-! ### Which knot -/
/-- The best knot so far, of those before (i, k). -/
def LookSt (x : Book) (i k : Nat) (p q : Nat) (b : Int) : Prop :=
  (b = -1 ∧ p = 0 ∧ q = 0 ∧ ∀ r s : Nat, (r < i ∨ (r = i ∧ s < k)) → r < x.planks.length → ¬ s < (gw x.planks r).knots.length) ∨
  (0 ≤ b ∧ (p < i ∨ (p = i ∧ q < k)) ∧ p < x.planks.length ∧ q < (gw x.planks p).knots.length ∧ b = worstN x (stockF x) p q ∧ ∀ r s : Nat, (r < i ∨ (r = i ∧ s < k)) → r < x.planks.length → s < (gw x.planks r).knots.length →
    worstN x (stockF x) r s < b ∨ (worstN x (stockF x) r s = b ∧ (p < r ∨ (p = r ∧ q ≤ s))))
theorem look_start (x : Book) : LookSt x 0 0 0 0 (-1) := .inl ⟨rfl, rfl, rfl, fun r s h => by omega⟩
theorem look_row {i p q : Nat} {b : Int} (h : LookSt x i (gw x.planks i).knots.length p q b) : LookSt x (i + 1) 0 p q b := by
  rcases h with ⟨h1, h2, h3, h4⟩ | ⟨h0, h5, h1, h2, h3, h4⟩
  · refine .inl ⟨h1, h2, h3, fun r s hrs hr hs => ?_⟩
    by_cases e : r = i
    · subst e; exact h4 r s (.inr ⟨rfl, hs⟩) hr hs
    · exact h4 r s (.inl (by omega)) hr hs
  · refine .inr ⟨h0, by omega, h1, h2, h3, fun r s hrs hr hs => ?_⟩
    by_cases e : r = i
    · subst e; exact h4 r s (.inr ⟨rfl, hs⟩) hr hs
    · exact h4 r s (.inl (by omega)) hr hs
theorem look_take {i k p q : Nat} {b : Int} (h : LookSt x i k p q b) (hi : i < x.planks.length) (hk : k < (gw x.planks i).knots.length) (h0 : 0 ≤ worstN x (stockF x) i k) (hb : b < worstN x (stockF x) i k) : LookSt x i (k + 1) i k (worstN x (stockF x) i k) := by
  refine .inr ⟨h0, .inr ⟨rfl, by omega⟩, hi, hk, rfl, fun r s hrs hr hs => ?_⟩
  by_cases e : r = i ∧ s = k
  · obtain ⟨rfl, rfl⟩ := e
    exact .inr ⟨rfl, .inr ⟨rfl, Nat.le_refl _⟩⟩
  · rcases h with ⟨h1, h2, h3, h4⟩ | ⟨h0, h5, h1, h2, h3, h4⟩
    · exact absurd hs (h4 r s (by omega) hr)
    · have := h4 r s (by omega) hr hs
      exact .inl (by omega)
theorem look_keep {i k p q : Nat} {b : Int} (h : LookSt x i k p q b) (h0 : 0 ≤ worstN x (stockF x) i k) (hb : worstN x (stockF x) i k ≤ b) : LookSt x i (k + 1) p q b := by
  rcases h with ⟨h1, h2, h3, h4⟩ | ⟨h0, h5, h1, h2, h3, h4⟩
  · omega
  · refine .inr ⟨h0, by omega, h1, h2, h3, fun r s hrs hr hs => ?_⟩
    by_cases e : r = i ∧ s = k
    · obtain ⟨rfl, rfl⟩ := e
      by_cases e : worstN x (stockF x) r s = b
      · exact .inr ⟨e, by omega⟩
      · exact .inl (by omega)
    · exact h4 r s (by omega) hr hs
theorem look_end (hb : bookOk x = true) {p q : Nat} {b : Int} (h : LookSt x x.planks.length 0 p q b) : lookR x = if b < 0 then (0, 0, 4) else ((p : Int), (q : Int), 0) := by
  rcases look_is hb with ⟨h1, h2⟩ | ⟨i, k, h1, hi, hk, h2⟩
  · rcases h with ⟨e, _⟩ | ⟨_, _, hp, hq, _⟩
    · rw [h1, e]; rfl
    · have := h2 p hp; omega
  · rcases h with ⟨_, _, _, h4⟩ | ⟨h0, _, hp, hq, hbw, h4⟩
    · exact absurd hk (h4 i k (.inl hi) hi)
    · have h5 := h2 p q hp hq
      have h6 := h4 i k (.inl hi) hi hk
      rw [if_neg (by omega), h1]
      have e1 : i = p := by omega
      have e2 : k = q := by omega
      rw [e1, e2]
end
end Go.Proofs.Ytbbolibkheelmaa
