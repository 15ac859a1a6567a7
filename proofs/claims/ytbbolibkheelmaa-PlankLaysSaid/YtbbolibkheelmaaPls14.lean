/- Walks: the specification's search for inches. Plain mathematics: what is easier: more known of a knot, a longer plank, a joint less. -/
import Derived.Test.YtbbolibkheelmaaPls13
import Derived.Test.YtbbolibkheelmaaPls11
import Derived.Deep.DeepCutAuto
import Derived.Test.YtbbolibkheelmaaPls05
import Derived.Test.YtbbolibkheelmaaGa14
namespace Go.Proofs.Ytbbolibkheelmaa
open Go.RowKit Go.Shelf

theorem find_at {β : Type} {f : Int → Option β} {y : β} : ∀ (sp : List Int) (j : Nat), j < sp.length → (∀ t, t < j → f (gi sp t) = none) → f (gi sp j) = some y → sp.findSome? f = some y
  | [], j, hj, _, _ => absurd hj (by simp)
  | a :: sp, 0, _, _, h => by
    have h' : f a = some y := h
    rw [List.findSome?_cons, h']
  | a :: sp, j + 1, hj, h0, h => by
    have h1 : f a = none := h0 0 (by omega)
    rw [List.findSome?_cons, h1]
    exact find_at sp j (by simpa using hj) (fun t ht => h0 (t + 1) (by omega)) h
theorem find_never {β : Type} {f : Int → Option β} : ∀ (sp : List Int), (∀ t, t < sp.length → f (gi sp t) = none) → sp.findSome? f = none
  | [], _ => rfl
  | a :: sp, h => by
    have h1 : f a = none := h 0 (by simp)
    rw [List.findSome?_cons, h1]
    exact find_never sp (fun t ht => h (t + 1) (by simpa using ht))
theorem free_succ (x : Book) (parts at_ : List Int) (n : Nat) (t : Int) (q : Nat) : freeR x parts at_ n t (q + 1) = (freeR x parts at_ n t q && (decide (t + lenOf x.parts parts n ≤ gi at_ q) || decide (gi at_ q + lenOf x.parts parts q ≤ t))) := rfl

/-- What is said of the search when r parts are left. -/
def LaidOk (B : Nat) (pa : Option Addr) (pn pc : Nat) (sa : Option Addr) (sn sc i : Nat) (la : Option Addr) (ln lc : Nat) (x : Book) (parts : List Int) (r : Nat) : Prop :=
  ∀ (at_ : List Int) (b o ac C : Nat) (w : World), B ≤ w.heap.size → C ≤ w.heap.size → BookAt B w pa pn sa sn x → IntsAt C w la ln parts → IntsAt C w (some ⟨b, o, none⟩) at_.length at_ → at_.length + r = parts.length → (∀ k, k < at_.length → 0 ≤ gi at_ k ∧ gi at_ k ≤ 16) →
    Calls Try.prog 74 #[.agg #[.slice pa pn pc, .slice sa sn sc], .int .i64 i, .slice la ln lc, .slice (some ⟨b, o, none⟩) at_.length ac] w fun e w' => ∃ v, e = .returned (.tuple #[v, .bool (laidF x i parts r at_).isSome]) ∧ IntsV w'.heap.size w' v ((laidF x i parts r at_).getD []) ∧ Below w.heap.size w w'
set_option maxRecDepth 100000 in
set_option maxHeartbeats 1000000 in
theorem laid_zero {B : Nat} {pa sa la : Option Addr} {pn pc sn sc i ln lc : Nat} {x : Book} {parts : List Int} : LaidOk B pa pn pc sa sn sc i la ln lc x parts 0 := by
  intro at_ b o ac C w hB hC hx hl ha hr hin
  have hln := hl.len
  obtain ⟨n, hn⟩ : ∃ n, n = at_.length := ⟨_, rfl⟩
  obtain rfl : n = ln := by omega
  have hR : Hid (laidF x i parts 0 at_ = some at_) := Lib.hid rfl
  obtain ⟨w0, hw0⟩ : ∃ w0, w0 = w.alloc (.cells #[.slice pa pn pc, .slice sa sn sc] 25) := ⟨_, rfl⟩
  have hbw0 : Below w.heap.size w w0 := by rw [hw0]; exact (Below.refl _ _).alloc (Nat.le_refl _) _
  have ha0 := Lib.hid (ha.keep (B' := w0.heap.size) (w' := w0) (by have := hbw0.size; omega) (fun b o h => bcells hbw0 b o (by omega)))
  rw [← hn] at ha0 ⊢
  clear hl hx ha hin hr hln hn
  go_enter Try.func74, Try.ntmps74
  replace hw0 := hw0.symm
  go_wp2_with fail
  go_ret2
  exact ⟨_, by rw [hR.out]; rfl, ⟨_, _, _, rfl, by rw [hR.out]; exact ha0.out⟩, hbw0⟩

set_option maxRecDepth 100000 in
set_option maxHeartbeats 8000000 in
theorem laid_step {B : Nat} {pa sa la : Option Addr} {pn pc sn sc i ln lc r : Nat} {x : Book} {parts : List Int} (hb : bookOk x = true) (hi : i < pn) (hP : Parts x parts) (hrec : LaidOk B pa pn pc sa sn sc i la ln lc x parts r) : LaidOk B pa pn pc sa sn sc i la ln lc x parts (r + 1) := by
  intro at_ b o ac C w hB hC hx hl ha hr hin
  have ih := Lib.hid hrec
  clear hrec
  have hG := Lib.hid (good_of hb)
  have hb' := Lib.hid hb
  have hln := Lib.hid hl.len
  have hsn := Lib.hid hx.parts.len
  have hpn := Lib.hid hx.planks.len
  have hP' := Lib.hid hP
  have hl5 := hP.five
  rw [hln.out] at hl5 hr
  obtain ⟨n, hn⟩ : ∃ n, n = at_.length := ⟨_, rfl⟩
  rw [← hn] at ha hin hr ⊢
  have hn' := Lib.hid hn
  have hnl : n < ln := by omega
  have hnI : ((n : Int) == (ln : Int)) = false := by simp; omega
  obtain ⟨w0, hw0⟩ : ∃ w0, w0 = w.alloc (.cells #[.slice pa pn pc, .slice sa sn sc] 25) := ⟨_, rfl⟩
  have hbw0 : Below w.heap.size w w0 := by rw [hw0]; exact (Below.refl _ _).alloc (Nat.le_refl _) _
  have hk : Blk w0 w.heap.size #[.slice pa pn pc, .slice sa sn sc] := by rw [hw0]; exact Blk.new w _ _
  have l0 : w.heap.size < w0.heap.size := hk.lt
  have hx0 := hx.keep (w' := w0) (Nat.le_refl _) (fun b o h => bcells hbw0 b o (by omega))
  have hl0 := hl.keep (w' := w0) (Nat.le_refl _) (fun b o h => bcells hbw0 b o (by omega))
  have ha0 := ha.keep (w' := w0) (Nat.le_refl _) (fun b o h => bcells hbw0 b o (by omega))
  clear hl ha hx
  have hps := hG.out.parts
  rw [hsn.out] at hps
  obtain ⟨sb, so, rfl, hsB, hsc⟩ := hx0.parts.get 0 (by omega)
  obtain ⟨lb, lo, rfl, hlB, hlc⟩ := hl0.get 0 (by omega)
  have hlenA : Hid (∀ k, k < ln → ∃ p : Nat, p < sn ∧ gi parts k = p ∧ w0.cell? ⟨lb, lo + k, none⟩ = some (.int .i64 p) ∧ w0.cell? ⟨sb, so + p * 3, none⟩ = some (.int .i64 (lenOf x.parts parts k)) ∧ 1 ≤ lenOf x.parts parts k ∧ lenOf x.parts parts k ≤ 12) := Lib.hid (fun k hk => by
    have h1 := hP'.out.num k (by rw [hln.out]; exact hk)
    have hps : (gi parts k).toNat < sn := by rw [← hsn.out]; omega
    have hpe : gi parts k = ((gi parts k).toNat : Int) := by omega
    obtain ⟨v, _, h2, _⟩ := hsc (gi parts k).toNat hps
    have h3 := hG.out.shape (gi parts k).toNat (by rw [hsn.out]; exact hps)
    exact ⟨_, hps, hpe, by rw [← hpe]; exact (hlc k hk).1, h2, h3.1, h3.2.1⟩)
  have hatA : Hid (∀ k, k < n → w0.cell? ⟨b, o + k, none⟩ = some (.int .i64 (gi at_ k)) ∧ b < C) := Lib.hid (fun k hk => by
    obtain ⟨b', o', e, hbC, hc⟩ := ha0.get k hk
    cases e
    exact ⟨(hc k hk).1, hbC⟩)
  have hx1 := Lib.hid hx0
  have hl1 := Lib.hid hl0
  have ha1 := Lib.hid ha0
  have hin' := Lib.hid hin
  obtain ⟨p, hps2, hpe, g0, g1, hL1, hL2⟩ := hlenA.out n hnl
  obtain ⟨Ln, hLn⟩ : ∃ Ln, Ln = lenOf x.parts parts n := ⟨_, rfl⟩
  rw [← hLn] at g1 hL1 hL2
  have hLn' := Lib.hid hLn
  obtain ⟨sp, hspe⟩ : ∃ sp, sp = spotsL x i p := ⟨_, rfl⟩
  have hspe' := Lib.hid hspe
  obtain ⟨f, hf⟩ : ∃ f : Int → Option (List Int), f = fun t => if freeR x parts at_ n t n = true then laidF x i parts r (at_ ++ [t]) else none := ⟨_, rfl⟩
  obtain ⟨R, hR⟩ : ∃ R, R = laidF x i parts (r + 1) at_ := ⟨_, rfl⟩
  rw [← hR]
  have hR' : Hid (R = sp.findSome? f) := Lib.hid (by
    rw [hR, hf, hspe]
    show (spotsL x i (gi parts at_.length)).findSome? _ = _
    rw [← hn, hpe])
  have hf' : Hid (∀ t, f t = if freeR x parts at_ n t n = true then laidF x i parts r (at_ ++ [t]) else none) := Lib.hid (fun t => by rw [hf])
  have hspi : Hid (∀ j, j < sp.length → 0 ≤ gi sp j ∧ gi sp j ≤ 16) := Lib.hid (fun j hj => by rw [hspe'.out] at hj ⊢; exact spots_in hb'.out (by rw [hpn.out]; exact hi) (by rw [hsn.out]; exact hps2) hj)
  have hnli : (n : Int) < ln := by omega
  have hpi : (p : Int) < sn := by omega
  clear hx0 hl0 ha0 hsc hlc hn hR hf hpe hin hLn hspe hP hb
  have q0 : w0.cell? ⟨w.heap.size, 0, none⟩ = some (.slice pa pn pc) := hk.cell
  have q1 : w0.cell? ⟨w.heap.size, 1, none⟩ = some (.slice (some ⟨sb, so, none⟩) sn sc) := hk.cell
  go_enter Try.func74, Try.ntmps74
  replace hw0 := hw0.symm
  go_upto_region 4 with fail
  clear hw0 hnI q0 q1
  go_cut [11] (fun s wx => ∃ ta tc, s = .slice ta sp.length tc ∧ IntsAt wx.heap.size wx ta sp.length sp ∧ Below w0.heap.size w0 wx)
  case first =>
    have hO := open_wide
    have hF := hO.fn
    have hd := hO.depth
    have hS0 : SameBut (fun _ => False) w0 w0.drew := (SameBut.refl _ _).drew
    have hread : ∀ w', SameBut (fun _ => False) w0 w' → w'.cell? ⟨w.heap.size, 0, none⟩ = some (.slice pa pn pc) ∧ w'.cell? ⟨w.heap.size, 1, none⟩ = some (.slice (some ⟨sb, so, none⟩) sn sc) ∧ w'.cell? ⟨lb, lo + n, none⟩ = some (.int .i64 p) := fun w' h =>
      ⟨(hk.same h (fun e => e)).cell, (hk.same h (fun e => e)).cell, (h.cell (by omega) (fun e => e)).trans g0⟩
    clear g0
    refine region_planW (fun w' => SameBut (fun _ => False) w0 w') [(0, true), (1, true), (2, true), (3, true), (4, true), (5, true), (6, false), (7, true)] (by kernel_rfl) (by kernel_rfl) (by kernel_rfl) (by decide) (by kernel_rfl) ?_
    iterate 6
      (refine plan_take ?_ rfl hS0 (by rfl) ?_ ?_
       rotate_left
       · intro w' hw'
         obtain ⟨q1, q2, q3⟩ := hread w' hw'
         go_simp
         with_reducible rfl
       simp only [Act.put, List.setIfInBounds_toArray, List.set_cons_zero, List.set_cons_succ])
    refine plan_one rfl (by rfl) (fun K hK => ?_)
    go_simp
    refine (hO.calls (refspots_any (B := B) (w := w0.drew) (by show B ≤ w0.heap.size; omega) (hx1.out.keep (Nat.le_refl _) (fun b o h => rfl)) hb'.out hi hps2)).mono ?_
    rintro e w5 ⟨ta, tn, tc, rfl, ht, hb5⟩
    rw [← hspe'.out] at ht
    have htl := ht.len
    subst htl
    have hS5 : SameBut (fun _ => False) w0 w5 := hS0.below hb5
    refine hK _ _ hS5 ?_
    clear hK K hb5
    iterate 1
      (refine plan_take ?_ rfl hS5 (by rfl) ?_ ?_
       rotate_left
       · intro w' hw'
         go_simp
         with_reducible rfl
       simp only [Act.put, List.setIfInBounds_toArray, List.set_cons_zero, List.set_cons_succ])
    unfold planW okN
    go_wp2_with fail
    go_meet
    exact ⟨ta, tc, rfl, ht, hS5.toBelow (Nat.le_refl _) (fun _ h => h.elim)⟩
  case rest =>
  obtain ⟨ta, tc, rfl, ht, hb1⟩ := hcut
  obtain ⟨w1, hw1⟩ : ∃ w1, w1 = wc := ⟨_, rfl⟩
  rw [← hw1] at ht hb1 ⊢
  clear hw1
  have hk1 := hk.below hb1 l0
  have hbw1 := hbw0.trans (hb1.mono hbw0.size)
  have hz1 := hb1.size
  have ht1 := Lib.hid ht
  have hsp47 := ht.small
  have l1 : w.heap.size < w1.heap.size := by omega
  have g0' := (bcells hb1 lb (lo + n) (by omega)).trans g0
  have g1' := (bcells hb1 sb (so + p * 3) (by omega)).trans g1
  clear ht hk hbw0 g0 g1
  go_wp2_with fail
  go_loopw [12] (fun v wr => ∃ j : Nat, j ≤ sp.length ∧ v = .int .i64 j ∧ Hid (∀ t, t < j → f (gi sp t) = none) ∧ Below w1.heap.size w1 wr) (fun v _ => sp.length - (intOf v).toNat)
  case atStart => exact ⟨0, by omega, rfl, fun t ht => absurd ht (by omega), Below.refl _ _⟩
  case round =>
    obtain ⟨j, hj, rfl, hno, hbr⟩ := hrel
    by_cases hlt : j < sp.length
    case neg =>
      obtain rfl : j = sp.length := by omega
      have hRn : Hid (R = none) := Lib.hid (by rw [hR'.out]; exact find_never sp hno.out)
      go_wp2_with fail
      go_ret2
      exact ⟨_, by rw [hRn.out]; rfl, ⟨none, 0, 0, rfl, by rw [hRn.out]; exact ⟨rfl, by omega, fun i hi => by omega⟩⟩, hbw1.trans (hbr.mono hbw1.size)⟩
    have hji : (j : Int) < sp.length := by omega
    have hkr := hk1.below hbr l1
    have hzr := hbr.size
    have hbwr := hbw1.trans (hbr.mono hbw1.size)
    obtain ⟨tb, tof, rfl, htB, htc⟩ := ht1.out.get j hlt
    have t0 := (bcells hbr tb (tof + j) (by omega)).trans (htc j hlt).1
    obtain ⟨T, hT⟩ : ∃ T, T = gi sp j := ⟨_, rfl⟩
    have hTi := hspi.out j hlt
    rw [← hT] at t0 hTi
    obtain ⟨hT0, hT16⟩ := hTi
    have hT' := Lib.hid hT
    have g0r := (bcells hbr lb (lo + n) (by omega)).trans g0'
    have g1r := (bcells hbr sb (so + p * 3) (by omega)).trans g1'
    have hold : Hid (∀ b o, b < w0.heap.size → wr.cell? ⟨b, o, none⟩ = w0.cell? ⟨b, o, none⟩) := Lib.hid (fun b o h => (bcells hbr b o (by omega)).trans (bcells hb1 b o h))
    clear htc hT
    go_wp2_with fail
    go_loopw [13, 14] (fun u v wk => ∃ q : Nat, q ≤ n ∧ v = .int .i64 q ∧ u = .bool (freeR x parts at_ n T q) ∧ Below wr.heap.size wr wk) (fun _ v _ => n - (intOf v).toNat)
    case atStart => exact ⟨0, by omega, rfl, rfl, Below.refl _ _⟩
    case round =>
      rename World => wk
      obtain ⟨q, hq, rfl, rfl, hbk⟩ := hrel
      have hkk := hkr.below hbk hkr.lt
      have hzk := hbk.size
      by_cases hqn : q < n
      case pos =>
        have hqi : (q : Int) < n := by omega
        obtain ⟨u, hu, _, e0, e1, hQ1, hQ2⟩ := hlenA.out q (by omega)
        obtain ⟨Lq, hLq⟩ : ∃ Lq, Lq = lenOf x.parts parts q := ⟨_, rfl⟩
        rw [← hLq] at e1 hQ1 hQ2
        obtain ⟨e2, hbC⟩ := hatA.out q hqn
        obtain ⟨A, hA⟩ : ∃ A, A = gi at_ q := ⟨_, rfl⟩
        have hAi := hin'.out q hqn
        rw [← hA] at e2 hAi
        obtain ⟨hA0, hA16⟩ := hAi
        have hui : (u : Int) < sn := by omega
        have hqli : (q : Int) < ln := by omega
        obtain ⟨c0, hc0⟩ : ∃ c0, c0 = freeR x parts at_ n T q := ⟨_, rfl⟩
        obtain ⟨c1, hc1⟩ : ∃ c1, decide (T + Ln ≤ A) = c1 := ⟨_, rfl⟩
        obtain ⟨c2, hc2⟩ : ∃ c2, decide (A + Lq ≤ T) = c2 := ⟨_, rfl⟩
        have hfs : Hid (freeR x parts at_ n T (q + 1) = (c0 && (c1 || c2))) := Lib.hid (by rw [free_succ, ← hc0, ← hLn'.out, ← hLq, ← hA, hc1, hc2])
        rw [← hc0]
        have hreadW : Hid (∀ w', SameBut (fun _ => False) wk w' → (w'.cell? ⟨tb, tof + j, none⟩ = some (.int .i64 T) ∧ w'.cell? ⟨w.heap.size, 1, none⟩ = some (.slice (some ⟨sb, so, none⟩) sn sc) ∧ w'.cell? ⟨lb, lo + n, none⟩ = some (.int .i64 p) ∧ w'.cell? ⟨lb, lo + q, none⟩ = some (.int .i64 u) ∧ w'.cell? ⟨sb, so + p * 3, none⟩ = some (.int .i64 Ln) ∧ w'.cell? ⟨sb, so + u * 3, none⟩ = some (.int .i64 Lq) ∧ w'.cell? ⟨b, o + q, none⟩ = some (.int .i64 A))) := Lib.hid (fun w' h => by
          have hw : ∀ b o, b < wr.heap.size → w'.cell? ⟨b, o, none⟩ = wr.cell? ⟨b, o, none⟩ := fun b o hb => (h.cell (by omega) (fun e => e)).trans (bcells hbk b o hb)
          have hw0 : ∀ b o, b < w0.heap.size → w'.cell? ⟨b, o, none⟩ = w0.cell? ⟨b, o, none⟩ := fun b o hb => (hw b o (by omega)).trans (hold.out b o hb)
          exact ⟨(hw _ _ (by omega)).trans t0, (hkk.same h (fun e => e)).cell, (hw _ _ (by omega)).trans g0r, (hw0 _ _ (by omega)).trans e0, (hw _ _ (by omega)).trans g1r, (hw0 _ _ (by omega)).trans e1, (hw0 _ _ (by omega)).trans e2⟩)
        clear hc0 hA hLq e0 e1 e2 g0r g1r t0
        have hv1 : IntKind.i64.wrap (T + Ln) = T + Ln := IntWalk.i64_in _ (by omega)
        have hv2 : IntKind.i64.wrap (A + Lq) = A + Lq := IntWalk.i64_in _ (by omega)
        go_upto_region 12 with fail
        have hO := open_wide
        have hF := hO.fn
        have hd := hO.depth
        have hS0 : SameBut (fun _ => False) wk wk.drew := (SameBut.refl _ _).drew
        have hread := hreadW.out
        have hbk' : Below wr.heap.size wr wk.drew := hbk.trans ((Below.refl _ _).drew)
        cases c0 with
        | false =>
          refine region_planW (fun w' => SameBut (fun _ => False) wk w') [(0, true), (1, true), (2, true), (3, true), (4, true), (5, true), (6, true), (7, true), (8, true), (9, true), (10, true), (11, true), (12, true), (13, true), (14, true), (15, true), (16, true), (17, true), (18, true), (19, true), (20, true), (21, true), (22, true), (23, true), (24, true), (25, true), (26, true), (27, true), (28, true), (29, true), (30, true), (31, true), (32, true), (33, true), (34, true), (35, true), (36, true), (37, true), (38, true), (39, true), (40, true), (41, true), (42, true), (43, true)] (by kernel_rfl) (by kernel_rfl) (by kernel_rfl) (by decide) (by kernel_rfl) ?_
          iterate 2
            (refine plan_take ?_ rfl hS0 (by rfl) ?_ ?_
             rotate_left
             · intro w' hw'
               go_simp
               with_reducible rfl
             simp only [Act.put, List.setIfInBounds_toArray, List.set_cons_zero, List.set_cons_succ])
          iterate 40
            (refine plan_skip rfl hS0 (by rfl) ?_
             simp only [Act.put, List.setIfInBounds_toArray, List.set_cons_zero, List.set_cons_succ])
          iterate 2
            (refine plan_take ?_ rfl hS0 (by rfl) ?_ ?_
             rotate_left
             · intro w' hw'
               go_simp
               with_reducible rfl
             simp only [Act.put, List.setIfInBounds_toArray, List.set_cons_zero, List.set_cons_succ])
          unfold planW okN
          go_wp2_with fail
          go_roundw
          case rel => exact ⟨q + 1, by omega, by go_num, by rw [hfs.out]; rfl, hbk'⟩
          case measure => simp [intOf]; omega
        | true =>
        cases c1 with
        | true =>
          refine region_planW (fun w' => SameBut (fun _ => False) wk w') [(0, true), (1, true), (2, true), (3, true), (4, true), (5, true), (6, true), (7, true), (8, true), (9, true), (10, true), (11, true), (12, true), (13, true), (14, true), (15, true), (16, true), (17, true), (18, true), (19, true), (20, true), (21, true), (22, true), (23, true), (24, true), (25, true), (26, true), (27, true), (28, true), (29, true), (30, true), (31, true), (32, true), (33, true), (34, true), (35, true), (36, true), (37, true), (38, true), (39, true), (40, true), (41, true), (42, true), (43, true)] (by kernel_rfl) (by kernel_rfl) (by kernel_rfl) (by decide) (by kernel_rfl) ?_
          iterate 22
            (refine plan_take ?_ rfl hS0 (by rfl) ?_ ?_
             rotate_left
             · intro w' hw'
               obtain ⟨q1, q2, q3, q4, q5, q6, q7⟩ := hread w' hw'
               go_simp
               with_reducible rfl
             simp only [Act.put, List.setIfInBounds_toArray, List.set_cons_zero, List.set_cons_succ])
          iterate 19
            (refine plan_skip rfl hS0 (by rfl) ?_
             simp only [Act.put, List.setIfInBounds_toArray, List.set_cons_zero, List.set_cons_succ])
          iterate 3
            (refine plan_take ?_ rfl hS0 (by rfl) ?_ ?_
             rotate_left
             · intro w' hw'
               go_simp
               with_reducible rfl
             simp only [Act.put, List.setIfInBounds_toArray, List.set_cons_zero, List.set_cons_succ])
          unfold planW okN
          go_wp2_with fail
          go_roundw
          case rel => exact ⟨q + 1, by omega, by go_num, by rw [hfs.out]; rfl, hbk'⟩
          case measure => simp [intOf]; omega
        | false =>
          refine region_planW (fun w' => SameBut (fun _ => False) wk w') [(0, true), (1, true), (2, true), (3, true), (4, true), (5, true), (6, true), (7, true), (8, true), (9, true), (10, true), (11, true), (12, true), (13, true), (14, true), (15, true), (16, true), (17, true), (18, true), (19, true), (20, true), (21, true), (22, true), (23, true), (24, true), (25, true), (26, true), (27, true), (28, true), (29, true), (30, true), (31, true), (32, true), (33, true), (34, true), (35, true), (36, true), (37, true), (38, true), (39, true), (40, true), (41, true), (42, true), (43, true)] (by kernel_rfl) (by kernel_rfl) (by kernel_rfl) (by decide) (by kernel_rfl) ?_
          iterate 44
            (refine plan_take ?_ rfl hS0 (by rfl) ?_ ?_
             rotate_left
             · intro w' hw'
               obtain ⟨q1, q2, q3, q4, q5, q6, q7⟩ := hread w' hw'
               go_simp
               with_reducible rfl
             simp only [Act.put, List.setIfInBounds_toArray, List.set_cons_zero, List.set_cons_succ])
          unfold planW okN
          go_wp2_with fail
          go_roundw
          case rel => exact ⟨q + 1, by omega, by go_num, by rw [hfs.out]; rfl, hbk'⟩
          case measure => simp [intOf]; omega
      obtain rfl : q = n := by omega
      have hft := hf'.out T
      have hbwk := hbwr.trans (hbk.mono hbwr.size)
      obtain ⟨c0, hc0⟩ : ∃ c0, c0 = freeR x parts at_ q T q := ⟨_, rfl⟩
      rw [← hc0] at hft ⊢
      have hft' := Lib.hid hft
      clear hc0 hft g0r g1r hlenA hatA
      cases c0 with
      | false =>
        have hno2 : Hid (∀ t, t < j + 1 → f (gi sp t) = none) := Lib.hid (fun t ht => by
          by_cases e : t = j
          · subst e; rw [← hT'.out, hft'.out]; rfl
          · exact hno.out t (by omega))
        go_wp2_with fail
        go_roundw
        case rel => exact ⟨j + 1, by omega, by go_num, hno2, hbr.trans (hbk.mono hbr.size)⟩
        case measure => simp [intOf]; omega
      | true =>
      go_upto_region 14 with fail
      obtain ⟨Y, hY⟩ : ∃ Y, Y = laidF x i parts r (at_ ++ [T]) := ⟨_, rfl⟩
      have hfY : Hid (f (gi sp j) = Y) := Lib.hid (by rw [← hT'.out, hft'.out, hY]; rfl)
      have hY' := Lib.hid hY
      clear hY hft'
      go_cut [15, 16] (fun s t wx => ∃ v, s = v ∧ t = .bool Y.isSome ∧ IntsV wx.heap.size wx v (Y.getD []) ∧ Below wk.heap.size wk wx)
      case first =>
        have hO := open_wide
        have hF := hO.fn
        have hd := hO.depth
        have hS0 : SameBut (fun _ => False) wk wk.drew := (SameBut.refl _ _).drew
        have hread : ∀ w', SameBut (fun _ => False) wk w' → w'.cell? ⟨w.heap.size, 0, none⟩ = some (.slice pa pn pc) ∧ w'.cell? ⟨w.heap.size, 1, none⟩ = some (.slice (some ⟨sb, so, none⟩) sn sc) ∧ w'.cell? ⟨tb, tof + j, none⟩ = some (.int .i64 T) := fun w' h =>
          ⟨(hkk.same h (fun e => e)).cell, (hkk.same h (fun e => e)).cell, (h.cell (by omega) (fun e => e)).trans ((bcells hbk _ _ (by omega)).trans t0)⟩
        clear t0
        have hkeep : ∀ w', SameBut (fun _ => False) wk w' → ∀ b o, b < w0.heap.size → w'.cell? ⟨b, o, none⟩ = w0.cell? ⟨b, o, none⟩ := fun w' h b o hb => (h.cell (by omega) (fun e => e)).trans ((bcells hbk b o (by omega)).trans (hold.out b o hb))
        have hkeep' := Lib.hid hkeep
        clear hkeep
        refine region_planW (fun w' => SameBut (fun _ => False) wk w') [(0, true), (1, true), (2, true), (3, true), (4, true), (5, true), (6, true), (7, true), (8, false), (9, false), (10, true), (11, true), (12, true), (13, true), (14, true)] (by kernel_rfl) (by kernel_rfl) (by kernel_rfl) (by decide) (by kernel_rfl) ?_
        iterate 8
          (refine plan_take ?_ rfl hS0 (by rfl) ?_ ?_
           rotate_left
           · intro w' hw'
             obtain ⟨q1, q2, q3⟩ := hread w' hw'
             go_simp
             with_reducible rfl
           simp only [Act.put, List.setIfInBounds_toArray, List.set_cons_zero, List.set_cons_succ])
        refine plan_one rfl (by rfl) (fun K hK => ?_)
        go_simp
        refine (hO.calls (Add_any (B := C) (xs := at_) (w := wk.drew) (by show C ≤ wk.heap.size; omega) (ha1.out.keep (Nat.le_refl _) (fun b o h => hkeep'.out _ hS0 b o (by omega))) (by omega) (by unfold I64; omega))).mono ?_
        rintro e w5 ⟨g, gc, rfl, hg5, hb5⟩
        have hS5 : SameBut (fun _ => False) wk w5 := hS0.below hb5
        refine hK _ _ hS5 ?_
        clear hK K
        have hz5 := hS5.size
        have hlen2 : (at_ ++ [T]).length = q + 1 := by rw [List.length_append, ← hn'.out]; rfl
        have hcall := ih.out (at_ ++ [T]) g 0 gc w5.heap.size w5 (by omega) (Nat.le_refl _) (hx1.out.keep (Nat.le_refl _) (fun b o h => hkeep'.out _ hS5 b o (by omega))) (hl1.out.keep (by omega) (fun b o h => hkeep'.out _ hS5 b o (by omega))) (by rw [hlen2]; exact hg5) (by rw [hlen2, hln.out]; omega) (fun k hk => by
          rw [hlen2] at hk
          by_cases e : k = q
          · subst e
            have : gi (at_ ++ [T]) k = T := by
              have h1 := hn'.out
              rw [gi_eq (by rw [hlen2]; omega)]
              simp [h1]
            rw [this]; exact ⟨hT0, hT16⟩
          · rw [gi_app (by rw [← hn'.out]; omega)]
            exact hin'.out k (by omega))
        rw [hlen2, ← hY'.out] at hcall
        refine plan_one rfl (by rfl) (fun K hK => ?_)
        go_simp
        refine (hO.calls hcall).mono ?_
        rintro e w6 ⟨v, rfl, hv6, hb6⟩
        have hS6 : SameBut (fun _ => False) wk w6 := hS5.below hb6
        refine hK _ _ hS6 ?_
        clear hK K hcall
        iterate 5
          (refine plan_take ?_ rfl hS6 (by rfl) ?_ ?_
           rotate_left
           · intro w' hw'
             go_simp
             with_reducible rfl
           simp only [Act.put, List.setIfInBounds_toArray, List.set_cons_zero, List.set_cons_succ])
        unfold planW okN
        go_wp2_with fail
        go_meet
        exact ⟨v, rfl, rfl, hv6, hS6.toBelow (Nat.le_refl _) (fun _ h => h.elim)⟩
      case rest =>
      obtain ⟨v, rfl, rfl, hv, hb6⟩ := hcut
      obtain ⟨w6, hw6⟩ : ∃ w6, w6 = wc := ⟨_, rfl⟩
      rw [← hw6] at hv hb6 ⊢
      clear hw6
      have hbw6 := hbwk.trans (hb6.mono hbwk.size)
      have hbr6 := (hbr.trans (hbk.mono hbr.size)).trans (hb6.mono (Nat.le_trans hbr.size hbk.size))
      clear hY' t0 hb6
      cases Y with
      | none =>
        have hno2 : Hid (∀ t, t < j + 1 → f (gi sp t) = none) := Lib.hid (fun t ht => by
          by_cases e : t = j
          · subst e; exact hfY.out
          · exact hno.out t (by omega))
        simp only [Option.isSome_none]
        go_wp2_with fail
        go_roundw
        case rel => exact ⟨j + 1, by omega, by go_num, hno2, hbr6⟩
        case measure => simp [intOf]; omega
      | some y =>
        have hRy : Hid (R = some y) := Lib.hid (by rw [hR'.out]; exact find_at sp j hlt hno.out hfY.out)
        simp only [Option.isSome_some]
        go_wp2_with fail
        go_ret2
        exact ⟨_, by rw [hRy.out]; rfl, by rw [hRy.out]; exact hv, hbw6⟩
theorem reflaid_any {B : Nat} {pa sa la : Option Addr} {pn pc sn sc i ln lc : Nat} {x : Book} {parts : List Int} (hb : bookOk x = true) (hi : i < pn) (hP : Parts x parts) : ∀ r : Nat, LaidOk B pa pn pc sa sn sc i la ln lc x parts r
  | 0 => laid_zero
  | r + 1 => laid_step hb hi hP (reflaid_any hb hi hP r)
end Go.Proofs.Ytbbolibkheelmaa
namespace Go.Proofs.Ytbbolibkheelmaa
open Go.RowKit Go.Shelf

/-- A book in which each spot is one, too. -/
structure Easier (x y : Book) : Prop where
  pl : y.planks.length = x.planks.length
  pa : y.parts.length = x.parts.length
  spot : ∀ (i p : Nat) (t : Int), i < x.planks.length → p < x.parts.length → Spot x i p t → Spot y i p t
  len : ∀ p, plen y p = plen x p
section
variable {x y : Book}
theorem Easier.pack (h : Easier x y) {Q P : Nat → Prop} (hP : ∀ p, P p → p < x.parts.length) (hp : Pack x Q P) : Pack y Q P := by
  obtain ⟨g, a, h1, h2⟩ := hp
  refine ⟨g, a, fun p hp => ⟨by rw [h.pl]; exact (h1 p hp).1, (h1 p hp).2.1, h.spot _ _ _ (h1 p hp).1 (hP p hp) (h1 p hp).2.2⟩, fun p q hp hq hpq e => ?_⟩
  have := h2 p q hp hq hpq e
  unfold Apart at this ⊢
  rw [h.len, h.len]
  exact this
theorem spots_iff (hb : bookOk x = true) {i p : Nat} (hi : i < x.planks.length) (hp : p < x.parts.length) {t : Int} : t ∈ spotsL x i p ↔ Spot x i p t := by
  have h := spot_mem hb hi (q := (p : Int)) (by omega) (by omega) (t := t)
  rw [h]
  unfold Spot
  simp only [Int.toNat_natCast]
  constructor
  · rintro ⟨h1, h2, h3⟩
    rw [board_two hp h1 h2] at h3
    exact ⟨h1, h2, h3⟩
  · rintro ⟨h1, h2, h3⟩
    exact ⟨h1, h2, by rw [board_two hp h1 h2]; exact h3⟩
theorem Easier.spots (h : Easier x y) (hb : bookOk x = true) (hy : bookOk y = true) {i p : Nat} (hi : i < x.planks.length) (hp : p < x.parts.length) {t : Int} (ht : t ∈ spotsL x i p) : t ∈ spotsL y i p :=
  (spots_iff hy (by rw [h.pl]; exact hi) (by rw [h.pa]; exact hp)).2 (h.spot _ _ _ hi hp ((spots_iff hb hi hp).1 ht))
theorem Easier.most (h : Easier x y) (hb : bookOk x = true) (hy : bookOk y = true) : (mostR x).1.length ≤ (mostR y).1.length ∧ (mostR x).2 = 0 ∧ (mostR y).2 = 0 := by
  obtain ⟨s, s1, s2, s3⟩ := most_is hb
  obtain ⟨u, u1, u2, u3⟩ := most_is hy
  rw [s3, u3]
  refine ⟨?_, rfl, rfl⟩
  have hs2 : s < 2 ^ y.parts.length := by rw [h.pa]; exact s2
  have : allF y s = true := (all_pack hy hs2).2 (h.pack (fun p hp => has_lt s2 hp) ((all_pack hb s2).1 s1.2.1))
  have h3 := u1.2.2 s (lt32 hb s2) this
  rw [more_is, Bool.or_eq_false_iff, decide_eq_false_iff_not] at h3
  have := h3.1
  show (memL s).length ≤ (memL u).length
  omega
theorem Easier.fewest (h : Easier x y) (hb : bookOk x = true) (hy : bookOk y = true) : ((fewestR x).2 = 0 ∧ (fewestR y).2 = 0 ∧ (fewestR y).1.length ≤ (fewestR x).1.length) ∨ ((fewestR x).2 ≠ 0 ∧ ((fewestR y).2 = 0 ∨ (fewestR y).2 = 4)) := by
  rcases fewest_is hb with ⟨h1, h2⟩ | ⟨S, h1, h2, h3⟩
  · refine .inr ⟨by rw [h1]; simp, ?_⟩
    rcases fewest_is hy with ⟨k1, k2⟩ | ⟨T, k1, k2, k3⟩
    · exact .inr (by rw [k1])
    · exact .inl (by rw [k2])
  · have hA : AllP y := by
      unfold AllP at h3 ⊢
      rw [h.pa]
      exact h.pack (fun p hp => hp) h3
    rcases fewest_is hy with ⟨k1, k2⟩ | ⟨T, k1, k2, k3⟩
    · exact absurd hA k2
    · refine .inl ⟨by rw [h2], by rw [k2], ?_⟩
      rw [h2, k2]
      have hw : wholeF y S = true := (wholeF_pack hy).2 (by rw [h.pa]; exact h.pack (fun p hp => hp) ((wholeF_pack hb).1 h1.2.1))
      have := k1.2.2 S (by rw [h.pl]; exact h1.1) hw
      rw [fewer_is, Bool.or_eq_false_iff, decide_eq_false_iff_not] at this
      have := this.1
      show (memL T).length ≤ (memL S).length
      omega

theorem ans_mono {W W' : Wood} {S S' : Shape} {t : Nat} (ht : S'.turns = S.turns) (hm : ∀ way, mayHit W' S' t W'.knots.length way = true → mayHit W S t W.knots.length way = true) (h : ansOf W S t = 2) : ansOf W' S' t = 2 := by
  have h1 := ans_two (W := W) (S := S) (t := t)
  have h2 := ans_two (W := W') (S := S') (t := t)
  rw [decide_eq_true h] at h1
  have : decide (ansOf W' S' t = 2) = true := by
    rw [h2, ht]
    rw [eq_comm, Bool.or_eq_true, Bool.and_eq_true, Bool.not_eq_true', Bool.not_eq_true'] at h1
    rw [Bool.or_eq_true, Bool.and_eq_true, Bool.not_eq_true', Bool.not_eq_true']
    have m0 := hm 0
    have m1 := hm 1
    rcases h1 with h1 | ⟨h1, h1'⟩
    · left
      rw [← Bool.not_eq_true]
      intro h
      rw [m0 h] at h1; cases h1
    · right
      refine ⟨h1, ?_⟩
      rw [← Bool.not_eq_true]
      intro h
      rw [m1 h] at h1'; cases h1'
  exact of_decide_eq_true this
theorem hitC_mono {k k' : Int × Int} {M M' : Nat → Bool} (h1 : k.1 ≤ k'.1) (h2 : k'.2 ≤ k.2) (hM : ∀ m, M' m = true → M m = true) (h : hitC k' M' = true) : hitC k M = true := by
  unfold hitC at h ⊢
  rw [anyB_iff] at h ⊢
  obtain ⟨m, hm, h⟩ := h
  refine ⟨m, hm, ?_⟩
  simp only [andM, knotM, betM, Bool.and_eq_true, decide_eq_true_eq] at h ⊢
  exact ⟨hM m h.1, by omega, by omega⟩

/-- More is known of a knot. -/
theorem easier_looked {i k : Nat} {t : Int} (hi : i < x.planks.length) (hk : k < (gw x.planks i).knots.length) (h1 : (gp (gw x.planks i).knots k).1 ≤ t) (h2 : t ≤ (gp (gw x.planks i).knots k).2) : Easier x (lookedB x i k t) where
  pl := by unfold lookedB; simp
  pa := rfl
  len := fun p => rfl
  spot := fun j p u hj hp hs => by
    by_cases e : j = i
    · subst e
      obtain ⟨s1, s2, s3⟩ := hs
      unfold Spot
      rw [looked_same hi]
      refine ⟨s1, s2, ans_mono (W := gw x.planks j) (S := gs x.parts p) rfl (fun way h => ?_) s3⟩
      unfold mayHit at h ⊢
      rw [anyB_iff] at h ⊢
      obtain ⟨l, hl, h⟩ := h
      simp only [List.length_set] at hl
      refine ⟨l, hl, ?_⟩
      by_cases e : l = k
      · subst e
        rw [gp_set_same hl] at h
        exact hitC_mono h1 h2 (fun _ h => h) h
      · rw [gp_set_other e] at h
        exact h
    · unfold Spot
      rw [looked_other e]
      exact hs

/-- A plank is longer at its end. -/
def longB (x : Book) (i : Nat) (L : Int) : Book := ⟨x.planks.set i ⟨L, (gw x.planks i).knots⟩, x.parts⟩
theorem long_other {i j : Nat} {L : Int} (h : j ≠ i) : gw (longB x i L).planks j = gw x.planks j := by
  unfold gw longB
  rw [List.getD_eq_getElem?_getD, List.getD_eq_getElem?_getD, List.getElem?_set_ne (by omega)]
theorem long_same {i : Nat} {L : Int} (h : i < x.planks.length) : gw (longB x i L).planks i = ⟨L, (gw x.planks i).knots⟩ := by
  unfold gw longB
  rw [List.getD_eq_getElem?_getD, List.getElem?_set_self h]; rfl
theorem long_ok {i : Nat} {L : Int} (hb : bookOk x = true) (hi : i < x.planks.length) (h1 : (gw x.planks i).long ≤ L) (h2 : L ≤ 16) : bookOk (longB x i L) = true := by
  have hG := good_of hb
  unfold bookOk at hb
  simp only [Bool.and_eq_true, allB_iff, decide_eq_true_eq] at hb
  refine bookOk_good (by unfold longB; simpa using hG.planks.1) (by unfold longB; simpa using hG.planks.2) hG.parts.1 hG.parts.2 ?_ ?_
  · rw [allB_iff]
    intro j hj
    have hj' : j < x.planks.length := by unfold longB at hj; simpa using hj
    by_cases e : j = i
    · subst e
      rw [long_same hi]
      have hw := hb.1.2 j hi
      have hg := hG.wood j hi
      refine woodOk_good (by show 1 ≤ L; omega) h2 hg.2.2 ?_
      rw [allB_iff]
      intro k hk
      unfold woodOk at hw
      simp only [Bool.and_eq_true, allB_iff] at hw
      have := hw.2 k hk
      unfold spanOk withinB at this ⊢
      simp only [Bool.and_eq_true, decide_eq_true_eq] at this ⊢
      refine ⟨⟨⟨this.1.1.1, by have := this.1.1.2; show _ ≤ L - 1; omega⟩, this.1.2.1, by have := this.1.2.2; show _ ≤ L - 1; omega⟩, this.2⟩
    · rw [long_other e]
      exact hb.1.2 j hj'
  · rw [allB_iff]
    exact fun j hj => hb.2 j hj
theorem easier_long {i : Nat} {L : Int} (hi : i < x.planks.length) (h1 : (gw x.planks i).long ≤ L) : Easier x (longB x i L) where
  pl := by unfold longB; simp
  pa := rfl
  len := fun p => rfl
  spot := fun j p u hj hp hs => by
    by_cases e : j = i
    · subst e
      obtain ⟨s1, s2, s3⟩ := hs
      unfold Spot
      rw [long_same hi]
      exact ⟨s1, by show u ≤ L - (gs x.parts p).long; omega, ans_mono (W := gw x.planks j) (S := gs x.parts p) rfl (fun way h => h) s3⟩
    · unfold Spot
      rw [long_other e]
      exact hs

/-- A part has a joint less. -/
def jointB (x : Book) (p q : Nat) : Book := ⟨x.planks, x.parts.set p ⟨(gs x.parts p).long, cutU (gs x.parts p).joints q (gs x.parts p).joints.length, (gs x.parts p).turns⟩⟩
theorem joint_other {p q j : Nat} (h : j ≠ p) : gs (jointB x p q).parts j = gs x.parts j := by
  unfold gs jointB
  rw [List.getD_eq_getElem?_getD, List.getD_eq_getElem?_getD, List.getElem?_set_ne (by omega)]
theorem joint_same {p q : Nat} (h : p < x.parts.length) : gs (jointB x p q).parts p = ⟨(gs x.parts p).long, cutU (gs x.parts p).joints q (gs x.parts p).joints.length, (gs x.parts p).turns⟩ := by
  unfold gs jointB
  rw [List.getD_eq_getElem?_getD, List.getElem?_set_self h]; rfl
theorem cutU_sub (xs : List Int) (q : Nat) : (cutU xs q xs.length).Sublist xs := by
  have h : cutU xs q xs.length = ((List.range xs.length).filter fun j => j != q).map fun j => gi xs j := rfl
  have h2 : (List.range xs.length).map (fun j => gi xs j) = xs := by
    apply List.ext_getElem (by simp)
    intro i h1 h2
    rw [List.getElem_map, List.getElem_range, gi_eq h2]
  rw [h]
  have h3 : (((List.range xs.length).filter fun j => j != q).map fun j => gi xs j).Sublist ((List.range xs.length).map fun j => gi xs j) := List.filter_sublist.map _
  rw [h2] at h3
  exact h3
theorem inc_pair {xs : List Int} (h : incB xs = true) : xs.Pairwise (· < ·) := by
  unfold incB at h
  rw [allB_iff] at h
  have step : ∀ d i, i + d + 1 < xs.length → gi xs i < gi xs (i + d + 1) := by
    intro d
    induction d with
    | zero =>
      intro i hi
      have := h i (by omega)
      simpa using this
    | succ d ih =>
      intro i hi
      have h1 := ih i (by omega)
      have h2 := h (i + d + 1) (by omega)
      rw [decide_eq_true_eq] at h2
      rw [show i + (d + 1) + 1 = i + d + 1 + 1 by omega]
      omega
  rw [List.pairwise_iff_getElem]
  intro i j hi hj hij
  have := step (j - i - 1) i (by omega)
  rw [show i + (j - i - 1) + 1 = j by omega, gi_eq hi, gi_eq hj] at this
  exact this
theorem joint_ok {p q : Nat} (hb : bookOk x = true) (hp : p < x.parts.length) : bookOk (jointB x p q) = true := by
  have hG := good_of hb
  unfold bookOk at hb
  simp only [Bool.and_eq_true, allB_iff, decide_eq_true_eq] at hb
  refine bookOk_good hG.planks.1 hG.planks.2 (by unfold jointB; simpa using hG.parts.1) (by unfold jointB; simpa using hG.parts.2) ?_ ?_
  · rw [allB_iff]
    exact fun j hj => hb.1.2 j hj
  · rw [allB_iff]
    intro j hj
    have hj' : j < x.parts.length := by unfold jointB at hj; simpa using hj
    by_cases e : j = p
    · subst e
      rw [joint_same hp]
      have hw := hb.2 j hp
      have hg := hG.shape j hp
      unfold shapeOk at hw
      simp only [Bool.and_eq_true, allB_iff, decide_eq_true_eq] at hw
      have hsub := cutU_sub (gs x.parts j).joints q
      refine (shapeOk_good (x := ⟨(gs x.parts j).long, cutU (gs x.parts j).joints q (gs x.parts j).joints.length, (gs x.parts j).turns⟩) hg.1 hg.2.1 ?_ ?_).trans ?_
      · have h1 := hsub.length_le
        have h2 := hg.2.2
        show (cutU (gs x.parts j).joints q (gs x.parts j).joints.length).length ≤ 3
        omega
      · rw [allB_iff]
        intro k hk
        have hm : gi (cutU (gs x.parts j).joints q (gs x.parts j).joints.length) k ∈ cutU (gs x.parts j).joints q (gs x.parts j).joints.length := by rw [gi_eq hk]; exact List.getElem_mem hk
        obtain ⟨l, hl, e⟩ := cutU_mem hm
        show withinB (gi (cutU (gs x.parts j).joints q (gs x.parts j).joints.length) k) 0 ((gs x.parts j).long - 1) = true
        rw [e]
        exact hw.1.2 l hl
      · exact inc_pairwise ((inc_pair hw.2).sublist hsub)
    · rw [joint_other e]
      exact hb.2 j hj'
theorem easier_joint {p q : Nat} (hp : p < x.parts.length) : Easier x (jointB x p q) where
  pl := rfl
  pa := by unfold jointB; simp
  len := fun j => by
    unfold plen
    by_cases e : j = p
    · subst e; rw [joint_same hp]
    · rw [joint_other e]
  spot := fun j r u hj hr hs => by
    by_cases e : r = p
    · subst e
      obtain ⟨s1, s2, s3⟩ := hs
      unfold Spot
      rw [joint_same hp]
      refine ⟨s1, s2, ans_mono (W := gw x.planks j) (S := gs x.parts r) rfl (fun way h => ?_) s3⟩
      unfold mayHit at h ⊢
      rw [anyB_iff] at h ⊢
      obtain ⟨l, hl, h⟩ := h
      refine ⟨l, hl, hitC_mono (Int.le_refl _) (Int.le_refl _) (fun m hm => ?_) h⟩
      rw [lieM_pos (b := decide (way ≠ 0)) rfl] at hm ⊢
      obtain ⟨k, hk, e⟩ := hm
      have hmm : gi (cutU (gs x.parts r).joints q (gs x.parts r).joints.length) k ∈ cutU (gs x.parts r).joints q (gs x.parts r).joints.length := by rw [gi_eq hk]; exact List.getElem_mem hk
      obtain ⟨l', hl', e'⟩ := cutU_mem hmm
      refine ⟨l', hl', ?_⟩
      unfold posJ at e ⊢
      simp only at e
      rw [e'] at e
      exact e
    · unfold Spot
      rw [joint_other e]
      exact hs
end
end Go.Proofs.Ytbbolibkheelmaa
