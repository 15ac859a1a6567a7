/- PlankSome returns true for every book and all three numbers; no condition. Walks: PlankSome. -/
import Derived.Test.YtilbkmogmlcpaaaPs16
import Derived.Deep.DeepCutAuto
import Derived.Test.YtilbkmogmlcpaaaRows
import Derived.Test.YtilbkmogmlcpaaaPs01
import Derived.WalkKit
import Derived.ProofKit
import Derived.OpenShut
import Derived.ChangeOld
import Derived.Below
import Derived.SizedLaws
namespace Go.Proofs.Ytilbkmogmlcpaaa
open Go.RowKit Go.Shelf

set_option maxRecDepth 100000 in
set_option maxHeartbeats 4000000 in
theorem some_any {B : Nat} {pa sa : Option Addr} {pn pc sn sc : Nat} {x : Book} {n0 n1 n2 : Int} {w : World} (hB : B ≤ w.heap.size) (hx : BookAt B w pa pn sa sn x) (h0 : I64 n0) (h1 : I64 n1) (h2 : I64 n2) :
    Calls Try.prog 7 #[.agg #[.slice pa pn pc, .slice sa sn sc], .agg #[.int .i64 n0, .int .i64 n1, .int .i64 n2]] w fun e w' => e = .returned (.bool true) ∧ Below w.heap.size w w' := by
  have hpn := Lib.hid hx.planks.len
  have hsn := Lib.hid hx.parts.len
  have hps := hx.planks.small
  have hss := hx.parts.small
  obtain ⟨W0, hW0⟩ : ∃ W0, W0 = (w.alloc (.cells #[.slice pa pn pc, .slice sa sn sc] 25)).alloc (.cells #[.int .i64 n0, .int .i64 n1, .int .i64 n2] 26) := ⟨_, rfl⟩
  have hb0 : Below w.heap.size w W0 := by rw [hW0]; exact ((Below.refl _ _).alloc (Nat.le_refl _) _).alloc (by simp) _
  have hk0 : Blk W0 w.heap.size #[.slice pa pn pc, .slice sa sn sc] := by rw [hW0]; exact (Blk.new w _ _).alloc _
  have hn0 : Blk W0 (w.heap.size + 1) #[.int .i64 n0, .int .i64 n1, .int .i64 n2] := by
    rw [hW0]
    have := Blk.new (w.alloc (.cells #[.slice pa pn pc, .slice sa sn sc] 25)) #[.int .i64 n0, .int .i64 n1, .int .i64 n2] 26
    rw [World.size_alloc] at this
    exact this
  have l0 : w.heap.size + 1 < W0.heap.size := hn0.lt
  have hx0 := Lib.hid (hx.keep (w' := W0) (Nat.le_refl _) (fun b o h => bcells hb0 b o (by omega)))
  clear hx
  have hh0 := Lib.hid h0
  have hh1 := Lib.hid h1
  have hh2 := Lib.hid h2
  clear h0 h1 h2
  go_enter Try.func7, Try.ntmps7
  replace hW0 := hW0.symm
  have q0 : W0.cell? ⟨w.heap.size, 0, none⟩ = some (.slice pa pn pc) := hk0.cell
  have q1 : W0.cell? ⟨w.heap.size, 1, none⟩ = some (.slice sa sn sc) := hk0.cell
  go_wp2_with (fail)
  clear q0 q1 hW0
  refine (sound_any (B := B) (by omega) hx0.out).mono ?_
  rintro e w1 ⟨rfl, hb1⟩
  have hbw : Below w.heap.size w w1 := hb0.trans (hb1.mono (by omega))
  have hk1 := hk0.below hb1 (by omega)
  have hn1 := hn0.below hb1 l0
  have hx1 := Lib.hid (hx0.out.keep (w' := w1) (Nat.le_refl _) (fun b o h => bcells hb1 b o (by omega)))
  have l1 : w.heap.size + 1 < w1.heap.size := Nat.lt_of_lt_of_le l0 hb1.size
  clear hb1 hb0 hk0 hn0 hx0 l0
  rcases Bool.eq_false_or_eq_true (bookOk x) with hb | hb
  case inr =>
    rw [hb]
    clear hb
    go_wp2_with (fail)
    refine (sawn_any w1).mono ?_
    rintro e w2 ⟨rfl, hb2⟩
    go_wp2
    go_ret
    exact ⟨rfl, hbw.trans (hb2.mono (by omega))⟩
  rw [hb]
  have hG := Lib.hid (good_of hb)
  have hb' := Lib.hid hb
  clear hb
  have hp1 := hG.out.planks
  have hp2 := hG.out.parts
  rw [hpn.out] at hp1
  rw [hsn.out] at hp2
  obtain ⟨p1, p2⟩ := hp1
  obtain ⟨s1, s2⟩ := hp2
  have r0 := rnd_range (n := n0) (m := pn) (by omega)
  have r1 := rnd_range (n := n1) (m := sn) (by omega)
  obtain ⟨i, hi⟩ : ∃ i : Nat, (i : Int) = rnd n0 pn := ⟨(rnd n0 pn).toNat, by omega⟩
  obtain ⟨p, hp⟩ : ∃ p : Nat, (p : Int) = rnd n1 sn := ⟨(rnd n1 sn).toNat, by omega⟩
  have hip : i < pn := by omega
  have hps2 : p < sn := by omega
  clear r0 r1
  have q0 : w1.cell? ⟨w.heap.size, 0, none⟩ = some (.slice pa pn pc) := hk1.cell
  have q1 : w1.cell? ⟨w.heap.size, 1, none⟩ = some (.slice sa sn sc) := hk1.cell
  have q2 : w1.cell? ⟨w.heap.size + 1, 0, none⟩ = some (.int .i64 n0) := hn1.cell
  have q3 : w1.cell? ⟨w.heap.size + 1, 1, none⟩ = some (.int .i64 n1) := hn1.cell
  replace hi := hi.symm
  replace hp := hp.symm
  go_upto_region 3 with fail
  go_cut [5, 6] (fun s5 s6 wx => s5 = .int .i64 (i : Int) ∧ s6 = .int .i64 (p : Int) ∧ Below w1.heap.size w1 wx)
  case first =>
    go_quiet ((go_at_call 35; exact Calls.quiet_of_same (Round_same _ (by unfold I64; omega))))
    rw [hi, hp]
    go_wp2_with fail
    go_meet
    exact ⟨rfl, rfl, below_drewN (Below.refl _ _) _⟩
  case rest =>
  obtain ⟨rfl, rfl, hb2⟩ := hcut
  clear q0 q1 q2 q3 hi hp
  obtain ⟨w2, hw2⟩ : ∃ w2, w2 = wc := ⟨_, rfl⟩
  rw [← hw2] at hb2 ⊢
  clear hw2
  have hbw2 : Below w.heap.size w w2 := hbw.trans (hb2.mono (by omega))
  have hk2 := hk1.below hb2 (by omega)
  have hn2 := hn1.below hb2 l1
  have hx2 := Lib.hid (hx1.out.keep (w' := w2) (Nat.le_refl _) (fun b o h => bcells hb2 b o (by omega)))
  have l2 : w.heap.size + 1 < w2.heap.size := Nat.lt_of_lt_of_le l1 hb2.size
  clear hbw hk1 hn1 hx1 l1 hb2
  have q0 : w2.cell? ⟨w.heap.size, 0, none⟩ = some (.slice pa pn pc) := hk2.cell
  have q1 : w2.cell? ⟨w.heap.size, 1, none⟩ = some (.slice sa sn sc) := hk2.cell
  obtain ⟨pb, po, rfl, hpB, hpc⟩ := hx2.out.planks.get i hip
  obtain ⟨kv, hkv, c0, c1, _⟩ := hpc i hip
  obtain ⟨sb, so, rfl, hsB, hsc⟩ := hx2.out.parts.get p hps2
  obtain ⟨jv, hjv, d0, d1, d2, _⟩ := hsc p hps2
  clear hpc hsc
  obtain ⟨ka, kn, kc, rfl, hks⟩ := hkv
  obtain ⟨ja, jn, jc, rfl, hjs⟩ := hjv
  obtain ⟨KW, hKW⟩ : ∃ KW, KW = gw x.planks i := ⟨_, rfl⟩
  obtain ⟨S, hS⟩ : ∃ S, S = gs x.parts p := ⟨_, rfl⟩
  rw [← hKW] at c0 hks
  rw [← hS] at d0 d2 hjs
  have hKW' := Lib.hid hKW
  have hS' := Lib.hid hS
  have hks' := Lib.hid hks
  have hjs' := Lib.hid hjs
  have lp : pb < w2.heap.size := by omega
  have ls : sb < w2.heap.size := by omega
  have m0 : w.heap.size < w2.heap.size := by omega
  have m1 : w.heap.size < w2.heap.size + 1 := by omega
  have lp1 : pb < w2.heap.size + 1 := by omega
  have ls1 : sb < w2.heap.size + 1 := by omega
  clear hKW hS hks hjs
  go_upto_region 4 with fail
  go_cut [7, 8] (fun s7 s8 wx => ∃ bW bX : Nat, s7 = .pointer (some ⟨bW, 0, none⟩) ∧ s8 = .pointer (some ⟨bX, 0, none⟩) ∧ bW ≠ bX ∧ w2.heap.size ≤ bW ∧ w2.heap.size ≤ bX ∧
    Blk wx bW #[.int .i64 KW.long, .slice ka kn kc] ∧ Blk wx bX #[.int .i64 S.long, .slice ja jn jc, .bool S.turns] ∧ Below w2.heap.size w2 wx)
  case first =>
    go_region
    · as_aux_lemma =>
      go_wp2_with fail
      go_meet
      refine ⟨w2.heap.size, w2.heap.size + 1, rfl, rfl, by omega, Nat.le_refl _, Nat.le_succ _, ?_, ?_, ?_⟩
      · exact ((Blk.new w2 _ _).alloc _).drew
      · have := Blk.new (w2.alloc (.cells #[.int .i64 KW.long, .slice ka kn kc] 48)) #[.int .i64 S.long, .slice ja jn jc, .bool S.turns] 50
        rw [World.size_alloc] at this
        exact this.drew
      · exact (((Below.refl _ _).alloc (Nat.le_refl _) _).alloc (by simp) _).drew
    · as_aux_lemma =>
      go_wp2_with fail
      go_meet
      refine ⟨w2.heap.size + 1, w2.heap.size, rfl, rfl, by omega, Nat.le_succ _, Nat.le_refl _, ?_, ?_, ?_⟩
      · have := Blk.new (w2.alloc (.cells #[.int .i64 S.long, .slice ja jn jc, .bool S.turns] 50)) #[.int .i64 KW.long, .slice ka kn kc] 48
        rw [World.size_alloc] at this
        exact this.drew
      · exact ((Blk.new w2 _ _).alloc _).drew
      · exact (((Below.refl _ _).alloc (Nat.le_refl _) _).alloc (by simp) _).drew
  case rest =>
  obtain ⟨bW, bX, rfl, rfl, hne, lW, lX, hBW, hBX, hb3⟩ := hcut
  obtain ⟨w3, hw3⟩ : ∃ w3, w3 = wc := ⟨_, rfl⟩
  rw [← hw3] at hBW hBX hb3 ⊢
  clear hw3 q0 q1 m0 m1 lp lp1 ls ls1 c0 c1 d0 d1 d2
  have hbw3 : Below w.heap.size w w3 := hbw2.trans (hb3.mono (by omega))
  have hk3 := hk2.below hb3 (by omega)
  have hn3 := hn2.below hb3 l2
  have hx3 := Lib.hid (hx2.out.keep (w' := w3) (Nat.le_refl _) (fun b o h => bcells hb3 b o (by omega)))
  have hks3 := Lib.hid (hks'.out.keep (w' := w3) (Nat.le_refl _) (fun b o h => bcells hb3 b o (by omega)))
  have hjs3 := Lib.hid (hjs'.out.keep (w' := w3) (Nat.le_refl _) (fun b o h => bcells hb3 b o (by omega)))
  have l3 : w.heap.size + 1 < w3.heap.size := Nat.lt_of_lt_of_le l2 hb3.size
  have lW1 : w.heap.size + 1 < bW := by omega
  have lX1 : w.heap.size + 1 < bX := by omega
  clear hbw2 hk2 hn2 hx2 hks' hjs' hb3 lW lX
  have hGw := hG.out.wood i (by rw [hpn.out]; exact hip)
  have hGs := hG.out.shape p (by rw [hsn.out]; exact hps2)
  rw [← hKW'.out] at hGw
  rw [← hS'.out] at hGs
  obtain ⟨gw1, gw2, gw3⟩ := hGw
  obtain ⟨gs1, gs2, gs3⟩ := hGs
  have a0 : w3.cell? ⟨bW, 0, none⟩ = some (.int .i64 KW.long) := hBW.cell
  have a1 : w3.cell? ⟨bW, 1, none⟩ = some (.slice ka kn kc) := hBW.cell
  have e0 : w3.cell? ⟨bX, 0, none⟩ = some (.int .i64 S.long) := hBX.cell
  have e1 : w3.cell? ⟨bX, 1, none⟩ = some (.slice ja jn jc) := hBX.cell
  have e2 : w3.cell? ⟨bX, 2, none⟩ = some (.bool S.turns) := hBX.cell
  have q0 : w3.cell? ⟨w.heap.size, 0, none⟩ = some (.slice (some ⟨pb, po, none⟩) pn pc) := hk3.cell
  have q1 : w3.cell? ⟨w.heap.size, 1, none⟩ = some (.slice (some ⟨sb, so, none⟩) sn sc) := hk3.cell
  have q2 : w3.cell? ⟨w.heap.size + 1, 2, none⟩ = some (.int .i64 n2) := hn3.cell
  have hxi : i < x.planks.length := by rw [hpn.out]; exact hip
  have hxp : p < x.parts.length := by rw [hsn.out]; exact hps2
  by_cases hlong : KW.long < S.long
  · go_wp2_with (fail)
    refine (Spots_any (B := B) (i := i) (j := p) (by omega) hx3.out (by unfold I64; omega)).mono ?_
    rintro e w4 ⟨_, rfl, ⟨va, vn, vc, rfl, hv⟩, hb4⟩
    rw [ask_zero hb'.out hxi hxp]
    have hnone := spots_none hb'.out hxi hxp (by rw [← hKW'.out, ← hS'.out]; exact hlong)
    rw [hnone] at hv
    have hvn := hv.len
    obtain rfl : vn = 0 := by simpa using hvn.symm
    clear hnone hv hvn
    go_wp2_with (fail)
    refine (sawn_any w4).mono ?_
    rintro e w5 ⟨rfl, hb5⟩
    go_wp2
    go_ret
    exact ⟨rfl, hbw3.trans ((hb4.trans (hb5.mono hb4.size)).mono (by omega))⟩
  have hle : S.long ≤ KW.long := by omega
  have dL : decide (KW.long < S.long) = false := decide_eq_false hlong
  clear hlong
  obtain ⟨t, ht⟩ : ∃ t : Nat, (t : Int) = rnd n2 (KW.long - S.long + 1) := ⟨(rnd n2 (KW.long - S.long + 1)).toNat, by have := rnd_range (n := n2) (m := KW.long - S.long + 1) (by omega); omega⟩
  have ht2 : (t : Int) ≤ KW.long - S.long := by have := rnd_range (n := n2) (m := KW.long - S.long + 1) (by omega); omega
  have ht' := Lib.hid ht
  clear ht
  have ht3 : (t : Int) ≤ (gw x.planks i).long - (gs x.parts p).long := by rw [← hKW'.out, ← hS'.out]; exact ht2
  have hcg := can_good hb'.out hxi hxp ht3
  have ht3' := Lib.hid ht3
  clear ht3
  rw [← hKW'.out, ← hS'.out] at hcg
  have hcg' := Lib.hid hcg
  clear hcg
  go_wp2_with (fail)
  refine (Round_any _ (by unfold I64; omega)).mono ?_
  rintro e w4 ⟨rfl, rfl⟩
  rw [← ht'.out]
  go_wp2_with (fail)
  refine (Can_any (B := B) (i := i) (j := p) (t := t) (by omega) hx3.out (by unfold I64; omega)).mono ?_
  rintro e w4 ⟨rfl, hb4⟩
  rw [hcg'.out]
  obtain ⟨A, hA⟩ : ∃ A, A = ansOf KW S t := ⟨_, rfl⟩
  simp only [← hA]
  have hA' := Lib.hid hA
  clear hA a0 a1 e0 e1 e2 q0 q1 q2
  have hbw4 : Below w.heap.size w w4 := hbw3.trans (hb4.mono (by omega))
  have hk4 := hk3.below hb4 (by omega)
  have hx4 := Lib.hid (hx3.out.keep (w' := w4) (Nat.le_refl _) (fun b o h => bcells hb4 b o (by omega)))
  have q0 : w4.cell? ⟨w.heap.size, 0, none⟩ = some (.slice (some ⟨pb, po, none⟩) pn pc) := hk4.cell
  have q1 : w4.cell? ⟨w.heap.size, 1, none⟩ = some (.slice (some ⟨sb, so, none⟩) sn sc) := hk4.cell
  have l4 : w.heap.size + 1 < w4.heap.size := Nat.lt_of_lt_of_le l3 hb4.size
  go_wp2_with (fail)
  refine (Spots_any (B := B) (i := i) (j := p) (by omega) hx4.out (by unfold I64; omega)).mono ?_
  rintro e w5 ⟨_, rfl, ⟨va, vn, vc, rfl, hv⟩, hb5⟩
  rw [ask_zero hb'.out hxi hxp]
  have hbw5 : Below w.heap.size w w5 := hbw4.trans (hb5.mono (by omega))
  have hb35 : Below w3.heap.size w3 w5 := hb4.trans (hb5.mono hb4.size)
  obtain ⟨L, hL⟩ : ∃ L, L = spotsL x i p := ⟨_, rfl⟩
  rw [← hL] at hv
  have hL' := Lib.hid hL
  clear hL q0 q1 hb4 hb5 hbw4 hk4 hx4 hk3 hx3 hn3
  go_wp2_with (fail)
  obtain ⟨w6, hw6⟩ : ∃ w6, w6 = (w5.alloc (.cells #[.bool false, .bool false] 58)).alloc (.cells #[.bool false, .bool false] 58) := ⟨_, rfl⟩
  obtain ⟨bH, hbH⟩ : ∃ bH, bH = w5.heap.size := ⟨_, rfl⟩
  obtain ⟨bM, hbM⟩ : ∃ bM, bM = w5.heap.size + 1 := ⟨_, rfl⟩
  have hb56 : Below w5.heap.size w5 w6 := by rw [hw6]; exact ((Below.refl _ _).alloc (Nat.le_refl _) _).alloc (by simp) _
  have hH6 : Blk w6 bH (row2 fun way => mayHit KW S t 0 way) := by rw [hw6, hbH]; exact (Blk.new w5 _ _).alloc _
  have hM6 : Blk w6 bM (row2 fun way => mustHitB KW S t 0 way) := by
    rw [hw6, hbM]
    have := Blk.new (w5.alloc (.cells #[.bool false, .bool false] 58)) #[.bool false, .bool false] 58
    rw [World.size_alloc] at this
    exact this
  have hz5 := hb35.size
  have lH1 : bW < bH := by have := hBW.lt; omega
  have lH2 : bX < bH := by have := hBX.lt; omega
  have lH3 : w.heap.size < bH := by omega
  have lHM : bH < bM := by omega
  have hbw6 : Below w.heap.size w w6 := hbw5.trans (hb56.mono (by omega))
  have hb36 : Below w3.heap.size w3 w6 := hb35.trans (hb56.mono hz5)
  have hW6 := hBW.below hb36 hBW.lt
  have hX6 := hBX.below hb36 hBX.lt
  have hv6 := Lib.hid (hv.keep (B' := bH) (w' := w6) (by omega) (fun b o h => bcells hb56 b o (by omega)))
  have l6 : bM < w6.heap.size := hM6.lt
  have hBw6 : B ≤ w3.heap.size := by have := hbw3.size; omega
  have hks6 := Lib.hid (hks3.out.keep (w' := w6) (Nat.le_refl _) (fun b o h => bcells hb36 b o (by omega)))
  have hjs6 := Lib.hid (hjs3.out.keep (w' := w6) (Nat.le_refl _) (fun b o h => bcells hb36 b o (by omega)))
  have hB6 : B ≤ bH := by omega
  rw [← hw6, ← hbM, ← hbH]
  clear hw6 hbH hbM hb56 hz5 hbw5 hb35 hb36 hBW hBX hv hks3 hjs3 hbw3 l3 l4 hBw6
  have hkn := Lib.hid hks6.out.len
  have hk3 : kn ≤ 3 := by have := hkn.out; omega
  go_loopw [18] (fun i wr => ∃ k : Nat, k ≤ kn ∧ i = .int .i64 k ∧ Blk wr bH (row2 fun way => mayHit KW S t k way) ∧ Blk wr bM (row2 fun way => mustHitB KW S t k way) ∧ SameBut (fun i => i = bH ∨ i = bM) w6 wr) (fun i _ => kn - (intOf i).toNat)
  case atStart => exact ⟨0, by omega, rfl, hH6, hM6, SameBut.refl _ _⟩
  case round =>
    obtain ⟨k, hk, rfl, hHk, hMk, hsk⟩ := hrel
    have hWk := hW6.same hsk (by omega)
    have hXk := hX6.same hsk (by omega)
    have a1 : wr.cell? ⟨bW, 1, none⟩ = some (.slice ka kn kc) := hWk.cell
    by_cases hlt : k < kn
    · have dk : decide ((k : Int) < kn) = true := decide_eq_true (by omega)
      go_wp2_with (fail)
      obtain ⟨wk, hwk⟩ : ∃ wk, wk = wr := ⟨_, rfl⟩
      rw [← hwk] at hHk hMk hsk hWk hXk a1 ⊢
      clear hwk a1
      go_loopw [19] (fun v wr => ∃ y : Nat, y ≤ 2 ∧ v = .int .i64 y ∧ Blk wr bH (row2 fun way => mayHit KW S t (stepN k y way) way) ∧ Blk wr bM (row2 fun way => mustHitB KW S t (stepN k y way) way) ∧ SameBut (fun i => i = bH ∨ i = bM) w6 wr) (fun v _ => 2 - (intOf v).toNat)
      case atStart => exact ⟨0, by omega, rfl, hHk, hMk, hsk⟩
      case round =>
        obtain ⟨y, hy, rfl, hHy, hMy, hsy⟩ := hrel
        by_cases hy2 : y < 2
        · have dy : decide ((y : Int) < 2) = true := decide_eq_true (by omega)
          have hWy := hW6.same hsy (by omega)
          have hXy := hX6.same hsy (by omega)
          have a1 : wr.cell? ⟨bW, 1, none⟩ = some (.slice ka kn kc) := hWy.cell
          obtain ⟨kb, ko, rfl, hkB, hkc⟩ := hks6.out.get k hlt
          obtain ⟨g1, g2, i1, i2⟩ := hkc k hlt
          clear hkc
          replace g1 := (hsy.cell (by omega) (by omega)).trans g1
          replace g2 := (hsy.cell (by omega) (by omega)).trans g2
          have hkk := knot_of hb'.out hxi (k := k) (by rw [← hKW'.out, hkn.out]; exact hlt)
          rw [← hKW'.out] at hkk
          obtain ⟨kx, hkx⟩ : ∃ kx, kx = gp KW.knots k := ⟨_, rfl⟩
          rw [← hkx] at g1 g2 hkk
          obtain ⟨u, hu⟩ : ∃ u : Nat, kx.1 = u := ⟨kx.1.toNat, by omega⟩
          obtain ⟨n, hn⟩ : ∃ n : Nat, kx.2 = u + n - 1 ∧ 0 < n := ⟨(kx.2 - kx.1 + 1).toNat, by omega, by omega⟩
          obtain ⟨hn1, hn0⟩ := hn
          have hun : u + n ≤ 16 := by omega
          rw [hu] at g1
          rw [hn1] at g2
          have hmay : Hid (mayHit KW S t (k + 1) y = (mayHit KW S t k y || anyB n (fun j => lieM S t y (u + j)))) := Lib.hid (by rw [hitC_up hu hn1 hun, hkx]; rfl)
          have hmust : Hid (mustHitB KW S t (k + 1) y = (mustHitB KW S t k y || allB n (fun j => lieM S t y (u + j)))) := Lib.hid (by rw [hitM_up hu hn1 hun, hkx]; rfl)
          clear hkk hu hn1 hkx i1 i2
          have lk : kb < wr.heap.size := by have := hsy.size; omega
          go_wp2_with (fail)
          obtain ⟨wy, hwy⟩ : ∃ wy, wy = wr := ⟨_, rfl⟩
          rw [← hwy] at hHy hMy hsy hWy hXy g1 g2 lk ⊢
          clear hwy a1
          go_loopw [20, 21] (fun al m wr => ∃ j : Nat, j ≤ n ∧ al = .bool (allB j (fun j => lieM S t y (u + j))) ∧ m = .int .i64 ((u : Int) + j) ∧ Blk wr bH (row2 (upd (fun way => mayHit KW S t (stepN k y way) way) y (mayHit KW S t k y || anyB j (fun j => lieM S t y (u + j))))) ∧ Blk wr bM (row2 fun way => mustHitB KW S t (stepN k y way) way) ∧ SameBut (fun i => i = bH ∨ i = bM) wy wr) (fun _ m _ => u + n - (intOf m).toNat)
          case atStart =>
            refine ⟨0, by omega, rfl, by simp, ?_, hMy, SameBut.refl _ _⟩
            have e := row2_self (fun way => mayHit KW S t (stepN k y way) way) y
            rw [stepN_at] at e
            simp only [anyB, Bool.or_false]
            rw [e]
            exact hHy
          case round =>
            obtain ⟨j, hj, rfl, rfl, hHj, hMj, hsj⟩ := hrel
            have hWj := hWy.same hsj (by omega)
            have hXj := hXy.same hsj (by omega)
            have a1 : wr.cell? ⟨bW, 1, none⟩ = some (.slice (some ⟨kb, ko, none⟩) kn kc) := hWj.cell
            have g2' := (hsj.cell lk (by omega)).trans g2
            have lk' : kb < wr.heap.size := Nat.lt_of_lt_of_le lk hsj.size
            have hs6j := hsy.trans hsj
            have lHr : bH < wr.heap.size := hHj.lt
            have lMr : bM < wr.heap.size := hMj.lt
            by_cases hjn : j < n
            · have e0 : wr.cell? ⟨bX, 0, none⟩ = some (.int .i64 S.long) := hXj.cell
              have e1 : wr.cell? ⟨bX, 1, none⟩ = some (.slice ja jn jc) := hXj.cell
              have e2 : wr.cell? ⟨bX, 2, none⟩ = some (.bool S.turns) := hXj.cell
              have hjs7 := Lib.hid (hjs6.out.keep (w' := wr.alloc (.cells #[.int .i64 ((u : Int) + j)] 3)) (Nat.le_refl _) (fun b o h => (cell_alloc_lt _ (by omega)).trans (hs6j.cell (by omega) (by omega))))
              have hi1 := Lib.hid (intsAt_one wr ((u : Int) + j) (by unfold I64; omega) 3)
              have hcl : Hid (clearB S t ((y : Int) == 1) [(u : Int) + j] = !lieM S t y (u + j)) := Lib.hid (by
                have := clear_one S t (u + j) y ((y : Int) == 1) (by rcases (by omega : y = 0 ∨ y = 1) with rfl | rfl <;> rfl)
                simpa using this)
              have hJin : Hid (JointsIn S) := Lib.hid (by rw [hS'.out]; exact hG.out.joint p hxp)
              obtain ⟨La, hLa⟩ : ∃ La, La = lieM S t y (u + j) := ⟨_, rfl⟩
              obtain ⟨Av, hAv⟩ : ∃ Av, Av = allB j (fun j => lieM S t y (u + j)) := ⟨_, rfl⟩
              obtain ⟨Hv, hHv⟩ : ∃ Hv, Hv = (mayHit KW S t k y || anyB j (fun j => lieM S t y (u + j))) := ⟨_, rfl⟩
              rw [← hHv] at hHj
              rw [← hAv]
              have hLa' := Lib.hid hLa
              have hAv' := Lib.hid hAv
              have hHv' := Lib.hid hHv
              clear hLa hAv hHv
              go_wp2_with (fail)
              refine (clear_any (B := B) (C := wr.heap.size + 1) (x := S) (t := t) (tb := S.turns) (ks := [(u : Int) + j]) (by simp; omega) (by simp) ⟨ja, jn, jc, rfl, hjs7.out⟩ hi1.out hJin.out gs2 (by omega) (by omega)).mono ?_
              rintro e w8 ⟨rfl, hb8⟩
              rw [hcl.out, ← hLa'.out]
              have hH8 := (hHj.alloc (.cells #[.int .i64 ((u : Int) + j)] 3)).below hb8 (by simp; omega)
              have hM8 := (hMj.alloc (.cells #[.int .i64 ((u : Int) + j)] 3)).below hb8 (by simp; omega)
              have hs8 : SameBut (fun i => i = bH ∨ i = bM) wy w8 := (hsj.alloc _).below hb8
              have cH : w8.cell? ⟨bH, y, none⟩ = some (.bool Hv) := by rw [hH8.cell, row2_get _ hy2, upd_at]
              have fH : w8.frozen? ⟨bH, y, none⟩ = false := hH8.frozen
              clear a1 e0 e1 e2 hb8 g2'
              cases Hv <;> cases La <;> cases Av
              all_goals
                as_aux_lemma =>
                  go_wp2_with (fail)
                  go_roundw
                  case rel =>
                    refine ⟨j + 1, by omega, ?_, ?_, ?_, hM8.setOther (by omega) _, hs8.setCell (M := fun i => i = bH ∨ i = bM) (.inl (.inl rfl)) _⟩
                    · rw [allB, ← hAv'.out, ← hLa'.out]; rfl
                    · have : ((u : Int) + ((j + 1 : Nat) : Int)) = u + j + 1 := by omega
                      rw [this]
                    · have h := blk_step (v := mayHit KW S t k y || anyB (j + 1) (fun j => lieM S t y (u + j))) hH8 hy2
                      rw [anyB, ← Bool.or_assoc, ← hHv'.out, ← hLa'.out] at h ⊢
                      exact h
                  case measure => simp [intOf]; omega
            · obtain rfl : j = n := by omega
              rw [← hmay.out] at hHj
              have hHn := hHj
              rw [row_next (F := fun k way => mayHit KW S t k way)] at hHn
              have cM : wr.cell? ⟨bM, y, none⟩ = some (.bool (mustHitB KW S t k y)) := by rw [hMj.cell, row2_get _ hy2, stepN_at]
              have fM : wr.frozen? ⟨bM, y, none⟩ = false := hMj.frozen
              obtain ⟨Aw, hAw⟩ : ∃ Aw, Aw = allB j (fun j => lieM S t y (u + j)) := ⟨_, rfl⟩
              obtain ⟨Mv, hMv⟩ : ∃ Mv, Mv = mustHitB KW S t k y := ⟨_, rfl⟩
              rw [← hAw]
              rw [← hMv] at cM
              have hms := hmust.out
              rw [← hAw, ← hMv] at hms
              have hms' := Lib.hid hms
              clear hms hAw hMv hmay hmust
              have hMn := row2_self (fun way => mustHitB KW S t (stepN k y way) way) y
              have hMn' := Lib.hid hMn
              clear hMn
              cases Aw <;> cases Mv
              all_goals
                as_aux_lemma =>
                  go_wp2_with (fail)
                  go_roundw
                  case rel =>
                    refine ⟨y + 1, by omega, by go_num, hHn.setOther (by omega) _, ?_, (hsy.trans hsj).setCell (M := fun i => i = bH ∨ i = bM) (.inl (.inr rfl)) _⟩
                    rw [← row_next (F := fun k way => mustHitB KW S t k way), hms'.out]
                    rw [← hMn'.out] at hMj
                    exact blk_step hMj hy2
                  case measure => simp [intOf]; omega
        · obtain rfl : y = 2 := by omega
          go_wp2_with (fail)
          go_roundw
          case rel => exact ⟨k + 1, by omega, by go_num, hHy, hMy, hsy⟩
          case measure => simp [intOf]; omega
    · obtain rfl : k = kn := by omega
      have cH0 : wr.cell? ⟨bH, 0, none⟩ = some (.bool (mayHit KW S t k 0)) := hHk.cell
      have cH1 : wr.cell? ⟨bH, 1, none⟩ = some (.bool (mayHit KW S t k 1)) := hHk.cell
      have cM0 : wr.cell? ⟨bM, 0, none⟩ = some (.bool (mustHitB KW S t k 0)) := hMk.cell
      have cM1 : wr.cell? ⟨bM, 1, none⟩ = some (.bool (mustHitB KW S t k 1)) := hMk.cell
      have cX2 : wr.cell? ⟨bX, 2, none⟩ = some (.bool S.turns) := hXk.cell
      have hln := hkn.out
      have eA2 := ans_two (W := KW) (S := S) (t := t)
      have eA0 := ans_zero (W := KW) (S := S) (t := t) (fun j hj => by rw [hKW'.out]; exact hG.out.knot i hxi j (by rw [← hKW'.out]; exact hj))
      have eF := find_spot hb'.out hxi hxp ht3'.out
      rw [hln] at eA2 eA0
      rw [← hL'.out, ← hKW'.out, ← hS'.out, eA2] at eF
      rw [← hA'.out] at eA2 eA0
      have hvr := Lib.hid (hv6.out.keep (w' := wr) (Nat.le_refl _) (fun b o h => hsk.cell (by omega) (by omega)))
      have hbwr : Below w.heap.size w wr := hbw6.trans (hsk.toBelow (by have := hbw6.size; omega) (fun i h => by omega))
      obtain ⟨H0, hH0⟩ : ∃ H0, H0 = mayHit KW S t k 0 := ⟨_, rfl⟩
      obtain ⟨H1, hH1⟩ : ∃ H1, H1 = mayHit KW S t k 1 := ⟨_, rfl⟩
      obtain ⟨M0, hM0⟩ : ∃ M0, M0 = mustHitB KW S t k 0 := ⟨_, rfl⟩
      obtain ⟨M1, hM1⟩ : ∃ M1, M1 = mustHitB KW S t k 1 := ⟨_, rfl⟩
      obtain ⟨T, hT⟩ : ∃ T, T = S.turns := ⟨_, rfl⟩
      obtain ⟨Fv, hFv⟩ : ∃ Fv, Fv = findI L t := ⟨_, rfl⟩
      rw [← hH0] at cH0 eA2 eF
      rw [← hH1] at cH1 eA2 eF
      rw [← hM0] at cM0 eA0
      rw [← hM1] at cM1 eA0
      rw [← hT] at cX2 eA2 eA0 eF
      rw [← hFv] at eF
      have hFv' := Lib.hid hFv
      clear hH0 hH1 hM0 hM1 hT hFv hln hHk hMk hWk hXk
      obtain ⟨sv, hsv⟩ : ∃ sv, sv = (!H0 || (T && !H1)) := ⟨_, rfl⟩
      obtain ⟨mv, hmv⟩ : ∃ mv, mv = (!M0 || (T && !M1)) := ⟨_, rfl⟩
      rw [← hsv] at eA2 eF
      rw [← hmv] at eA0
      have hsv' := Lib.hid hsv
      have hmv' := Lib.hid hmv
      have eA2' := Lib.hid eA2
      have eA0' := Lib.hid eA0
      have eF' := Lib.hid eF
      clear hsv hmv eA2 eA0 eF
      go_upto_region 26 with fail
      go_cut [23] (fun s wx => s = .bool sv ∧ wr = wx)
      case first =>
        cases H0 <;> cases T <;> cases H1
        all_goals
          as_aux_lemma =>
            go_wp2_with fail
            go_meet
            exact ⟨by rw [hsv'.out]; rfl, rfl⟩
      case rest =>
      obtain ⟨rfl, rfl⟩ := hcut
      go_upto_region 27 with fail
      go_cut [24] (fun s wx => s = .bool mv ∧ wr = wx)
      case first =>
        cases M0 <;> cases T <;> cases M1
        all_goals
          as_aux_lemma =>
            go_wp2_with fail
            go_meet
            exact ⟨by rw [hmv'.out]; rfl, rfl⟩
      case rest =>
      obtain ⟨rfl, rfl⟩ := hcut
      clear cH0 cH1 cM0 cM1 cX2
      have fA2 : (A == 2) = sv := by rw [← eA2'.out]; rfl
      have fA0 : (A == 0) = !mv := by rw [← eA0'.out]; rfl
      have fF : decide (0 ≤ Fv) = sv := eF'.out
      have l5 : w.heap.size < wr.heap.size + 1 := by have := hbwr.size; omega
      have kend : ∀ w9, Below wr.heap.size wr w9 → Below w.heap.size w w9 := fun w9 h => hbwr.trans (h.mono hbwr.size)
      have kend' := Lib.hid kend
      clear kend
      have fA2' : (decide (A = 2)) = sv := by rw [← fA2]; rfl
      cases sv <;> cases mv
      all_goals
        as_aux_lemma =>
          go_wp2_with (first | (go_at_call 42; refine (Find_any (x := (t : Int)) hvr.out).mono ?_; rintro e w9 ⟨rfl, q, rfl⟩; rw [← hFv'.out]) | (go_at_call 23; refine (sawn_any _).mono ?_; rintro e w10 ⟨rfl, hb10⟩))
          go_ret
          exact ⟨rfl, kend'.out _ ((below_drewN (Below.refl _ _) _).trans hb10)⟩
end Go.Proofs.Ytilbkmogmlcpaaa
namespace Go.Proofs.Ytilbkmogmlcpaaa
open Go.ChangeShapes Go.WideShapes Go.ChangeAt Go.RowKit Go.Deep

theorem ownKnobs : ownKnob Try.prog.godebug = none := by kernel_rfl
theorem laidOut : laidOutB Try.prog = true := by kernel_rfl

section
variable {H : Type} {enc : TypeId × Value → H} {w : World} {base : Nat} {spare : Nat → Bool} {held : Bool}
theorem okWide_array {P : Program} {r : Reach} {b0 n : Nat} {t e : TypeId} {v : Value} (ht : P.underlying t = some (.array n e)) (h : Value.okWide P w r b0 t v) : ∃ cs, v = .agg cs ∧ cs.size = P.cellsOf t := by
  simp only [Value.okWide, ht] at h
  obtain ⟨cs, h1, h2, _⟩ := h
  exact ⟨cs, h1, h2⟩
set_option maxRecDepth 100000 in
/-- Three numbers that came in. -/
theorem three_open {r : Reach} {b0 : Nat} {v : Value} {d : DataW H} {p : List MemPlace} (hv : Value.okWide Try.prog w r b0 26 v) (h : DataW.Trod enc Try.prog w base spare held 26 v d p) :
    ∃ n0 n1 n2 : Int, v = .agg #[.int .i64 n0, .int .i64 n1, .int .i64 n2] ∧ I64 n0 ∧ I64 n1 ∧ I64 n2 := by
  obtain ⟨⟨l⟩, rfl, hsz⟩ := okWide_array Try.underlying26 hv
  match l, hsz.trans (show Try.prog.cellsOf 26 = 3 by kernel_rfl) with
  | [c0, c1, c2], _ =>
    obtain ⟨fuel, hf⟩ := h
    obtain ⟨xs, m, _, _, _, hlen, hg⟩ := DataW.trod_array Try.underlying26 hf
    have hc : Try.prog.cellsOf 3 = 1 := by kernel_rfl
    match xs, hlen with
    | [y0, y1, y2], _ =>
      have g0 := hg 0 (by omega)
      have g1 := hg 1 (by omega)
      have g2 := hg 2 (by omega)
      simp only [hc, Value.cells, List.drop, List.take, Nat.zero_mul, Nat.one_mul] at g0 g1 g2
      obtain ⟨k0, e0, _, w0⟩ := DataW.trod_int Try.underlying3 (g0.trans rfl)
      obtain ⟨k1, e1, _, w1⟩ := DataW.trod_int Try.underlying3 (g1.trans rfl)
      obtain ⟨k2, e2, _, w2⟩ := DataW.trod_int Try.underlying3 (g2.trans rfl)
      simp only [List.cons.injEq, and_true] at e0 e1 e2
      subst e0 e1 e2
      exact ⟨k0, k1, k2, rfl, wf_i64 w0, wf_i64 w1, wf_i64 w2⟩
end

set_option maxRecDepth 100000 in
theorem some_lifted (os : Os) (started : os.Started) (H : Type) (enc : TypeId × Value → H) :
    ReturnsInHanded {} Try.checked os 7 .any (Rows.plankSomeSpec.pre6 enc Try.prog Try.f7 Rows.plankSomeRow.domain false) (Rows.plankSomeSpec.post enc Try.prog Try.f7 false true false false) := by
  refine returnsInHanded_of_change_sized (C := Try.checked) ownKnobs started (by kernel_rfl) Try.func7
    (ChangeSpec.witness6 (enc := enc) (C := Try.checked) false ⟨#[], #[.agg #[.slice none 0 0, .slice none 0 0], .agg #[.int .i64 0, .int .i64 0, .int .i64 0]], []⟩ 8 (by kernel_rfl) (by kernel_rfl) (by kernel_rfl) (by kernel_rfl)) ?_
  intro W base args ds gs before hval0 hW hcnd hsz0 _
  have hval : ∀ (j : Nat) t v, Try.f7.params[j]? = some t → args[j]? = some v → Value.okWide Try.prog W .any base t v := hval0
  have hsz : (DataW.weightsEach Try.prog (Try.f7.params.toList ++ Rows.plankSomeSpec.plain.varTypes Try.prog) (ds ++ gs)).all (· ≤ reachBytes) = true := hsz0
  have hW' := hW
  obtain ⟨p, q, hA0, hV, rfl, hfz, hnd⟩ := hW
  have hA : DataW.TrodAll enc Try.prog W 0 (fun _ => true) true Try.f7.params.toList args.toList ds p := hA0
  rw [Try.params7] at hA hval hsz
  obtain ⟨v0, vs0, d0, ds0, p0, q0, hargs, rfl, rfl, h0, r0⟩ := trodAll_cons hA
  obtain ⟨v1, vs1, d1, ds1, p1, q1, rfl, rfl, rfl, h1, r1⟩ := trodAll_cons r0
  obtain ⟨rfl, rfl, rfl⟩ := trodAll_nil r1
  obtain rfl : args = #[v0, v1] := by cases args; simp_all
  obtain ⟨rfl, rfl⟩ := trodVars_none hV
  have lt0 : ∀ x ∈ p0, x.block < W.heap.size := by obtain ⟨m, hm⟩ := h0; exact DataW.trod_lt m _ _ _ hm
  have lt1 : ∀ x ∈ p1, x.block < W.heap.size := by obtain ⟨m, hm⟩ := h1; exact DataW.trod_lt m _ _ _ hm
  have z0 : Sized 25 d0 := sized_each hsz (j := 0) rfl rfl
  obtain ⟨pa, pn, pc, sa, sn, sc, x, rfl, hx⟩ := book_open (hval 0 25 v0 rfl rfl) h0 z0
  obtain ⟨n0, n1, n2, rfl, i0, i1, i2⟩ := three_open (hval 1 26 v1 rfl rfl) h1
  clear hA0 hval0 hsz0
  refine (some_any (Nat.le_refl _) hx i0 i1 i2).mono fun e W' ⟨he, bel⟩ => ?_
  subst he
  exact ⟨_, rfl, _, _, _, [], _, [], hW', trodAll_mk1 (shut_bool Try.underlying4 _), (trodAll_cons_mk (Below.trod laidOut (by kernel_rfl) (of_decide_eq_true (by kernel_rfl)) h0 bel lt0) (trodAll_cons_mk (Below.trod laidOut (by kernel_rfl) (of_decide_eq_true (by kernel_rfl)) h1 bel lt1) trodAll_mk0)), rfl, bel.frame _, fun h => by cases h⟩

theorem plankSome_holds : Rows.PlankSomeSaid :=
  OpenClaim.holds_of_wide 7 Try.f7 rfl rfl rfl rfl rfl rfl rfl ⟨rfl, rfl, rfl, rfl, rfl⟩ rfl rfl rfl rfl rfl (by kernel_rfl) Try.func7 (by kernel_rfl)
    (of_decide_eq_true (by kernel_rfl)) (by unfold Func.isWrapper; first | (rw [if_pos (by decide +kernel)]; kernel_rfl) | (rw [if_neg (by decide +kernel)]; exact ⟨rfl, rfl⟩))
    (fun os started H enc _ => some_lifted os started H enc)
end Go.Proofs.Ytilbkmogmlcpaaa
