/- PlankLook returns true for every book and both numbers; no condition. Walks: PlankLook. Walks: how many parts can be cut, at the worst, once the inch of a knot is known (the law's own). -/
import Derived.Test.YtilbkmogmlcpaaaPlo04
import Derived.Test.YtilbkmogmlcpaaaPlo07
import Derived.Test.YtilbkmogmlcpaaaPlo01
import Derived.Test.YtilbkmogmlcpaaaGa15
import Derived.Test.YtilbkmogmlcpaaaGa08
import Derived.Deep.DeepCutAuto
namespace Go.Proofs.Ytilbkmogmlcpaaa
open Go.RowKit Go.Shelf

set_option maxRecDepth 100000 in
set_option maxHeartbeats 4000000 in
theorem lawworst_any {B : Nat} {pa sa : Option Addr} {pn pc sn sc p k : Nat} {x : Book} {w : World} (hB : B ≤ w.heap.size) (hx : BookAt B w pa pn sa sn x) (hb : bookOk x = true) (hp : p < pn) (hk : k < (gw x.planks p).knots.length) :
    Calls Try.prog 50 #[.agg #[.slice pa pn pc, .slice sa sn sc], .int .i64 p, .int .i64 k] w fun e w' => e = .returned (.int .i64 (worstN x (stockF x) p k)) ∧ Below w.heap.size w w' := by
  have hpn := Lib.hid hx.planks.len
  have hsn := Lib.hid hx.parts.len
  have hG := good_of hb
  have hxp : p < x.planks.length := by rw [hpn.out]; exact hp
  have hwd := hG.wood p hxp
  have hkn := hG.knot p hxp k hk
  have hpn3 : pn ≤ 100 := by have := hG.planks; have := hpn.out; omega
  have hsn5 : sn ≤ 5 := by have := hG.parts; have := hsn.out; omega
  obtain ⟨w0, hw0⟩ : ∃ w0, w0 = w.alloc (.cells #[.slice pa pn pc, .slice sa sn sc] 25) := ⟨_, rfl⟩
  have hbw0 : Below w.heap.size w w0 := by rw [hw0]; exact (Below.refl _ _).alloc (Nat.le_refl _) _
  have hk0 : Blk w0 w.heap.size #[.slice pa pn pc, .slice sa sn sc] := by rw [hw0]; exact Blk.new w _ _
  have l0 : w.heap.size < w0.heap.size := hk0.lt
  have hx0 := hx.keep (w' := w0) (Nat.le_refl _) (fun b o h => bcells hbw0 b o (by omega))
  clear hx
  obtain ⟨pb, po, rfl, hpB, hpc⟩ := hx0.planks.get p hp
  obtain ⟨kv, hkv, kc0, kc1, kI⟩ := hpc p hp
  clear hpc
  obtain ⟨ka, kn, kc, rfl, hks⟩ := hkv
  have hkn2 := hks.len
  obtain ⟨kb, ko, rfl, hkB, hkc⟩ := hks.get k (by omega)
  obtain ⟨c0, c1, i0, i1⟩ := hkc k (by omega)
  clear hkc hks
  obtain ⟨lo, hlo⟩ : ∃ lo, lo = (gp (gw x.planks p).knots k).1 := ⟨_, rfl⟩
  obtain ⟨hi, hhi⟩ : ∃ hi, hi = (gp (gw x.planks p).knots k).2 := ⟨_, rfl⟩
  have hlohi : lo ≤ hi ∧ 0 ≤ lo ∧ hi ≤ 16 := by rw [hlo, hhi]; unfold Knot at hkn; exact ⟨hkn.2.1, hkn.1, by omega⟩
  obtain ⟨hlh, hlo0, hhi16⟩ := hlohi
  rw [← hlo] at c0
  rw [← hhi] at c1
  have hk100 : (gw x.planks p).knots.length ≤ 100 := by have := hwd.2.2; omega
  obtain ⟨N, hN⟩ : ∃ N : Nat, (N : Int) = hi - lo + 1 := ⟨(hi - lo + 1).toNat, by omega⟩
  obtain ⟨R, hR⟩ : ∃ R, R = worstN x (stockF x) p k := ⟨_, rfl⟩
  rw [← hR]
  have hR' : Hid (R = worstU x (stockF x) p k N) := Lib.hid (by rw [hR]; unfold worstN; rw [← hlo, ← hhi, ← hN, Int.toNat_natCast])
  have hok : Hid (∀ t, lo ≤ t → t ≤ hi → bookOk (lookedB x p k t) = true) := Lib.hid (fun t h1 h2 => looked_ok hb hxp hk (by rw [← hlo]; exact h1) (by rw [← hhi]; exact h2))
  have hstep : Hid (∀ j : Nat, lo + (j : Int) ≤ hi → worstU x (stockF x) p k (j + 1) = min (worstU x (stockF x) p k j) ((mostR (lookedB x p k (lo + j))).1.length : Int)) := Lib.hid (fun j hj => by
    have : worstU x (stockF x) p k (j + 1) = min (worstU x (stockF x) p k j) (foundN x (stockF x) p k (lo + j)) := by rw [hlo]; rfl
    rw [this, found_len (hok.out _ (by omega) hj) hxp])
  have hme : Hid (∀ t, lo ≤ t → t ≤ hi → (mostR (lookedB x p k t)).2 = 0) := Lib.hid (fun t h1 h2 => by
    obtain ⟨s, _, _, h3⟩ := most_is (hok.out t h1 h2)
    rw [h3])
  have hx1 := Lib.hid hx0
  have hpi : (p : Int) < pn := by omega
  have hki : (k : Int) < kn := by omega
  have q0 : w0.cell? ⟨w.heap.size, 0, none⟩ = some (.slice (some ⟨pb, po, none⟩) pn pc) := hk0.cell
  have q1 : w0.cell? ⟨w.heap.size, 1, none⟩ = some (.slice sa sn sc) := hk0.cell
  have lpb : pb < w0.heap.size := by omega
  have lkb : kb < w0.heap.size := by omega
  have hwu0 : Hid ((sn : Int) = worstU x (stockF x) p k 0) := Lib.hid (by unfold worstU; rw [hsn.out])
  clear hx0 hR hlo hhi hG hwd hkn kc0 kI hkn2 i0 i1 hb
  go_enter Try.func50, Try.ntmps50
  replace hw0 := hw0.symm
  go_wp2_with fail
  clear hw0 q0 q1
  go_loopw [7, 8] (fun v i wr => ∃ j : Nat, j ≤ N ∧ i = .int .i64 (lo + j) ∧ v = .int .i64 (worstU x (stockF x) p k j) ∧ Below w0.heap.size w0 wr) (fun _ i _ => (hi + 1 - intOf i).toNat)
  case atStart => exact ⟨0, by omega, by simp, by rw [hwu0.out], Below.refl _ _⟩
  case round =>
    obtain ⟨j, hj, rfl, rfl, hbr⟩ := hrel
    have hkr := hk0.below hbr l0
    have hzr := hbr.size
    have hbwr := hbw0.trans (hbr.mono hbw0.size)
    have q0 : wr.cell? ⟨w.heap.size, 0, none⟩ = some (.slice (some ⟨pb, po, none⟩) pn pc) := hkr.cell
    have q1 : wr.cell? ⟨w.heap.size, 1, none⟩ = some (.slice sa sn sc) := hkr.cell
    have q2 := (bcells hbr pb (po + p * 2 + 1) lpb).trans kc1
    have q3 := (bcells hbr kb (ko + k * 2) lkb).trans c0
    have q4 := (bcells hbr kb (ko + k * 2 + 1) lkb).trans c1
    by_cases hlt : j < N
    · have hle : lo + (j : Int) ≤ hi := by omega
      have hxr := Lib.hid (hx1.out.keep (w' := wr) (Nat.le_refl _) (fun b o h => bcells hbr b o (by omega)))
      have hst := hstep.out j hle
      obtain ⟨W, hW⟩ : ∃ W, W = worstU x (stockF x) p k j := ⟨_, rfl⟩
      rw [← hW] at hst ⊢
      have hst' := Lib.hid hst
      clear hW hst
      go_wp2_with fail
      refine (known_any (B := B) (t := lo + j) (by omega) hxr.out hpn3 hp hk hk100 (by unfold I64; omega)).mono ?_
      rintro e w5 ⟨qa, qn, qc, rfl, hy, hb5⟩
      clear q0 q1 q2 q3 q4
      go_wp2_with fail
      refine (Most_any (Nat.le_refl _) hy).mono ?_
      rintro e w6 ⟨ra, rn, rc, rfl, hl, hb6⟩
      rw [hme.out (lo + j) (by omega) hle]
      have hln := hl.len
      have hst2 : Hid (worstU x (stockF x) p k (j + 1) = min W (rn : Int)) := Lib.hid (by rw [hst'.out, hln])
      have hbr6 := (hbr.trans (hb5.mono hbr.size)).trans (hb6.mono (Nat.le_trans hbr.size hb5.size))
      clear hl hln hb6 hb5 hy
      go_wp2_with fail
      go_roundw
      case rel =>
        refine ⟨j + 1, by omega, ?_, ?_, hbr6⟩
        · rw [show lo + (j : Int) + 1 = lo + ((j + 1 : Nat) : Int) by omega]
        · rw [hst2.out]
          congr 1
          rw [Int.min_def]
          split <;> split <;> omega
      case measure => simp [intOf]; omega
    · obtain rfl : j = N := by omega
      have hgt : hi < lo + (j : Int) := by omega
      go_wp2_with fail
      go_ret
      exact ⟨ret_int (by rw [hR'.out]), hbwr⟩
end Go.Proofs.Ytilbkmogmlcpaaa
namespace Go.Proofs.Ytilbkmogmlcpaaa
open Go.RowKit Go.Shelf

section
variable {x : Book}
def manyU (x : Book) : Nat → Nat
  | 0 => 0
  | n + 1 => manyU x n + (gw x.planks n).knots.length
theorem manyU_zero : ∀ n : Nat, (∀ i, i < n → (gw x.planks i).knots.length = 0) → manyU x n = 0
  | 0, _ => rfl
  | n + 1, h => by
    show manyU x n + _ = 0
    rw [manyU_zero n (fun i hi => h i (by omega)), h n (by omega)]
theorem manyU_pos : ∀ n i : Nat, i < n → 0 < (gw x.planks i).knots.length → 0 < manyU x n
  | 0, _, h, _ => by omega
  | n + 1, i, h, h0 => by
    show 0 < manyU x n + _
    by_cases e : i = n
    · subst e; omega
    · have := manyU_pos n i (by omega) h0; omega
theorem manyU_le : ∀ n : Nat, (∀ i, i < n → (gw x.planks i).knots.length ≤ 3) → manyU x n ≤ 3 * n
  | 0, _ => by simp [manyU]
  | n + 1, h => by
    have h1 := manyU_le n (fun i hi => h i (by omega))
    have h2 := h n (by omega)
    show manyU x n + _ ≤ _
    omega
theorem maxU_nonneg (xs : List Int) : ∀ n, 0 ≤ maxU 0 xs n
  | 0 => by show (0 : Int) ≤ 0; omega
  | n + 1 => by
    have := maxU_nonneg xs n
    show 0 ≤ max (maxU 0 xs n) (gi xs n)
    omega
theorem worstU_nonneg (x : Book) (f : Nat → Nat → Bool) (p k : Nat) : ∀ j, 0 ≤ worstU x f p k j
  | 0 => by show (0 : Int) ≤ (x.parts.length : Int); omega
  | j + 1 => by
    have h1 := worstU_nonneg x f p k j
    have h2 : 0 ≤ foundN x f p k ((gp (gw x.planks p).knots k).1 + j) := maxU_nonneg _ _
    show 0 ≤ min (worstU x f p k j) (foundN x f p k ((gp (gw x.planks p).knots k).1 + j))
    omega
end

set_option maxRecDepth 100000 in
set_option maxHeartbeats 4000000 in
theorem look_law {B : Nat} {pa sa : Option Addr} {pn pc sn sc : Nat} {x : Book} {n0 n1 : Int} {w : World} (hB : B ≤ w.heap.size) (hx : BookAt B w pa pn sa sn x) :
    Calls Try.prog 12 #[.agg #[.slice pa pn pc, .slice sa sn sc], .agg #[.int .i64 n0, .int .i64 n1]] w fun e w' => e = .returned (.bool true) ∧ Below w.heap.size w w' := by
  have hpn := Lib.hid hx.planks.len
  have hsn := Lib.hid hx.parts.len
  have hps := hx.planks.small
  obtain ⟨w0, hw0⟩ : ∃ w0, w0 = (w.alloc (.cells #[.slice pa pn pc, .slice sa sn sc] 25)).alloc (.cells #[.int .i64 n0, .int .i64 n1] 69) := ⟨_, rfl⟩
  have hbw0 : Below w.heap.size w w0 := by rw [hw0]; exact ((Below.refl _ _).alloc (Nat.le_refl _) _).alloc (by simp) _
  have hk : Blk w0 w.heap.size #[.slice pa pn pc, .slice sa sn sc] := by rw [hw0]; exact (Blk.new w _ _).alloc _
  have hn : Blk w0 (w.heap.size + 1) #[.int .i64 n0, .int .i64 n1] := by
    rw [hw0]
    have := Blk.new (w.alloc (.cells #[.slice pa pn pc, .slice sa sn sc] 25)) #[.int .i64 n0, .int .i64 n1] 69
    rw [World.size_alloc] at this
    exact this
  have l0 : w.heap.size + 1 < w0.heap.size := hn.lt
  have hx0 := Lib.hid (hx.keep (w' := w0) (Nat.le_refl _) (fun b o h => bcells hbw0 b o (by omega)))
  have hBw : B ≤ w0.heap.size := by omega
  clear hx
  have q0 : w0.cell? ⟨w.heap.size, 0, none⟩ = some (.slice pa pn pc) := hk.cell
  have q1 : w0.cell? ⟨w.heap.size, 1, none⟩ = some (.slice sa sn sc) := hk.cell
  obtain ⟨P, hP⟩ : ∃ P, P = (lookR x).1 := ⟨_, rfl⟩
  obtain ⟨K, hK⟩ : ∃ K, K = (lookR x).2.1 := ⟨_, rfl⟩
  obtain ⟨E, hE⟩ : ∃ E, E = (lookR x).2.2 := ⟨_, rfl⟩
  have hLE := Lib.hid (And.intro hP (And.intro hK hE))
  clear hP hK hE
  go_enter Try.func12, Try.ntmps12
  replace hw0 := hw0.symm
  go_wp2_with fail
  clear hw0
  refine (Look_any (B := B) hBw hx0.out).mono ?_
  rintro e w1 ⟨rfl, hb1⟩
  rw [← hLE.out.1, ← hLE.out.2.1, ← hLE.out.2.2]
  clear q0 q1
  replace hk := hk.below hb1 hk.lt
  replace hn := hn.below hb1 hn.lt
  replace hx0 := Lib.hid (hx0.out.keep (w' := w1) (Nat.le_refl _) (fun b o h => bcells hb1 b o (by omega)))
  replace hBw : B ≤ w1.heap.size := Nat.le_trans hBw hb1.size
  have hbw1 := hbw0.trans (hb1.mono hbw0.size)
  clear hbw0 hb1
  have q0 : w1.cell? ⟨w.heap.size, 0, none⟩ = some (.slice pa pn pc) := hk.cell
  have q1 : w1.cell? ⟨w.heap.size, 1, none⟩ = some (.slice sa sn sc) := hk.cell
  go_wp2_with fail
  refine (sound_any (B := B) hBw hx0.out).mono ?_
  rintro e w2 ⟨rfl, hb2⟩
  clear q0 q1
  replace hk := hk.below hb2 hk.lt
  replace hn := hn.below hb2 hn.lt
  replace hx0 := Lib.hid (hx0.out.keep (w' := w2) (Nat.le_refl _) (fun b o h => bcells hb2 b o (by omega)))
  replace hBw : B ≤ w2.heap.size := Nat.le_trans hBw hb2.size
  have hbw2 := hbw1.trans (hb2.mono hbw1.size)
  clear hbw1 hb2
  rcases Bool.eq_false_or_eq_true (bookOk x) with hb | hb
  case inr =>
    rw [hb]
    have h1 : lookR x = (0, 0, 10) := by unfold lookR; rw [if_neg (by rw [hb]; simp)]
    have hp0 := hLE.out.1
    have hk0 := hLE.out.2.1
    have he0 := hLE.out.2.2
    rw [h1] at hp0 hk0 he0
    simp only at hp0 hk0 he0
    subst hp0
    subst hk0
    subst he0
    clear h1 hb
    go_wp2_with fail
    refine (sawn_any _).mono ?_
    rintro e w3 ⟨rfl, hb3⟩
    go_wp2_with fail
    go_ret
    exact ⟨rfl, hbw2.trans (hb3.mono hbw2.size)⟩
  rw [hb]
  have hG := good_of hb
  have hb' := Lib.hid hb
  have hp1 := hG.planks
  rw [hpn.out] at hp1
  obtain ⟨p1, p2⟩ := hp1
  have hG' := Lib.hid hG
  have hcase : (P = 0 ∧ K = 0 ∧ E = 4 ∧ manyU x pn = 0) ∨ ∃ i k : Nat, P = i ∧ K = k ∧ E = 0 ∧ i < pn ∧ k < (gw x.planks i).knots.length ∧ 0 < manyU x pn ∧ ∀ p q : Nat, p < pn → q < (gw x.planks p).knots.length →
      worstN x (stockF x) p q < worstN x (stockF x) i k ∨ (worstN x (stockF x) p q = worstN x (stockF x) i k ∧ (i < p ∨ (i = p ∧ k ≤ q))) := by
    rw [hLE.out.1, hLE.out.2.1, hLE.out.2.2]
    rcases look_is hb with ⟨h1, h2⟩ | ⟨i, k, h1, h2, h3, h4⟩
    · rw [h1]
      rw [hpn.out] at h2
      exact .inl ⟨rfl, rfl, rfl, manyU_zero pn h2⟩
    · rw [h1]
      rw [hpn.out] at h2 h4
      exact .inr ⟨i, k, rfl, rfl, rfl, h2, h3, manyU_pos pn i h2 (by omega), h4⟩
  have hcase' := Lib.hid hcase
  obtain ⟨pb, po, rfl, hpB, hpc⟩ := hx0.out.planks.get 0 (by omega)
  have hpc' := Lib.hid hpc
  clear hb hG hLE hcase hpc
  have hlk : ∀ {wr : World}, Below w2.heap.size w2 wr → ∀ p, p < pn → ∃ (ka : Option Addr) (kn kc : Nat), wr.cell? ⟨pb, po + p * 2 + 1, none⟩ = some (.slice ka kn kc) ∧ kn = (gw x.planks p).knots.length ∧ kn ≤ 3 := by
    intro wr h p hp
    obtain ⟨kv, ⟨ka, kn, kc, rfl, hks⟩, _, k2, _⟩ := hpc'.out p hp
    refine ⟨ka, kn, kc, (bcells h pb _ (by omega)).trans k2, hks.len.symm, ?_⟩
    rw [← hks.len]
    exact (hG'.out.wood p (by rw [hpn.out]; exact hp)).2.2
  have hlk' := Lib.hid (fun (wr : World) (h : Below w2.heap.size w2 wr) p hp => hlk h p hp)
  have hmle : Hid (∀ n, n ≤ pn → manyU x n ≤ 9) := Lib.hid (fun n hn => by
    have := manyU_le (x := x) n (fun i hi => (hG'.out.wood i (by rw [hpn.out]; omega)).2.2)
    omega)
  clear hlk
  have q0 : w2.cell? ⟨w.heap.size, 0, none⟩ = some (.slice (some ⟨pb, po, none⟩) pn pc) := hk.cell
  go_wp2_with fail
  go_loopw [8, 9] (fun v i wr => ∃ p : Nat, p ≤ pn ∧ i = .int .i64 p ∧ v = .int .i64 (manyU x p) ∧ w2 = wr) (fun _ i _ => pn - (intOf i).toNat)
  case atStart => exact ⟨0, by omega, rfl, rfl, rfl⟩
  case round =>
    obtain ⟨p, hp, rfl, rfl, rfl⟩ := hrel
    by_cases hlt : p < pn
    · have hpi : (p : Int) < pn := by omega
      obtain ⟨ka, kn, kc, g1, hkn, hkn3⟩ := hlk'.out w2 (Below.refl _ _) p hlt
      have hmp := hmle.out p (by omega)
      have hsu : manyU x (p + 1) = manyU x p + kn := by rw [hkn]; rfl
      obtain ⟨M, hM⟩ : ∃ M, M = manyU x p := ⟨_, rfl⟩
      rw [← hM] at hmp hsu ⊢
      have hsu' := Lib.hid hsu
      clear hkn hM hsu
      go_wp2_with fail
      go_roundw
      case rel => exact ⟨p + 1, by omega, by go_num, by rw [hsu'.out]; simp, by trivial⟩
      case measure => simp [intOf]; omega
    · obtain rfl : p = pn := by omega
      have dk : decide ((p : Int) < p) = false := decide_eq_false (by omega)
      rcases hcase'.out with ⟨rfl, rfl, rfl, hm⟩ | ⟨i, k, rfl, rfl, rfl, hi, hkk, hm, hall⟩
      · rw [hm]
        go_wp2_with fail
        refine (sawn_any _).mono ?_
        rintro e w3 ⟨rfl, hb3⟩
        go_wp2_with fail
        go_ret
        exact ⟨rfl, hbw2.trans (hb3.mono hbw2.size)⟩
      obtain ⟨M, hM⟩ : ∃ M, M = manyU x p := ⟨_, rfl⟩
      rw [← hM] at hm ⊢
      have hM0 : ((M : Int) == 0) = false := by simp; omega
      have hwi : Hid (withinB i 0 ((p : Int) - 1) = true) := Lib.hid (by simp [withinB]; omega)
      obtain ⟨ka, kn, kc, g1, hkn, hkn3⟩ := hlk'.out w2 (Below.refl _ _) i hi
      have hwk : Hid (withinB k 0 ((kn : Int) - 1) = true) := Lib.hid (by rw [← hkn] at hkk; simp [withinB]; omega)
      have hii : (i : Int) < p := by omega
      have hall' := Lib.hid hall
      have hkk' := Lib.hid hkk
      have r0 := rnd_range (n := n0) (m := p) (by omega)
      obtain ⟨u, hu⟩ : ∃ u : Nat, rnd n0 p = u := ⟨(rnd n0 p).toNat, by omega⟩
      have hup : u < p := by omega
      have hu' := Lib.hid hu
      have hpI : Hid (I64 (p : Int)) := Lib.hid (by unfold I64; omega)
      have m0 : w2.cell? ⟨w.heap.size + 1, 0, none⟩ = some (.int .i64 n0) := hn.cell
      obtain ⟨ua, un, uc, g2, hun, hun3⟩ := hlk'.out w2 (Below.refl _ _) u hup
      have huu : (u : Int) < p := by omega
      have hun' := Lib.hid hun
      clear hM hm hkn hall hkk r0 hu hun
      go_upto_if 107 with (first | (go_at_call 38; refine (In_any _ _ _ _).mono ?_; rintro e w' ⟨rfl, rfl⟩; first | rw [hwi.out] | rw [hwk.out]) | (go_at_call 35; refine (Round_any (n := n0) (m := (p : Int)) _ hpI.out).mono ?_; rintro e w' ⟨rfl, rfl⟩; rw [hu'.out]))
      by_cases hun0 : un = 0
      · have hz : ((un : Int) == 0) = true := by simp [hun0]
        clear hun0
        go_wp2_with fail
        refine (sawn_any _).mono ?_
        rintro e w3 ⟨rfl, hb3⟩
        go_wp2_with fail
        go_ret
        exact ⟨rfl, hbw2.trans (hb3.mono hbw2.size)⟩
      have hz : ((un : Int) == 0) = false := by simp; omega
      have r1 := rnd_range (n := n1) (m := un) (by omega)
      obtain ⟨v, hv⟩ : ∃ v : Nat, rnd n1 un = v := ⟨(rnd n1 un).toNat, by omega⟩
      have hvu : v < un := by omega
      have hv' := Lib.hid hv
      have huI : Hid (I64 (un : Int)) := Lib.hid (by unfold I64; omega)
      clear r1 hv hun0
      go_upto_region 18 with fail
      clear hz g1 g2 m0 q0
      go_cut [11] (fun s wx => s = .int .i64 (v : Int) ∧ Below w2.heap.size w2 wx)
      case first =>
        have hO := open_wide
        have hF := hO.fn
        have hd := hO.depth
        have hS0 : SameBut (fun _ => False) w2 w2.drew := (SameBut.refl _ _).drew
        obtain ⟨ua2, un2, uc2, g2, hun2, _⟩ := hlk'.out w2 (Below.refl _ _) u hup
        obtain rfl : un2 = un := by rw [hun2, hun'.out]
        have hread : ∀ w', SameBut (fun _ => False) w2 w' → w'.cell? ⟨w.heap.size, 0, none⟩ = some (.slice (some ⟨pb, po, none⟩) p pc) ∧ w'.cell? ⟨w.heap.size + 1, 1, none⟩ = some (.int .i64 n1) ∧ w'.cell? ⟨pb, po + u * 2 + 1, none⟩ = some (.slice ua2 un2 uc2) := fun w' h =>
          ⟨(hk.same h (fun e => e)).cell, (hn.same h (fun e => e)).cell, (h.cell (by omega) (fun e => e)).trans g2⟩
        clear g2 hun2
        refine region_planW (fun w' => SameBut (fun _ => False) w2 w') [(0, true), (1, true), (2, true), (3, true), (4, true), (5, true), (6, true), (7, true), (8, true), (9, false), (10, true)] (by kernel_rfl) (by kernel_rfl) (by kernel_rfl) (by decide) (by kernel_rfl) ?_
        iterate 9
          (refine plan_take ?_ rfl hS0 (by rfl) ?_ ?_
           rotate_left
           · intro w' hw'
             obtain ⟨q1, q2, q3⟩ := hread w' hw'
             go_simp
             with_reducible rfl
           simp only [Act.put, List.setIfInBounds_toArray, List.set_cons_zero, List.set_cons_succ])
        refine plan_one rfl (by rfl) (fun K hK => ?_)
        go_simp
        refine (hO.calls (Round_any (n := n1) (m := (un2 : Int)) _ huI.out)).mono ?_
        rintro e w5 ⟨rfl, rfl⟩
        rw [hv'.out]
        refine hK _ _ hS0 ?_
        clear hK K
        iterate 1
          (refine plan_take ?_ rfl hS0 (by rfl) ?_ ?_
           rotate_left
           · intro w' hw'
             go_simp
             with_reducible rfl
           simp only [Act.put, List.setIfInBounds_toArray, List.set_cons_zero, List.set_cons_succ])
        unfold planW okN
        go_wp2_with fail
        go_meet
        exact ⟨rfl, hS0.toBelow (Nat.le_refl _) (fun _ h => h.elim)⟩
      case rest =>
      obtain ⟨rfl, hb3⟩ := hcut
      obtain ⟨w3, hw3⟩ : ∃ w3, w3 = wc := ⟨_, rfl⟩
      rw [← hw3] at hb3 ⊢
      clear hw3
      replace hk := hk.below hb3 hk.lt
      replace hx0 := Lib.hid (hx0.out.keep (w' := w3) (Nat.le_refl _) (fun b o h => bcells hb3 b o (by omega)))
      replace hBw : B ≤ w3.heap.size := Nat.le_trans hBw hb3.size
      have hbw3 := hbw2.trans (hb3.mono hbw2.size)
      clear hbw2 hb3
      clear hn
      obtain ⟨X, hX⟩ : ∃ X, X = worstN x (stockF x) i k := ⟨_, rfl⟩
      obtain ⟨Y, hY⟩ : ∃ Y, Y = worstN x (stockF x) u v := ⟨_, rfl⟩
      have hX' := Lib.hid hX
      have hY' := Lib.hid hY
      have hv2 : Hid (v < (gw x.planks u).knots.length) := Lib.hid (by rw [← hun'.out]; exact hvu)
      have hXY := hall'.out u v hup hv2.out
      rw [← hX, ← hY] at hXY
      have hX0 : 0 ≤ X := by rw [hX]; exact worstU_nonneg _ _ _ _ _
      have hY0 : 0 ≤ Y := by rw [hY]; exact worstU_nonneg _ _ _ _ _
      clear hX hY
      go_upto_region 19 with fail
      go_cut [12, 13] (fun s t wx => s = .int .i64 X ∧ t = .int .i64 Y ∧ Below w3.heap.size w3 wx)
      case first =>
        have hO := open_wide
        have hF := hO.fn
        have hd := hO.depth
        have hS0 : SameBut (fun _ => False) w3 w3.drew := (SameBut.refl _ _).drew
        have hread : ∀ w', SameBut (fun _ => False) w3 w' → w'.cell? ⟨w.heap.size, 0, none⟩ = some (.slice (some ⟨pb, po, none⟩) p pc) ∧ w'.cell? ⟨w.heap.size, 1, none⟩ = some (.slice sa sn sc) := fun w' h =>
          ⟨(hk.same h (fun e => e)).cell, (hk.same h (fun e => e)).cell⟩
        clear hXY
        refine region_planW (fun w' => SameBut (fun _ => False) w3 w') [(0, true), (1, true), (2, true), (4, true), (5, true), (6, true), (3, false), (7, false), (8, true), (9, true)] (by kernel_rfl) (by kernel_rfl) (by kernel_rfl) (by decide) (by kernel_rfl) ?_
        iterate 6
          (refine plan_take ?_ rfl hS0 (by rfl) ?_ ?_
           rotate_left
           · intro w' hw'
             obtain ⟨q1, q2⟩ := hread w' hw'
             go_simp
             with_reducible rfl
           simp only [Act.put, List.setIfInBounds_toArray, List.set_cons_zero, List.set_cons_succ])
        refine plan_one rfl (by rfl) (fun K hK => ?_)
        go_simp
        refine (hO.calls (lawworst_any (B := B) (w := w3.drew) hBw (hx0.out.keep (Nat.le_refl _) (fun b o h => hS0.cell (by omega) (fun e => e))) hb'.out hi hkk'.out)).mono ?_
        rintro e w5 ⟨rfl, hb5⟩
        rw [← hX'.out]
        have hS5 : SameBut (fun _ => False) w3 w5 := hS0.below hb5
        refine hK _ _ hS5 ?_
        clear hK K hb5
        refine plan_one rfl (by rfl) (fun K hK => ?_)
        go_simp
        refine (hO.calls (lawworst_any (B := B) (by have := hS5.size; omega) (hx0.out.keep (Nat.le_refl _) (fun b o h => hS5.cell (by omega) (fun e => e))) hb'.out hup hv2.out)).mono ?_
        rintro e w6 ⟨rfl, hb6⟩
        rw [← hY'.out]
        have hS6 : SameBut (fun _ => False) w3 w6 := hS5.below hb6
        refine hK _ _ hS6 ?_
        clear hK K hb6
        iterate 2
          (refine plan_take ?_ rfl hS6 (by rfl) ?_ ?_
           rotate_left
           · intro w' hw'
             go_simp
             with_reducible rfl
           simp only [Act.put, List.setIfInBounds_toArray, List.set_cons_zero, List.set_cons_succ])
        unfold planW okN
        go_wp2_with fail
        go_meet
        exact ⟨rfl, rfl, hS6.toBelow (Nat.le_refl _) (fun _ h => h.elim)⟩
      case rest =>
      obtain ⟨rfl, rfl, hb4⟩ := hcut
      have hbw4 := hbw3.trans (hb4.mono hbw3.size)
      clear hX' hY'
      have hd : Y < X ∨ (Y = X ∧ i < u) ∨ (Y = X ∧ i = u ∧ k ≤ v) := by omega
      clear hXY
      have hfin : Hid (∀ w', Below wc.heap.size wc w' → Below w.heap.size w w') := Lib.hid (fun w' h => hbw4.trans (h.mono hbw4.size))
      rcases hd with h | ⟨rfl, h⟩ | ⟨rfl, rfl, h⟩
      · go_wp2_with fail
        refine (sawn_any _).mono ?_
        rintro e w7 ⟨rfl, hb7⟩
        go_wp2_with fail
        go_ret
        exact ⟨rfl, hfin.out _ hb7⟩
      · have h2 : (i : Int) < u := by omega
        go_wp2_with fail
        refine (sawn_any _).mono ?_
        rintro e w7 ⟨rfl, hb7⟩
        go_wp2_with fail
        go_ret
        exact ⟨rfl, hfin.out _ hb7⟩
      · have h2 : (k : Int) ≤ v := by omega
        go_wp2_with fail
        refine (sawn_any _).mono ?_
        rintro e w7 ⟨rfl, hb7⟩
        go_wp2_with fail
        go_ret
        exact ⟨rfl, hfin.out _ hb7⟩
end Go.Proofs.Ytilbkmogmlcpaaa
namespace Go.Proofs.Ytilbkmogmlcpaaa
open Go.ChangeShapes Go.WideShapes Go.ChangeAt Go.RowKit Go.Deep

set_option maxRecDepth 100000 in
theorem plankLook_lifted (os : Os) (started : os.Started) (H : Type) (enc : TypeId × Value → H) :
    ReturnsInHanded {} Try.checked os 12 .any (Rows.plankLookSpec.pre6 enc Try.prog Try.f12 Rows.plankLookRow.domain false) (Rows.plankLookSpec.post enc Try.prog Try.f12 false true false false) := by
  refine returnsInHanded_of_change_sized (C := Try.checked) ownKnobs started (by kernel_rfl) Try.func12
    (ChangeSpec.witness6 (enc := enc) (C := Try.checked) false ⟨#[], #[.agg #[.slice none 0 0, .slice none 0 0], .agg #[.int .i64 0, .int .i64 0]], []⟩ 8 (by kernel_rfl) (by kernel_rfl) (by kernel_rfl) (by kernel_rfl)) ?_
  intro W base args ds gs before hval0 hW hcnd hsz0 _
  have hval : ∀ (j : Nat) t v, Try.f12.params[j]? = some t → args[j]? = some v → Value.okWide Try.prog W .any base t v := hval0
  have hsz : (DataW.weightsEach Try.prog (Try.f12.params.toList ++ Rows.plankLookSpec.plain.varTypes Try.prog) (ds ++ gs)).all (· ≤ reachBytes) = true := hsz0
  have hW' := hW
  obtain ⟨p, q, hA0, hV, rfl, hfz, hnd⟩ := hW
  have hA : DataW.TrodAll enc Try.prog W 0 (fun _ => true) true Try.f12.params.toList args.toList ds p := hA0
  rw [Try.params12] at hA hval hsz
  obtain ⟨v0, vs0, d0, ds0, p0, q0, hargs, rfl, rfl, h0, r0⟩ := trodAll_cons hA
  obtain ⟨v1, vs1, d1, ds1, p1, q1, rfl, rfl, rfl, h1, r1⟩ := trodAll_cons r0
  obtain ⟨rfl, rfl, rfl⟩ := trodAll_nil r1
  obtain rfl : args = #[v0, v1] := by cases args; simp_all
  obtain ⟨rfl, rfl⟩ := trodVars_none hV
  have lt0 : ∀ x ∈ p0, x.block < W.heap.size := by obtain ⟨m, hm⟩ := h0; exact DataW.trod_lt m _ _ _ hm
  have lt1 : ∀ x ∈ p1, x.block < W.heap.size := by obtain ⟨m, hm⟩ := h1; exact DataW.trod_lt m _ _ _ hm
  have z0 : Sized 25 d0 := sized_each hsz (j := 0) rfl rfl
  obtain ⟨pa, pn, pc, sa, sn, sc, x, rfl, hx⟩ := book_open (hval 0 25 v0 rfl rfl) h0 z0
  obtain ⟨n10, n11, rfl, i10, i11⟩ := two_open (hval 1 69 v1 rfl rfl) h1
  clear hA0 hval0 hsz0
  refine (look_law (Nat.le_refl _) hx).mono fun e W' ⟨he, bel⟩ => ?_
  subst he
  exact ⟨_, rfl, _, _, _, [], _, [], hW', trodAll_mk1 (shut_bool Try.underlying4 _), (trodAll_cons_mk (Below.trod laidOut (by kernel_rfl) (of_decide_eq_true (by kernel_rfl)) h0 bel lt0) (trodAll_cons_mk (Below.trod laidOut (by kernel_rfl) (of_decide_eq_true (by kernel_rfl)) h1 bel lt1) trodAll_mk0)), rfl, bel.frame _, fun h => by cases h⟩

theorem plankLook_holds : Rows.PlankLookSaid :=
  OpenClaim.holds_of_wide 12 Try.f12 rfl rfl rfl rfl rfl rfl rfl ⟨rfl, rfl, rfl, rfl, rfl⟩ rfl rfl rfl rfl rfl (by kernel_rfl) Try.func12 (by kernel_rfl)
    (of_decide_eq_true (by kernel_rfl)) (by unfold Func.isWrapper; first | (rw [if_pos (by decide +kernel)]; kernel_rfl) | (rw [if_neg (by decide +kernel)]; exact ⟨rfl, rfl⟩))
    (fun os started H enc _ => plankLook_lifted os started H enc)
end Go.Proofs.Ytilbkmogmlcpaaa
