/- Walks: do parts lie on a plank at some inches? -/
import Derived.Test.YtbbolibkheelmaaPfs02
import Derived.Deep.DeepCutAuto
namespace Go.Proofs.Ytbbolibkheelmaa
open Go.RowKit Go.Shelf

def partK (x : Book) (parts : List Int) (k : Nat) : Shape := gs x.parts (gi parts k).toNat
def takenU (x : Book) (parts at_ : List Int) (k m : Nat) : Bool := anyB k fun j => decide (gi at_ j ≤ m ∧ (m : Int) < gi at_ j + (partK x parts j).long)
def badK (x : Book) (L : Int) (parts at_ knots : List Int) (k : Nat) : Bool :=
  !(withinB (gi at_ k) 0 (L - (partK x parts k).long) && (clearB (partK x parts k) (gi at_ k) false knots || ((partK x parts k).turns && clearB (partK x parts k) (gi at_ k) true knots)))
def freeK (x : Book) (parts at_ : List Int) (k n : Nat) : Bool := allB n fun j => !takenU x parts at_ k ((gi at_ k).toNat + j)
def okK (x : Book) (L : Int) (parts at_ knots : List Int) (k : Nat) : Bool := !badK x L parts at_ knots k && freeK x parts at_ k (partK x parts k).long.toNat
def laidB (x : Book) (i : Nat) (parts at_ knots : List Int) : Bool := decide (at_.length = parts.length) && allB parts.length (okK x (gw x.planks i).long parts at_ knots)

/-- Truth values in a block. -/
def rowB (L : Nat) (f : Nat → Bool) : Array Value := ((List.range L).map fun i => Value.bool (f i)).toArray
theorem rowB_size (L : Nat) (f : Nat → Bool) : (rowB L f).size = L := by simp [rowB]
theorem rowB_get (L : Nat) (f : Nat → Bool) {i : Nat} (h : i < L) : (rowB L f)[i]? = some (.bool (f i)) := by simp [rowB, h]
theorem rowB_congr {L : Nat} {f g : Nat → Bool} (h : ∀ i, i < L → f i = g i) : rowB L f = rowB L g := by
  unfold rowB; congr 1
  exact List.map_congr_left fun i hi => by rw [h i (List.mem_range.1 hi)]
theorem rowB_set (L : Nat) (f : Nat → Bool) {i : Nat} (h : i < L) (v : Bool) : (rowB L f).setIfInBounds i (.bool v) = rowB L (upd f i v) := by
  apply Array.ext_getElem?
  intro j
  rw [Array.getElem?_setIfInBounds]
  by_cases hj : j < L
  · rw [rowB_get L (upd f i v) hj]
    by_cases e : i = j
    · subst e; simp [rowB_size, h, upd]
    · rw [if_neg e, rowB_get L f hj]; simp [upd, Ne.symm e]
  · have h1 : (rowB L (upd f i v))[j]? = none := by rw [Array.getElem?_eq_none]; rw [rowB_size]; omega
    have h2 : (rowB L f)[j]? = none := by rw [Array.getElem?_eq_none]; rw [rowB_size]; omega
    rw [h1, h2]
    have : ¬ i = j := by omega
    simp [this]
theorem make_bools0 (w : World) : (Instr.makeSlice 125 (.int .i64 ((0 : Nat) : Int)) (.int .i64 ((0 : Nat) : Int))).run Try.prog w = .ok (.slice (some ⟨w.heap.size, 0, none⟩) 0 0) (w.alloc (.cells (rowB 0 fun _ => false) 4)) := by kernel_rfl
theorem make_bools1 (w : World) : (Instr.makeSlice 125 (.int .i64 ((1 : Nat) : Int)) (.int .i64 ((1 : Nat) : Int))).run Try.prog w = .ok (.slice (some ⟨w.heap.size, 0, none⟩) 1 1) (w.alloc (.cells (rowB 1 fun _ => false) 4)) := by kernel_rfl
theorem make_bools2 (w : World) : (Instr.makeSlice 125 (.int .i64 ((2 : Nat) : Int)) (.int .i64 ((2 : Nat) : Int))).run Try.prog w = .ok (.slice (some ⟨w.heap.size, 0, none⟩) 2 2) (w.alloc (.cells (rowB 2 fun _ => false) 4)) := by kernel_rfl
theorem make_bools3 (w : World) : (Instr.makeSlice 125 (.int .i64 ((3 : Nat) : Int)) (.int .i64 ((3 : Nat) : Int))).run Try.prog w = .ok (.slice (some ⟨w.heap.size, 0, none⟩) 3 3) (w.alloc (.cells (rowB 3 fun _ => false) 4)) := by kernel_rfl
theorem make_bools4 (w : World) : (Instr.makeSlice 125 (.int .i64 ((4 : Nat) : Int)) (.int .i64 ((4 : Nat) : Int))).run Try.prog w = .ok (.slice (some ⟨w.heap.size, 0, none⟩) 4 4) (w.alloc (.cells (rowB 4 fun _ => false) 4)) := by kernel_rfl
theorem make_bools5 (w : World) : (Instr.makeSlice 125 (.int .i64 ((5 : Nat) : Int)) (.int .i64 ((5 : Nat) : Int))).run Try.prog w = .ok (.slice (some ⟨w.heap.size, 0, none⟩) 5 5) (w.alloc (.cells (rowB 5 fun _ => false) 4)) := by kernel_rfl
theorem make_bools6 (w : World) : (Instr.makeSlice 125 (.int .i64 ((6 : Nat) : Int)) (.int .i64 ((6 : Nat) : Int))).run Try.prog w = .ok (.slice (some ⟨w.heap.size, 0, none⟩) 6 6) (w.alloc (.cells (rowB 6 fun _ => false) 4)) := by kernel_rfl
theorem make_bools7 (w : World) : (Instr.makeSlice 125 (.int .i64 ((7 : Nat) : Int)) (.int .i64 ((7 : Nat) : Int))).run Try.prog w = .ok (.slice (some ⟨w.heap.size, 0, none⟩) 7 7) (w.alloc (.cells (rowB 7 fun _ => false) 4)) := by kernel_rfl
theorem make_bools8 (w : World) : (Instr.makeSlice 125 (.int .i64 ((8 : Nat) : Int)) (.int .i64 ((8 : Nat) : Int))).run Try.prog w = .ok (.slice (some ⟨w.heap.size, 0, none⟩) 8 8) (w.alloc (.cells (rowB 8 fun _ => false) 4)) := by kernel_rfl
theorem make_bools9 (w : World) : (Instr.makeSlice 125 (.int .i64 ((9 : Nat) : Int)) (.int .i64 ((9 : Nat) : Int))).run Try.prog w = .ok (.slice (some ⟨w.heap.size, 0, none⟩) 9 9) (w.alloc (.cells (rowB 9 fun _ => false) 4)) := by kernel_rfl
theorem make_bools10 (w : World) : (Instr.makeSlice 125 (.int .i64 ((10 : Nat) : Int)) (.int .i64 ((10 : Nat) : Int))).run Try.prog w = .ok (.slice (some ⟨w.heap.size, 0, none⟩) 10 10) (w.alloc (.cells (rowB 10 fun _ => false) 4)) := by kernel_rfl
theorem make_bools11 (w : World) : (Instr.makeSlice 125 (.int .i64 ((11 : Nat) : Int)) (.int .i64 ((11 : Nat) : Int))).run Try.prog w = .ok (.slice (some ⟨w.heap.size, 0, none⟩) 11 11) (w.alloc (.cells (rowB 11 fun _ => false) 4)) := by kernel_rfl
theorem make_bools12 (w : World) : (Instr.makeSlice 125 (.int .i64 ((12 : Nat) : Int)) (.int .i64 ((12 : Nat) : Int))).run Try.prog w = .ok (.slice (some ⟨w.heap.size, 0, none⟩) 12 12) (w.alloc (.cells (rowB 12 fun _ => false) 4)) := by kernel_rfl
theorem make_bools13 (w : World) : (Instr.makeSlice 125 (.int .i64 ((13 : Nat) : Int)) (.int .i64 ((13 : Nat) : Int))).run Try.prog w = .ok (.slice (some ⟨w.heap.size, 0, none⟩) 13 13) (w.alloc (.cells (rowB 13 fun _ => false) 4)) := by kernel_rfl
theorem make_bools14 (w : World) : (Instr.makeSlice 125 (.int .i64 ((14 : Nat) : Int)) (.int .i64 ((14 : Nat) : Int))).run Try.prog w = .ok (.slice (some ⟨w.heap.size, 0, none⟩) 14 14) (w.alloc (.cells (rowB 14 fun _ => false) 4)) := by kernel_rfl
theorem make_bools15 (w : World) : (Instr.makeSlice 125 (.int .i64 ((15 : Nat) : Int)) (.int .i64 ((15 : Nat) : Int))).run Try.prog w = .ok (.slice (some ⟨w.heap.size, 0, none⟩) 15 15) (w.alloc (.cells (rowB 15 fun _ => false) 4)) := by kernel_rfl
theorem make_bools16 (w : World) : (Instr.makeSlice 125 (.int .i64 ((16 : Nat) : Int)) (.int .i64 ((16 : Nat) : Int))).run Try.prog w = .ok (.slice (some ⟨w.heap.size, 0, none⟩) 16 16) (w.alloc (.cells (rowB 16 fun _ => false) 4)) := by kernel_rfl
theorem make_bools {L : Nat} (h : L ≤ 16) (w : World) : (Instr.makeSlice 125 (.int .i64 (L : Int)) (.int .i64 (L : Int))).run Try.prog w = .ok (.slice (some ⟨w.heap.size, 0, none⟩) L L) (w.alloc (.cells (rowB L fun _ => false) 4)) := by
  have : L = 0 ∨ L = 1 ∨ L = 2 ∨ L = 3 ∨ L = 4 ∨ L = 5 ∨ L = 6 ∨ L = 7 ∨ L = 8 ∨ L = 9 ∨ L = 10 ∨ L = 11 ∨ L = 12 ∨ L = 13 ∨ L = 14 ∨ L = 15 ∨ L = 16 := by omega
  rcases this with rfl | rfl | rfl | rfl | rfl | rfl | rfl | rfl | rfl | rfl | rfl | rfl | rfl | rfl | rfl | rfl | rfl
  · exact make_bools0 w
  · exact make_bools1 w
  · exact make_bools2 w
  · exact make_bools3 w
  · exact make_bools4 w
  · exact make_bools5 w
  · exact make_bools6 w
  · exact make_bools7 w
  · exact make_bools8 w
  · exact make_bools9 w
  · exact make_bools10 w
  · exact make_bools11 w
  · exact make_bools12 w
  · exact make_bools13 w
  · exact make_bools14 w
  · exact make_bools15 w
  · exact make_bools16 w

set_option maxRecDepth 100000 in
set_option maxHeartbeats 8000000 in
theorem laid_any {B : Nat} {pa sa ra aa na : Option Addr} {pn pc sn sc rn rc an ac nn nc : Nat} {x : Book} {i : Nat} {parts at_ knots : List Int} {w : World} (hB : B ≤ w.heap.size) (hx : BookAt B w pa pn sa sn x) (hb : bookOk x = true)
    (hi : i < x.planks.length) (hr : IntsAt w.heap.size w ra rn parts) (ha : IntsAt w.heap.size w aa an at_) (hn : IntsAt w.heap.size w na nn knots) (hp : ∀ k, k < parts.length → 0 ≤ gi parts k ∧ gi parts k < x.parts.length) (h5 : parts.length ≤ 5) :
    Calls Try.prog 41 #[.agg #[.slice pa pn pc, .slice sa sn sc], .int .i64 i, .slice ra rn rc, .slice aa an ac, .slice na nn nc] w fun e w' => e = .returned (.bool (laidB x i parts at_ knots)) ∧ Below w.heap.size w w' := by
  have hG := Lib.hid (good_of hb)
  have hpl := hx.planks.len
  have hsl := Lib.hid hx.parts.len
  have hrl := Lib.hid hr.len
  have hal := Lib.hid ha.len
  have has := ha.small
  have hrn : rn ≤ 5 := by rw [← hr.len]; exact h5
  obtain ⟨R, hR⟩ : ∃ R, R = laidB x i parts at_ knots := ⟨_, rfl⟩
  rw [← hR]
  have hR' := Lib.hid hR
  clear hR
  obtain ⟨W0, hW0⟩ : ∃ W0, W0 = w.alloc (.cells #[.slice pa pn pc, .slice sa sn sc] 25) := ⟨_, rfl⟩
  have hb0 : Below w.heap.size w W0 := by rw [hW0]; exact (Below.refl _ _).alloc (Nat.le_refl _) _
  have hk0 : Blk W0 w.heap.size #[.slice pa pn pc, .slice sa sn sc] := by rw [hW0]; exact Blk.new w _ _
  have hz0 : W0.heap.size = w.heap.size + 1 := by rw [hW0]; simp
  by_cases hlen : an = rn
  case neg =>
    have hF : Hid (R = false) := Lib.hid (by rw [hR'.out]; unfold laidB; rw [hal.out, hrl.out, decide_eq_false hlen]; rfl)
    have hne : ((an : Int) != (rn : Int)) = true := by simp; omega
    clear hx hr ha hn hpl hz0
    go_enter Try.func41, Try.ntmps41
    replace hW0 := hW0.symm
    go_wp2
    go_ret
    exact ⟨ret_bool hF.out.symm, hb0⟩
  subst hlen
  have hip : i < pn := by omega
  obtain ⟨pb, po, rfl, hpB, hpc⟩ := hx.planks.get i hip
  obtain ⟨kv, _, c0, _, _⟩ := hpc i hip
  clear hpc
  have hgw := hG.out.wood i hi
  obtain ⟨L, hL⟩ : ∃ L : Nat, (gw x.planks i).long = L := ⟨(gw x.planks i).long.toNat, by omega⟩
  rw [hL] at hgw c0
  obtain ⟨gL1, gL2, _⟩ := hgw
  have hL16 : L ≤ 16 := by omega
  have hRe : Hid (R = allB parts.length (okK x L parts at_ knots)) := Lib.hid (by rw [hR'.out]; unfold laidB; rw [hal.out, hrl.out, decide_eq_true rfl, hL]; rfl)
  have d0 := (bcells hb0 pb (po + i * 2) (by omega)).trans c0
  have q0 : W0.cell? ⟨w.heap.size, 0, none⟩ = some (.slice (some ⟨pb, po, none⟩) pn pc) := hk0.cell
  have hne : ((an : Int) != (an : Int)) = false := by simp
  have mk := make_bools (L := L) hL16
  have hS0 := Lib.hid hx.parts
  have hr0 := Lib.hid hr
  have ha0 := Lib.hid ha
  have hn0 := Lib.hid hn
  have hz0' := Lib.hid hz0
  have hp' := Lib.hid hp
  have lp : pb < W0.heap.size := by omega
  have l0 : w.heap.size < W0.heap.size := by omega
  clear hx hr ha hn hz0 c0 hL hp
  go_enter Try.func41, Try.ntmps41
  replace hW0 := hW0.symm
  go_wp2_with (fail)
  clear hW0 mk hne
  obtain ⟨W1, hW1⟩ : ∃ W1, W1 = W0.alloc (.cells (rowB L fun _ => false) 4) := ⟨_, rfl⟩
  obtain ⟨bT, hbT⟩ : ∃ bT, bT = W0.heap.size := ⟨_, rfl⟩
  have hb1 : Below w.heap.size w W1 := by rw [hW1]; exact hb0.alloc (by omega) _
  have hT1 : Blk W1 bT (rowB L fun _ => false) := by rw [hW1, hbT]; exact Blk.new W0 _ _
  have hk1 : Blk W1 w.heap.size #[.slice (some ⟨pb, po, none⟩) pn pc, .slice sa sn sc] := by rw [hW1]; exact hk0.alloc _
  have lT : w.heap.size < bT := by omega
  have lT1 : bT < W1.heap.size := hT1.lt
  rw [← hbT, ← hW1]
  clear hW1 hbT hb0 hk0 d0 q0 lp l0 hz0'
  go_loopw [12] (fun v wr => ∃ k : Nat, k ≤ an ∧ v = .int .i64 k ∧ Hid (allB k (okK x L parts at_ knots) = true) ∧ Blk wr bT (rowB L (takenU x parts at_ k)) ∧ SameBut (fun i => i = bT) W1 wr) (fun v _ => an - (intOf v).toNat)
  case atStart => exact ⟨0, by omega, rfl, rfl, hT1, SameBut.refl _ _⟩
  case round =>
    obtain ⟨k, hk, rfl, hall, hTk, hsk⟩ := hrel
    by_cases hlt : k < an
    · obtain ⟨rb, ro, rfl, hrB, hrc⟩ := hr0.out.get k hlt
      obtain ⟨g1, g1i⟩ := hrc k hlt
      obtain ⟨ab, ao, rfl, haB, hac⟩ := ha0.out.get k hlt
      obtain ⟨g2, g2i⟩ := hac k hlt
      clear hrc hac
      have hpk := hp'.out k (by rw [hrl.out]; exact hlt)
      obtain ⟨p, hpe⟩ : ∃ p : Nat, gi parts k = p := ⟨(gi parts k).toNat, by omega⟩
      have hps : p < sn := by rw [← hsl.out]; omega
      have hSk : Hid (partK x parts k = gs x.parts p) := Lib.hid (by unfold partK; rw [hpe]; rfl)
      rw [hpe] at g1
      clear hpk hpe g1i
      obtain ⟨sb, so, rfl, hsB, hsc⟩ := hS0.out.get p hps
      obtain ⟨jv, hjv, e0, e1, e2, _⟩ := hsc p hps
      obtain ⟨ja, jn, jc, rfl, hjs⟩ := hjv
      clear hsc
      have hgs := hG.out.shape p (by rw [hsl.out]; exact hps)
      have hJ := hG.out.joint p (by rw [hsl.out]; exact hps)
      obtain ⟨S, hS⟩ : ∃ S, S = gs x.parts p := ⟨_, rfl⟩
      rw [← hS] at hSk e0 e2 hjs hgs hJ
      obtain ⟨A, hA⟩ : ∃ A, A = gi at_ k := ⟨_, rfl⟩
      rw [← hA] at g2 g2i
      obtain ⟨Lk, hLk⟩ : ∃ Lk, S.long = Lk := ⟨_, rfl⟩
      rw [hLk] at hgs e0
      obtain ⟨hLk1, hLk12', _⟩ := hgs
      have hLk12 : S.long ≤ 12 := by rw [hLk]; exact hLk12'
      have hA' := Lib.hid hA
      have hLk' := Lib.hid hLk
      have hJ' := Lib.hid hJ
      clear hS hA hLk hJ
      have hr1 : SameBut (fun i => w.heap.size ≤ i) w wr := (SameBut.of_below hb1 (Nat.le_refl _)).trans (hsk.mono (fun i (h : i = bT) => by show w.heap.size ≤ i; omega))
      have hkr := hk1.same hsk (by omega)
      have f1 := (hr1.cell (o := ro + k) hrB (by omega)).trans g1
      have f2 := fun w' (h : SameBut (fun i => w.heap.size ≤ i) w w') => (h.cell (o := ao + k) haB (by omega)).trans g2
      have f2' := Lib.hid f2
      clear f2
      have f3 := (hr1.cell (o := so + p * 3) (by omega) (by omega)).trans e0
      have f4 := (hr1.cell (o := so + p * 3 + 1) (by omega) (by omega)).trans e1
      have f5 := (hr1.cell (o := so + p * 3 + 2) (by omega) (by omega)).trans e2
      have f6 : wr.cell? ⟨w.heap.size, 1, none⟩ = some (.slice (some ⟨sb, so, none⟩) sn sc) := hkr.cell
      have hzr := hsk.size
      have m1 : rb < wr.heap.size := by omega
      have m2 : sb < wr.heap.size := by omega
      have m3 : w.heap.size < wr.heap.size := by omega
      have hpi : (p : Int) < sn := by omega
      have hki : (k : Int) < an := by omega
      have dk : decide ((k : Int) < an) = true := decide_eq_true hki
      clear g1 g2 e0 e1 e2
      go_upto_region 7 with fail
      go_cut [13] (fun s wx => s = .pointer (some ⟨wr.heap.size, 0, none⟩) ∧ Blk wx wr.heap.size #[.int .i64 Lk, .slice ja jn jc, .bool S.turns] ∧ Below wr.heap.size wr wx)
      case first =>
        go_region
        all_goals
          go_wp2_with fail
          go_meet
          exact ⟨rfl, (Blk.new wr _ _).drew, ((Below.refl _ _).alloc (Nat.le_refl _) _).drew⟩
      case rest =>
      obtain ⟨rfl, hX7, hb7⟩ := hcut
      obtain ⟨W7, hW7⟩ : ∃ W7, W7 = wc := ⟨_, rfl⟩
      rw [← hW7] at hX7 hb7 ⊢
      obtain ⟨bX, hbX⟩ : ∃ bX, bX = wr.heap.size := ⟨_, rfl⟩
      rw [← hbX] at hX7 hb7 hzr m1 m2 m3 ⊢
      have hT7 : Blk W7 bT (rowB L (takenU x parts at_ k)) := hTk.below hb7 (by omega)
      have hr7 : SameBut (fun i => w.heap.size ≤ i) w W7 := hr1.trans (SameBut.of_below hb7 (by omega))
      have hs7 : SameBut (fun i => i = bT) W1 W7 := hsk.trans (SameBut.of_below hb7 (by omega))
      have hz7 : bX < W7.heap.size := hX7.lt
      have hjs7 := Lib.hid (hjs.keep (w' := W7) (Nat.le_refl _) (fun b o h => hr7.cell (by omega) (by omega)))
      have hkn7 := Lib.hid (hn0.out.keep (w' := W7) (Nat.le_refl _) (fun b o h => hr7.cell h (by omega)))
      have f2 := f2'.out W7 hr7
      have f7 : W7.cell? ⟨bX, 0, none⟩ = some (.int .i64 Lk) := hX7.cell
      have hzz := hr7.size
      have hXw : ∀ w', SameBut (fun _ => False) W7 w' → w'.cell? ⟨ab, ao + k, none⟩ = some (.int .i64 A) ∧ w'.cell? ⟨bX, 0, none⟩ = some (.int .i64 Lk) ∧ w'.cell? ⟨bX, 1, none⟩ = some (.slice ja jn jc) ∧ w'.cell? ⟨bX, 2, none⟩ = some (.bool S.turns) := fun w' h =>
        ⟨f2'.out w' (hr7.trans (h.mono (fun _ h => h.elim))), (hX7.same h (fun e => e)).cell, (hX7.same h (fun e => e)).cell, (hX7.same h (fun e => e)).cell⟩
      have hread := Lib.hid hXw
      have hX7' := Lib.hid hX7
      clear hXw hW7 hbX f1 f3 f4 f5 f6 hb7 hX7
      obtain ⟨In, hIn⟩ : ∃ In, withinB A 0 (L - Lk) = In := ⟨_, rfl⟩
      obtain ⟨c1, hc1⟩ : ∃ c1, clearB S A false knots = c1 := ⟨_, rfl⟩
      obtain ⟨c2, hc2⟩ : ∃ c2, clearB S A true knots = c2 := ⟨_, rfl⟩
      obtain ⟨T, hT⟩ : ∃ T, S.turns = T := ⟨_, rfl⟩
      have hBad : Hid (badK x L parts at_ knots k = !(In && (c1 || (T && c2)))) := Lib.hid (by unfold badK; rw [hSk.out, ← hA'.out, hLk'.out, hIn, hc1, hc2, hT])
      obtain ⟨Bad, hBd⟩ : ∃ Bad, Bad = badK x L parts at_ knots k := ⟨_, rfl⟩
      rw [← hBd] at hBad
      have hBd' := Lib.hid hBd
      have hin : Hid (In = true → 0 ≤ A ∧ A + Lk ≤ L) := Lib.hid (fun h => by rw [h] at hIn; unfold withinB at hIn; simp only [Bool.and_eq_true, decide_eq_true_eq] at hIn; omega)
      have hIn' := Lib.hid hIn
      have hcfalse := Lib.hid hc1
      have hctrue := Lib.hid hc2
      clear hIn hc1 hc2 hBd
      have e1 : IntKind.i64.wrap ((L : Int) - Lk) = L - Lk := IntWalk.i64_in _ (by omega)
      go_upto_region 8 with fail
      go_cut [75] (fun s wx => s = .bool Bad ∧ Below W7.heap.size W7 wx)
      case first =>
        have hO := open_wide
        have hF := hO.fn
        have hd := hO.depth
        have hS0 : SameBut (fun _ => False) W7 W7.drew := (SameBut.refl _ _).drew
        rw [hT] at hread
        cases In with
        | false =>
          refine region_planW (fun w' => SameBut (fun _ => False) W7 w') [(0, true), (1, true), (2, true), (3, true), (4, true), (5, true), (6, true), (7, true), (8, true), (9, false), (10, true), (11, true), (12, true), (13, true), (14, true), (15, true), (16, true), (17, true), (18, true), (19, true), (20, true), (21, true), (22, true), (23, true), (24, true), (25, true), (26, true), (27, true), (28, true), (29, true), (30, true), (31, true), (32, true), (33, true), (34, true)] (by kernel_rfl) (by kernel_rfl) (by kernel_rfl) (by decide) (by kernel_rfl) ?_
          iterate 9
            (refine plan_take ?_ rfl hS0 (by rfl) ?_ ?_
             rotate_left
             · intro w' hw'
               obtain ⟨q1, q2, q3, q4⟩ := hread.out w' hw'
               go_simp
               with_reducible rfl
             simp only [Act.put, List.setIfInBounds_toArray, List.set_cons_zero, List.set_cons_succ])
          refine plan_one rfl (by rfl) (fun K hK => ?_)
          go_simp
          refine (hO.calls (In_any A 0 (L - Lk) _)).mono ?_
          rintro e w5 ⟨rfl, rfl⟩
          rw [hIn'.out]
          refine hK _ _ hS0 ?_
          clear hK K
          iterate 2
            (refine plan_take ?_ rfl hS0 (by rfl) ?_ ?_
             rotate_left
             · intro w' hw'
               obtain ⟨q1, q2, q3, q4⟩ := hread.out w' hw'
               go_simp
               with_reducible rfl
             simp only [Act.put, List.setIfInBounds_toArray, List.set_cons_zero, List.set_cons_succ])
          iterate 22
            (refine plan_skip rfl hS0 (by rfl) ?_
             simp only [Act.put, List.setIfInBounds_toArray, List.set_cons_zero, List.set_cons_succ])
          iterate 1
            (refine plan_take ?_ rfl hS0 (by rfl) ?_ ?_
             rotate_left
             · intro w' hw'
               obtain ⟨q1, q2, q3, q4⟩ := hread.out w' hw'
               go_simp
               with_reducible rfl
             simp only [Act.put, List.setIfInBounds_toArray, List.set_cons_zero, List.set_cons_succ])
          unfold planW okN
          go_wp2_with fail
          go_meet
          exact ⟨by rw [hBad.out]; rfl, (hS0.toBelow (Nat.le_refl _) (fun _ h => h.elim))⟩
        | true =>
          cases c1 with
          | true =>
            refine region_planW (fun w' => SameBut (fun _ => False) W7 w') [(0, true), (1, true), (2, true), (3, true), (4, true), (5, true), (6, true), (7, true), (8, true), (9, false), (10, true), (11, true), (12, true), (13, true), (14, true), (15, true), (16, true), (17, true), (18, false), (19, true), (20, true), (21, true), (22, true), (23, true), (24, true), (25, true), (26, true), (27, true), (28, true), (29, true), (30, true), (31, true), (32, true), (33, true), (34, true)] (by kernel_rfl) (by kernel_rfl) (by kernel_rfl) (by decide) (by kernel_rfl) ?_
            iterate 9
              (refine plan_take ?_ rfl hS0 (by rfl) ?_ ?_
               rotate_left
               · intro w' hw'
                 obtain ⟨q1, q2, q3, q4⟩ := hread.out w' hw'
                 go_simp
                 with_reducible rfl
               simp only [Act.put, List.setIfInBounds_toArray, List.set_cons_zero, List.set_cons_succ])
            refine plan_one rfl (by rfl) (fun K hK => ?_)
            go_simp
            refine (hO.calls (In_any A 0 (L - Lk) _)).mono ?_
            rintro e w5 ⟨rfl, rfl⟩
            rw [hIn'.out]
            refine hK _ _ hS0 ?_
            clear hK K
            iterate 2
              (refine plan_take ?_ rfl hS0 (by rfl) ?_ ?_
               rotate_left
               · intro w' hw'
                 obtain ⟨q1, q2, q3, q4⟩ := hread.out w' hw'
                 go_simp
                 with_reducible rfl
               simp only [Act.put, List.setIfInBounds_toArray, List.set_cons_zero, List.set_cons_succ])
            iterate 6
              (refine plan_take ?_ rfl hS0 (by rfl) ?_ ?_
               rotate_left
               · intro w' hw'
                 obtain ⟨q1, q2, q3, q4⟩ := hread.out w' hw'
                 go_simp
                 with_reducible rfl
               simp only [Act.put, List.setIfInBounds_toArray, List.set_cons_zero, List.set_cons_succ])
            refine plan_one rfl (by rfl) (fun K hK => ?_)
            go_simp
            have hjv8 := Lib.hid (hjs7.out.keep (w' := _) (Nat.le_refl _) (fun b o h => (hS0.cell (by omega) (fun e => e))))
            have hkv8 := Lib.hid (hkn7.out.keep (w' := _) (Nat.le_refl _) (fun b o h => (hS0.cell (by omega) (fun e => e))))
            have hcc := clear_any (B := B) (C := w.heap.size) (x := S) (t := A) (tb := T) (turned := false) (c := nc) (by have := hS0.size; omega) (by have := hS0.size; omega) ⟨ja, jn, jc, rfl, hjv8.out⟩ hkv8.out hJ'.out hLk12 (hin.out rfl).1 (by have := (hin.out rfl).2; omega)
            rw [hLk'.out] at hcc
            refine (hO.calls hcc).mono ?_
            clear hcc
            rintro e w8 ⟨rfl, hb8⟩
            rw [hcfalse.out]
            have hS8 : SameBut (fun _ => False) W7 w8 := hS0.below hb8
            refine hK _ _ hS8 ?_
            clear hK K hb8 hjv8 hkv8
            iterate 2
              (refine plan_take ?_ rfl hS8 (by rfl) ?_ ?_
               rotate_left
               · intro w' hw'
                 obtain ⟨q1, q2, q3, q4⟩ := hread.out w' hw'
                 go_simp
                 with_reducible rfl
               simp only [Act.put, List.setIfInBounds_toArray, List.set_cons_zero, List.set_cons_succ])
            iterate 12
              (refine plan_skip rfl hS8 (by rfl) ?_
               simp only [Act.put, List.setIfInBounds_toArray, List.set_cons_zero, List.set_cons_succ])
            iterate 2
              (refine plan_take ?_ rfl hS8 (by rfl) ?_ ?_
               rotate_left
               · intro w' hw'
                 obtain ⟨q1, q2, q3, q4⟩ := hread.out w' hw'
                 go_simp
                 with_reducible rfl
               simp only [Act.put, List.setIfInBounds_toArray, List.set_cons_zero, List.set_cons_succ])
            unfold planW okN
            go_wp2_with fail
            go_meet
            exact ⟨by rw [hBad.out]; rfl, (hS8.toBelow (Nat.le_refl _) (fun _ h => h.elim))⟩
          | false =>
            cases T with
            | false =>
              refine region_planW (fun w' => SameBut (fun _ => False) W7 w') [(0, true), (1, true), (2, true), (3, true), (4, true), (5, true), (6, true), (7, true), (8, true), (9, false), (10, true), (11, true), (12, true), (13, true), (14, true), (15, true), (16, true), (17, true), (18, false), (19, true), (20, true), (21, true), (22, true), (23, true), (24, true), (25, true), (26, true), (27, true), (28, true), (29, true), (30, true), (31, true), (32, true), (33, true), (34, true)] (by kernel_rfl) (by kernel_rfl) (by kernel_rfl) (by decide) (by kernel_rfl) ?_
              iterate 9
                (refine plan_take ?_ rfl hS0 (by rfl) ?_ ?_
                 rotate_left
                 · intro w' hw'
                   obtain ⟨q1, q2, q3, q4⟩ := hread.out w' hw'
                   go_simp
                   with_reducible rfl
                 simp only [Act.put, List.setIfInBounds_toArray, List.set_cons_zero, List.set_cons_succ])
              refine plan_one rfl (by rfl) (fun K hK => ?_)
              go_simp
              refine (hO.calls (In_any A 0 (L - Lk) _)).mono ?_
              rintro e w5 ⟨rfl, rfl⟩
              rw [hIn'.out]
              refine hK _ _ hS0 ?_
              clear hK K
              iterate 2
                (refine plan_take ?_ rfl hS0 (by rfl) ?_ ?_
                 rotate_left
                 · intro w' hw'
                   obtain ⟨q1, q2, q3, q4⟩ := hread.out w' hw'
                   go_simp
                   with_reducible rfl
                 simp only [Act.put, List.setIfInBounds_toArray, List.set_cons_zero, List.set_cons_succ])
              iterate 6
                (refine plan_take ?_ rfl hS0 (by rfl) ?_ ?_
                 rotate_left
                 · intro w' hw'
                   obtain ⟨q1, q2, q3, q4⟩ := hread.out w' hw'
                   go_simp
                   with_reducible rfl
                 simp only [Act.put, List.setIfInBounds_toArray, List.set_cons_zero, List.set_cons_succ])
              refine plan_one rfl (by rfl) (fun K hK => ?_)
              go_simp
              have hjv8 := Lib.hid (hjs7.out.keep (w' := _) (Nat.le_refl _) (fun b o h => (hS0.cell (by omega) (fun e => e))))
              have hkv8 := Lib.hid (hkn7.out.keep (w' := _) (Nat.le_refl _) (fun b o h => (hS0.cell (by omega) (fun e => e))))
              have hcc := clear_any (B := B) (C := w.heap.size) (x := S) (t := A) (tb := false) (turned := false) (c := nc) (by have := hS0.size; omega) (by have := hS0.size; omega) ⟨ja, jn, jc, rfl, hjv8.out⟩ hkv8.out hJ'.out hLk12 (hin.out rfl).1 (by have := (hin.out rfl).2; omega)
              rw [hLk'.out] at hcc
              refine (hO.calls hcc).mono ?_
              clear hcc
              rintro e w8 ⟨rfl, hb8⟩
              rw [hcfalse.out]
              have hS8 : SameBut (fun _ => False) W7 w8 := hS0.below hb8
              refine hK _ _ hS8 ?_
              clear hK K hb8 hjv8 hkv8
              iterate 2
                (refine plan_take ?_ rfl hS8 (by rfl) ?_ ?_
                 rotate_left
                 · intro w' hw'
                   obtain ⟨q1, q2, q3, q4⟩ := hread.out w' hw'
                   go_simp
                   with_reducible rfl
                 simp only [Act.put, List.setIfInBounds_toArray, List.set_cons_zero, List.set_cons_succ])
              iterate 3
                (refine plan_take ?_ rfl hS8 (by rfl) ?_ ?_
                 rotate_left
                 · intro w' hw'
                   obtain ⟨q1, q2, q3, q4⟩ := hread.out w' hw'
                   go_simp
                   with_reducible rfl
                 simp only [Act.put, List.setIfInBounds_toArray, List.set_cons_zero, List.set_cons_succ])
              iterate 7
                (refine plan_skip rfl hS8 (by rfl) ?_
                 simp only [Act.put, List.setIfInBounds_toArray, List.set_cons_zero, List.set_cons_succ])
              iterate 4
                (refine plan_take ?_ rfl hS8 (by rfl) ?_ ?_
                 rotate_left
                 · intro w' hw'
                   obtain ⟨q1, q2, q3, q4⟩ := hread.out w' hw'
                   go_simp
                   with_reducible rfl
                 simp only [Act.put, List.setIfInBounds_toArray, List.set_cons_zero, List.set_cons_succ])
              unfold planW okN
              go_wp2_with fail
              go_meet
              exact ⟨by rw [hBad.out]; rfl, (hS8.toBelow (Nat.le_refl _) (fun _ h => h.elim))⟩
            | true =>
              cases c2
              all_goals
                refine region_planW (fun w' => SameBut (fun _ => False) W7 w') [(0, true), (1, true), (2, true), (3, true), (4, true), (5, true), (6, true), (7, true), (8, true), (9, false), (10, true), (11, true), (12, true), (13, true), (14, true), (15, true), (16, true), (17, true), (18, false), (19, true), (20, true), (21, true), (22, true), (23, true), (24, true), (25, true), (26, true), (27, true), (28, true), (29, true), (30, false), (31, true), (32, true), (33, true), (34, true)] (by kernel_rfl) (by kernel_rfl) (by kernel_rfl) (by decide) (by kernel_rfl) ?_
                iterate 9
                  (refine plan_take ?_ rfl hS0 (by rfl) ?_ ?_
                   rotate_left
                   · intro w' hw'
                     obtain ⟨q1, q2, q3, q4⟩ := hread.out w' hw'
                     go_simp
                     with_reducible rfl
                   simp only [Act.put, List.setIfInBounds_toArray, List.set_cons_zero, List.set_cons_succ])
                refine plan_one rfl (by rfl) (fun K hK => ?_)
                go_simp
                refine (hO.calls (In_any A 0 (L - Lk) _)).mono ?_
                rintro e w5 ⟨rfl, rfl⟩
                rw [hIn'.out]
                refine hK _ _ hS0 ?_
                clear hK K
                iterate 2
                  (refine plan_take ?_ rfl hS0 (by rfl) ?_ ?_
                   rotate_left
                   · intro w' hw'
                     obtain ⟨q1, q2, q3, q4⟩ := hread.out w' hw'
                     go_simp
                     with_reducible rfl
                   simp only [Act.put, List.setIfInBounds_toArray, List.set_cons_zero, List.set_cons_succ])
                iterate 6
                  (refine plan_take ?_ rfl hS0 (by rfl) ?_ ?_
                   rotate_left
                   · intro w' hw'
                     obtain ⟨q1, q2, q3, q4⟩ := hread.out w' hw'
                     go_simp
                     with_reducible rfl
                   simp only [Act.put, List.setIfInBounds_toArray, List.set_cons_zero, List.set_cons_succ])
                refine plan_one rfl (by rfl) (fun K hK => ?_)
                go_simp
                have hjv8 := Lib.hid (hjs7.out.keep (w' := _) (Nat.le_refl _) (fun b o h => (hS0.cell (by omega) (fun e => e))))
                have hkv8 := Lib.hid (hkn7.out.keep (w' := _) (Nat.le_refl _) (fun b o h => (hS0.cell (by omega) (fun e => e))))
                have hcc := clear_any (B := B) (C := w.heap.size) (x := S) (t := A) (tb := true) (turned := false) (c := nc) (by have := hS0.size; omega) (by have := hS0.size; omega) ⟨ja, jn, jc, rfl, hjv8.out⟩ hkv8.out hJ'.out hLk12 (hin.out rfl).1 (by have := (hin.out rfl).2; omega)
                rw [hLk'.out] at hcc
                refine (hO.calls hcc).mono ?_
                clear hcc
                rintro e w8 ⟨rfl, hb8⟩
                rw [hcfalse.out]
                have hS8 : SameBut (fun _ => False) W7 w8 := hS0.below hb8
                refine hK _ _ hS8 ?_
                clear hK K hb8 hjv8 hkv8
                iterate 2
                  (refine plan_take ?_ rfl hS8 (by rfl) ?_ ?_
                   rotate_left
                   · intro w' hw'
                     obtain ⟨q1, q2, q3, q4⟩ := hread.out w' hw'
                     go_simp
                     with_reducible rfl
                   simp only [Act.put, List.setIfInBounds_toArray, List.set_cons_zero, List.set_cons_succ])
                iterate 3
                  (refine plan_take ?_ rfl hS8 (by rfl) ?_ ?_
                   rotate_left
                   · intro w' hw'
                     obtain ⟨q1, q2, q3, q4⟩ := hread.out w' hw'
                     go_simp
                     with_reducible rfl
                   simp only [Act.put, List.setIfInBounds_toArray, List.set_cons_zero, List.set_cons_succ])
                iterate 6
                  (refine plan_take ?_ rfl hS8 (by rfl) ?_ ?_
                   rotate_left
                   · intro w' hw'
                     obtain ⟨q1, q2, q3, q4⟩ := hread.out w' hw'
                     go_simp
                     with_reducible rfl
                   simp only [Act.put, List.setIfInBounds_toArray, List.set_cons_zero, List.set_cons_succ])
                refine plan_one rfl (by rfl) (fun K hK => ?_)
                go_simp
                have hjv9 := Lib.hid (hjs7.out.keep (w' := _) (Nat.le_refl _) (fun b o h => (hS8.cell (by omega) (fun e => e))))
                have hkv9 := Lib.hid (hkn7.out.keep (w' := _) (Nat.le_refl _) (fun b o h => (hS8.cell (by omega) (fun e => e))))
                have hcc := clear_any (B := B) (C := w.heap.size) (x := S) (t := A) (tb := true) (turned := true) (c := nc) (by have := hS8.size; omega) (by have := hS8.size; omega) ⟨ja, jn, jc, rfl, hjv9.out⟩ hkv9.out hJ'.out hLk12 (hin.out rfl).1 (by have := (hin.out rfl).2; omega)
                rw [hLk'.out] at hcc
                refine (hO.calls hcc).mono ?_
                clear hcc
                rintro e w9 ⟨rfl, hb9⟩
                rw [hctrue.out]
                have hS9 : SameBut (fun _ => False) W7 w9 := hS8.below hb9
                refine hK _ _ hS9 ?_
                clear hK K hb9 hjv9 hkv9
                iterate 4
                  (refine plan_take ?_ rfl hS9 (by rfl) ?_ ?_
                   rotate_left
                   · intro w' hw'
                     obtain ⟨q1, q2, q3, q4⟩ := hread.out w' hw'
                     go_simp
                     with_reducible rfl
                   simp only [Act.put, List.setIfInBounds_toArray, List.set_cons_zero, List.set_cons_succ])
                unfold planW okN
                go_wp2_with fail
                go_meet
                exact ⟨by rw [hBad.out]; rfl, (hS9.toBelow (Nat.le_refl _) (fun _ h => h.elim))⟩
      case rest =>
      obtain ⟨rfl, hb8⟩ := hcut
      obtain ⟨W8, hW8⟩ : ∃ W8, W8 = wc := ⟨_, rfl⟩
      rw [← hW8] at hb8 ⊢
      clear hW8 f2 f7 e1
      have hX8 := hX7'.out.below hb8 hz7
      have hT8 := hT7.below hb8 (by omega)
      have hs8 : SameBut (fun i => i = bT) W1 W8 := hs7.trans (SameBut.of_below hb8 (Nat.le_refl _))
      have hr8 : SameBut (fun i => w.heap.size ≤ i) w W8 := hr7.trans (SameBut.of_below hb8 (Nat.le_refl _))
      have hbw8 : Below w.heap.size w W8 := hr8.toBelow (Nat.le_refl _) (fun _ h => h)
      have hz8 := hb8.size
      cases Bad with
      | true =>
        have hF : Hid (R = false) := Lib.hid (by rw [hRe.out]; exact allB_false (i := k) (by rw [hrl.out]; exact hlt) (by unfold okK; rw [← hBd'.out]; rfl))
        go_wp2
        go_ret
        exact ⟨ret_bool hF.out.symm, hbw8⟩
      | false =>
        have hInT : In = true := by
          have := hBad.out
          revert this
          cases In <;> simp
        obtain ⟨hA0, hA1⟩ := hin.out hInT
        obtain ⟨An, rfl⟩ := Int.eq_ofNat_of_zero_le hA0
        obtain ⟨Ln, rfl⟩ := Int.eq_ofNat_of_zero_le (show (0 : Int) ≤ Lk by omega)
        have hAL : An + Ln ≤ L := by omega
        have hLn : Ln ≤ 12 := by omega
        clear hInT hin hcfalse hctrue hread hX7' hBad
        have a0 : W8.cell? ⟨bX, 0, none⟩ = some (.int .i64 (Ln : Int)) := hX8.cell
        go_wp2_with (fail)
        clear a0
        go_loopw [14] (fun v wr => ∃ j : Nat, j ≤ Ln ∧ v = .int .i64 j ∧ Hid (freeK x parts at_ k j = true) ∧ Blk wr bT (rowB L (fun m => takenU x parts at_ k m || decide (An ≤ m ∧ m < An + j))) ∧ SameBut (fun i => i = bT) W8 wr) (fun v _ => Ln - (intOf v).toNat)
        case atStart =>
          refine ⟨0, by omega, rfl, rfl, ?_, SameBut.refl _ _⟩
          rw [rowB_congr (g := takenU x parts at_ k) (fun m _ => by rw [decide_eq_false (by omega), Bool.or_false])]
          exact hT8
        case round =>
          obtain ⟨j, hj, rfl, hfree, hTj, hsj⟩ := hrel
          have hXj := hX8.same hsj (by omega)
          have a0 : wr.cell? ⟨bX, 0, none⟩ = some (.int .i64 (Ln : Int)) := hXj.cell
          have a1 := f2'.out wr (hr8.trans (hsj.mono (fun i (h : i = bT) => by show w.heap.size ≤ i; omega)))
          have lXr : bX < wr.heap.size := hXj.lt
          have lTr : bT < wr.heap.size := hTj.lt
          by_cases hjl : j < Ln
          · have dj : decide ((j : Int) < Ln) = true := decide_eq_true (by omega)
            obtain ⟨q, hq⟩ : ∃ q : Nat, (An : Int) + (j : Int) = q := ⟨An + j, by omega⟩
            have hqv : q = An + j := by omega
            have hqL : q < L := by omega
            have hqL2 : (q : Int) < L := by omega
            have eq1 : IntKind.i64.wrap (q : Int) = q := IntWalk.i64_in _ (by omega)
            have tV : wr.cell? ⟨bT, q, none⟩ = some (.bool (takenU x parts at_ k q)) := by
              rw [hTj.cell, rowB_get L _ hqL, decide_eq_false (by omega), Bool.or_false]
            have tf : wr.frozen? ⟨bT, q, none⟩ = false := hTj.frozen
            obtain ⟨V, hV⟩ : ∃ V, V = takenU x parts at_ k q := ⟨_, rfl⟩
            rw [← hV] at tV
            have hV' := Lib.hid hV
            have hqv' := Lib.hid hqv
            clear hV hqv
            cases V with
            | true =>
              have hF : Hid (R = false) := Lib.hid (by
                rw [hRe.out]
                refine allB_false (i := k) (by rw [hrl.out]; exact hlt) ?_
                unfold okK
                rw [← hBd'.out, hSk.out, hLk'.out]
                simp only [Bool.not_false, Bool.true_and]
                unfold freeK
                refine allB_false (i := j) (by simpa using hjl) ?_
                rw [← hA'.out]
                simp only [Int.toNat_natCast]
                rw [← hqv'.out, ← hV'.out]; rfl)
              go_wp2_with (fail)
              go_ret
              exact ⟨ret_bool hF.out.symm, hbw8.trans (hsj.toBelow (by omega) (fun i h => by omega))⟩
            | false =>
              have hfr : Hid (freeK x parts at_ k (j + 1) = true) := Lib.hid (by
                unfold freeK
                refine allB_succ hfree.out ?_
                rw [← hA'.out]
                simp only [Int.toNat_natCast]
                rw [← hqv'.out, ← hV'.out]; rfl)
              have hTn := hTj.setAt (i := q) (.bool true)
              rw [rowB_set L _ hqL] at hTn
              have hTn' := Lib.hid hTn
              clear hTn
              go_wp2_with (fail)
              go_roundw
              case rel =>
                refine ⟨j + 1, by omega, by go_num, hfr.out, ?_, hsj.setCell (M := fun i => i = bT) (.inl rfl) _⟩
                have := hTn'.out
                rw [rowB_congr (g := fun m => takenU x parts at_ k m || decide (An ≤ m ∧ m < An + (j + 1))) (fun m _ => by
                  unfold upd
                  by_cases e : m = q
                  · rw [if_pos e, decide_eq_true (by have := hqv'.out; omega), Bool.or_true]
                  · rw [if_neg e]
                    show (takenU x parts at_ k m || decide (An ≤ m ∧ m < An + j)) = _
                    congr 1; rw [decide_eq_decide]; have := hqv'.out; omega)] at this
                exact this
              case measure => simp [intOf]; omega
          · obtain rfl : j = Ln := by omega
            have hok : Hid (allB (k + 1) (okK x L parts at_ knots) = true) := Lib.hid (allB_succ hall.out (by
              unfold okK
              rw [← hBd'.out, hSk.out, hLk'.out]
              simp only [Bool.not_false, Bool.true_and, Int.toNat_natCast]
              exact hfree.out))
            have hTk1 : Hid (Blk wr bT (rowB L (takenU x parts at_ (k + 1)))) := Lib.hid (by
              rw [rowB_congr (g := fun m => takenU x parts at_ k m || decide (An ≤ m ∧ m < An + j)) (fun m _ => by
                show (takenU x parts at_ k m || decide (gi at_ k ≤ m ∧ (m : Int) < gi at_ k + (partK x parts k).long)) = _
                congr 1
                rw [hSk.out, hLk'.out, ← hA'.out, decide_eq_decide]; omega)]
              exact hTj)
            go_wp2_with (fail)
            go_roundw
            case rel => exact ⟨k + 1, by omega, by go_num, hok.out, hTk1.out, hs8.trans hsj⟩
            case measure => simp [intOf]; omega
    · obtain rfl : k = an := by omega
      have hT : Hid (R = true) := Lib.hid (by rw [hRe.out, hrl.out]; exact hall.out)
      go_wp2
      go_ret
      exact ⟨ret_bool hT.out.symm, hb1.trans (hsk.toBelow (by have := hb1.size; omega) (fun i h => by omega))⟩
end Go.Proofs.Ytbbolibkheelmaa
