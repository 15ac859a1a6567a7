/- PlankTurn returns true for every book and both numbers; no condition. Walks: PlankTurn. -/
import Derived.Test.YtilbkmogmlcpaaaPtn11
import Derived.Test.YtilbkmogmlcpaaaGa15
import Derived.Test.YtilbkmogmlcpaaaPtn01
namespace Go.Proofs.Ytilbkmogmlcpaaa
open Go.RowKit Go.Shelf

attribute [local go_sem ↓] append_alias

set_option maxRecDepth 100000 in
set_option maxHeartbeats 4000000 in
theorem turn_law {B : Nat} {pa sa : Option Addr} {pn pc sn sc : Nat} {x : Book} {n0 n1 : Int} {w : World} (hB : B ≤ w.heap.size) (hx : BookAt B w pa pn sa sn x) :
    Calls Try.prog 14 #[.agg #[.slice pa pn pc, .slice sa sn sc], .agg #[.int .i64 n0, .int .i64 n1]] w fun e w' => e = .returned (.bool true) ∧ Below w.heap.size w w' := by
  have hpn := Lib.hid hx.planks.len
  have hsn := Lib.hid hx.parts.len
  have hps := hx.planks.small
  have hss := hx.parts.small
  obtain ⟨w0, hw0⟩ : ∃ w0, w0 = (w.alloc (.cells #[.slice pa pn pc, .slice sa sn sc] 25)).alloc (.cells #[.int .i64 n0, .int .i64 n1] 69) := ⟨_, rfl⟩
  have hbw0 : Below w.heap.size w w0 := by rw [hw0]; exact ((Below.refl _ _).alloc (Nat.le_refl _) _).alloc (by simp) _
  have hk : Blk w0 w.heap.size #[.slice pa pn pc, .slice sa sn sc] := by rw [hw0]; exact (Blk.new w _ _).alloc _
  have hn : Blk w0 (w.heap.size + 1) #[.int .i64 n0, .int .i64 n1] := by
    rw [hw0]
    have := Blk.new (w.alloc (.cells #[.slice pa pn pc, .slice sa sn sc] 25)) #[.int .i64 n0, .int .i64 n1] 69
    rw [World.size_alloc] at this
    exact this
  have l0 : w.heap.size + 1 < w0.heap.size := hn.lt
  have hx0 := Lib.hid (hx.keep (w' := w0) (Nat.le_refl _) (fun b o h => bcells hbw0 b o (by omega)))
  have hBw : B ≤ w0.heap.size := by omega
  clear hx
  have q0 : w0.cell? ⟨w.heap.size, 0, none⟩ = some (.slice pa pn pc) := hk.cell
  have q1 : w0.cell? ⟨w.heap.size, 1, none⟩ = some (.slice sa sn sc) := hk.cell
  go_enter Try.func14, Try.ntmps14
  replace hw0 := hw0.symm
  go_wp2_with fail
  clear hw0
  refine (sound_any (B := B) hBw hx0.out).mono ?_
  rintro e w1 ⟨rfl, hb1⟩
  clear q0 q1
  replace hk := hk.below hb1 hk.lt
  replace hn := hn.below hb1 hn.lt
  replace hx0 := Lib.hid (hx0.out.keep (w' := w1) (Nat.le_refl _) (fun b o h => bcells hb1 b o (by omega)))
  replace hBw : B ≤ w1.heap.size := Nat.le_trans hBw hb1.size
  have hbw1 := hbw0.trans (hb1.mono hbw0.size)
  clear hbw0 hb1
  rcases Bool.eq_false_or_eq_true (bookOk x) with hb | hb
  case inr =>
    rw [hb]
    clear hb
    go_wp2_with fail
    refine (sawn_any _).mono ?_
    rintro e w3 ⟨rfl, hb3⟩
    go_wp2_with fail
    go_ret
    exact ⟨rfl, hbw1.trans (hb3.mono hbw1.size)⟩
  rw [hb]
  have hG := Lib.hid (good_of hb)
  have hb' := Lib.hid hb
  have hp1 := hG.out.planks
  have hp2 := hG.out.parts
  rw [hpn.out] at hp1
  rw [hsn.out] at hp2
  obtain ⟨p1, p2⟩ := hp1
  obtain ⟨s1, s2⟩ := hp2
  clear hb
  have q0 : w1.cell? ⟨w.heap.size, 0, none⟩ = some (.slice pa pn pc) := hk.cell
  have q1 : w1.cell? ⟨w.heap.size, 1, none⟩ = some (.slice sa sn sc) := hk.cell
  go_upto_region 3 with fail
  go_cut [5] (fun s wx => s = .pointer (some ⟨w1.heap.size, 0, none⟩) ∧ Blk wx w1.heap.size #[.slice pa pn pc, .slice sa sn sc] ∧ Below w1.heap.size w1 wx)
  case first =>
    go_wp2_with fail
    go_meet
    exact ⟨rfl, Blk.new w1 _ _, (Below.refl _ _).alloc (Nat.le_refl _) _⟩
  case rest =>
  obtain ⟨rfl, hX, hb2⟩ := hcut
  obtain ⟨w2, hw2⟩ : ∃ w2, w2 = wc := ⟨_, rfl⟩
  rw [← hw2] at hX hb2 ⊢
  clear hw2
  have hk2 := hk.below hb2 hk.lt
  have hn2 := hn.below hb2 hn.lt
  have hx2 := hx0.out.keep (w' := w2) (Nat.le_refl _) (fun b o h => bcells hb2 b o (by omega))
  have hXl := hX.lt
  have hz2 := hb2.size
  have lk := hk.lt
  have ln := hn.lt
  clear q0 q1
  obtain ⟨pb, po, kv, rfl, hpB, hkv⟩ := woods_cells hx2.planks (by omega)
  obtain ⟨sb, so, jv, rfl, hsB, hjv⟩ := shapes_cells hx2.parts (by omega)
  have hkv' := Lib.hid hkv
  have hjv' := Lib.hid hjv
  have hwoods := Lib.hid hx2.planks
  clear hkv hjv hx2
  have q1 : w2.cell? ⟨w.heap.size, 1, none⟩ = some (.slice (some ⟨sb, so, none⟩) sn sc) := hk2.cell
  go_upto_region 4 with fail
  go_cut [5] (fun s wx => s = .pointer (some ⟨w1.heap.size, 0, none⟩) ∧ ∃ (g c : Nat) (cur : Array Value), w2.heap.size ≤ g ∧ Blk wx w1.heap.size #[.slice (some ⟨pb, po, none⟩) pn pc, .slice (some ⟨g, 0, none⟩) sn c] ∧ Blk wx g cur ∧
    (∀ (j : Nat) (u : Value), ((List.range sn).flatMap (shapeC x jv))[j]? = some u → cur[j]? = some u) ∧ SameBut (fun b => b = w1.heap.size ∨ w2.heap.size ≤ b) w2 wx)
  case first =>
    have ho : (w2.alloc (.cells #[] 50)).ownsRow w2.heap.size 50 3 (.slice (some ⟨w2.heap.size, 0, none⟩) 0 0) 0 [] := World.ownsRow_lit (base := w2.heap.size) (e := 50) (size := 3) w2 #[] 0 (Nat.le_refl _) (by decide) rfl
    obtain ⟨v', w7, hap, hown7, hs7⟩ := grow_many (b := sb) (o := so) (m := sn) (c := sc) (news := (List.range sn).flatMap (shapeC x jv)) shapeInfo shapesUnder rfl (by decide) (by decide) ho (flat_len (fun _ => rfl)) (flat_cell (m := 3) (fun _ => rfl) (by decide) (fun j hj l hl => by
        have hjvj := hjv'.out j hj
        rw [← Nat.add_assoc]
        rw [cell_alloc_lt _ (show sb < w2.heap.size by omega)]
        exact three_cases (P := fun l => w2.cell? ⟨sb, so + j * 3 + l, none⟩ = (shapeC x jv j)[l]?) hl hjvj.2.1 hjvj.2.2.1 hjvj.2.2.2.1))
      (fun u hu => by
        rw [List.mem_flatMap] at hu
        obtain ⟨j, hj, hu⟩ := hu
        obtain ⟨⟨ja, jn, jc, je, _⟩, _⟩ := hjv'.out j (List.mem_range.1 hj)
        unfold shapeC at hu
        rw [je] at hu
        simp at hu
        rcases hu with rfl | rfl | rfl <;> rfl) (by omega) (by simp)
    rw [Nat.zero_add, List.nil_append] at hown7
    obtain ⟨g, c, cur, rfl, hg1, hg2, hgc, hgk, hcur⟩ := own_blk hown7 (by omega)
    have hs7' : SameBut (fun b => w2.heap.size ≤ b) w2 w7 := ((SameBut.refl _ w2).alloc _).trans hs7
    have hX7 := hX.same hs7' (by omega)
    have x0 : w7.cell? ⟨w1.heap.size, 1, none⟩ = some (.slice (some ⟨sb, so, none⟩) sn sc) := hX7.cell
    have xf : w7.frozen? ⟨w1.heap.size, 1, none⟩ = false := hX7.frozen
    have hcur' := Lib.hid hcur
    have lW : w.heap.size < w2.heap.size := by omega
    clear hown7 ho hcur
    go_wp2_with fail
    go_meet
    exact ⟨rfl, g, c, cur, hg1, hX7.setAt (i := 1) _, hgk.setOther (by omega) _, hcur'.out, (hs7'.mono (fun b h => .inr h)).setCell (M := fun b => b = w1.heap.size ∨ w2.heap.size ≤ b) (.inl (.inl rfl)) _⟩
  case rest =>
  obtain ⟨rfl, g, c, cur, hg1, hX3, hG3, hcur, hs3⟩ := hcut
  obtain ⟨w3, hw3⟩ : ∃ w3, w3 = wc := ⟨_, rfl⟩
  rw [← hw3] at hX3 hG3 hs3 ⊢
  clear hw3
  have hz3 := hs3.size
  have hk3 := hk2.same hs3 (by omega)
  have hn3 := hn2.same hs3 (by omega)
  have hX3l := hX3.lt
  have hG3l := hG3.lt
  have hcs : Hid (∀ j, j < sn → cur[j * 3]? = some (.int .i64 (gs x.parts j).long) ∧ cur[j * 3 + 1]? = some (jv j) ∧ cur[j * 3 + 2]? = some (.bool (if j < 0 then true else (gs x.parts j).turns))) := Lib.hid (fun j hj => by
    have e : ∀ l, l < 3 → ((List.range sn).flatMap (shapeC x jv))[j * 3 + l]? = (shapeC x jv j)[l]? := fun l hl => by
      rw [flat_get (L := List.range sn) (f := shapeC x jv) (m := 3) (fun _ => rfl) (by simpa using hj) hl, List.getElem_range]
    exact ⟨hcur _ _ (e 0 (by decide)), hcur _ _ (e 1 (by decide)), by rw [if_neg (by omega)]; exact hcur _ _ (e 2 (by decide))⟩)
  clear hcur q1
  go_wp2_with fail
  go_loopw [6] (fun v wr => ∃ (k : Nat) (cu : Array Value), k ≤ sn ∧ v = .int .i64 k ∧ Blk wr g cu ∧ Hid (∀ j, j < sn → cu[j * 3]? = some (.int .i64 (gs x.parts j).long) ∧ cu[j * 3 + 1]? = some (jv j) ∧ cu[j * 3 + 2]? = some (.bool (if j < k then true else (gs x.parts j).turns))) ∧ SameBut (fun b => b = g) w3 wr) (fun v _ => sn - (intOf v).toNat)
  case atStart => exact ⟨0, cur, by omega, rfl, hG3, hcs, SameBut.refl _ _⟩
  case round =>
    obtain ⟨k, cu, hk', rfl, hGr, hcu, hsr⟩ := hrel
    obtain ⟨w4, rfl⟩ : ∃ w4 : World, w4 = wr := ⟨_, rfl⟩
    have hX4 := hX3.same hsr (by omega)
    have x0 : w4.cell? ⟨w1.heap.size, 1, none⟩ = some (.slice (some ⟨g, 0, none⟩) sn c) := hX4.cell
    by_cases hlt : k < sn
    · have hki : (k : Int) < sn := by omega
      have dk : decide ((k : Int) < sn) = true := decide_eq_true hki
      obtain ⟨T, hT⟩ : ∃ T, T = (if k < k then true else (gs x.parts k).turns) := ⟨_, rfl⟩
      have hcuk := (hcu.out k hlt).2.2
      rw [← hT] at hcuk
      have y0 : w4.cell? ⟨g, 0 + k * 3 + 2, none⟩ = some (.bool T) := by rw [Nat.zero_add]; exact hGr.cell.trans hcuk
      have y1 : w4.cell? ⟨g, k * 3 + 2, none⟩ = some (.bool T) := hGr.cell.trans hcuk
      have yf0 : w4.frozen? ⟨g, 0 + k * 3 + 2, none⟩ = false := hGr.frozen
      have yf1 : w4.frozen? ⟨g, k * 3 + 2, none⟩ = false := hGr.frozen
      clear hcuk hT
      go_wp2_with fail
      go_roundw
      case rel => exact ⟨k + 1, cu.setIfInBounds (k * 3 + 2) (.bool true), by omega, by go_num, hGr.setAt (i := k * 3 + 2) _, Lib.hid (fun j hj => by
        obtain ⟨h1, h2, h3⟩ := hcu.out j hj
        refine ⟨by rw [set_get h1, if_neg (by omega)], by rw [set_get h2, if_neg (by omega)], ?_⟩
        rw [set_get h3]
        by_cases e : j = k
        · rw [if_pos (by omega), if_pos (by omega)]
        · rw [if_neg (by omega)]
          by_cases e2 : j < k
          · rw [if_pos e2, if_pos (by omega)]
          · rw [if_neg e2, if_neg (by omega)]), hsr.setCell (M := fun b => b = g) (.inl rfl) _⟩
      case measure => simp [intOf]; omega
    · obtain rfl : k = sn := by omega
      have dk : decide ((k : Int) < k) = false := decide_eq_false (by omega)
      have hk4 := hk3.same hsr (by omega)
      have hn4 := hn3.same hsr (by omega)
      have hz4 := hsr.size
      have hbw4 : Below w.heap.size w w4 := (hbw1.trans (hb2.mono hbw1.size)).trans (((hs3.mono (fun b h => (show w1.heap.size ≤ b by omega))).trans (hsr.mono (fun b h => (show w1.heap.size ≤ b by omega)))).toBelow (by omega) (fun b h => by omega))
      have hold : ∀ b o, b < B → w4.cell? ⟨b, o, none⟩ = w2.cell? ⟨b, o, none⟩ := fun b o h => (hsr.cell (by omega) (by omega)).trans (hs3.cell (by omega) (by omega))
      have hy4 : Hid (BookAt w4.heap.size w4 (some ⟨pb, po, none⟩) pn (some ⟨g, 0, none⟩) k (turnB x)) := Lib.hid ⟨hwoods.out.keep (by omega) hold, shapes_row (B := B) (K := jv) hGr (by unfold turnB; simp [hsn.out]) (by omega) (by omega) (fun j hj => by
        obtain ⟨k1, _, _, _, k5⟩ := hjv'.out j hj
        obtain ⟨h1, h2, h3⟩ := hcu.out j hj
        rw [if_pos hj] at h3
        rw [gs_turn (by rw [hsn.out]; exact hj)]
        exact ⟨k1.keep (Nat.le_refl _) hold, k5, h1, h2, h3⟩)⟩
      have hold' := Lib.hid hold
      obtain ⟨y, hy⟩ : ∃ y, y = turnB x := ⟨_, rfl⟩
      have hyok : Hid (bookOk y = true) := Lib.hid (by rw [hy]; exact turn_ok hb'.out)
      have hypl : Hid (y.planks = x.planks) := Lib.hid (by rw [hy]; rfl)
      have hyT : Hid (∀ p, p < y.parts.length → (gs y.parts p).turns = true) := Lib.hid (fun p hp => by
        rw [hy] at hp ⊢
        rw [gs_turn (by unfold turnB at hp; simpa using hp)])
      have hyL : Hid (∀ p, p < k → (gs y.parts p).long = (gs x.parts p).long) := Lib.hid (fun p hp => by
        rw [hy, gs_turn (by rw [hsn.out]; exact hp)])
      have hyn : Hid (y.parts.length = k) := Lib.hid (by rw [hy]; unfold turnB; simp [hsn.out])
      rw [← hy] at hy4
      have x1 : w4.cell? ⟨w1.heap.size, 0, none⟩ = some (.slice (some ⟨pb, po, none⟩) pn pc) := hX4.cell
      clear hold hy dk hlt hGr hcu hsr hX3 hG3 hcs hk3 hn3 hk2 hn2 hs3 hX hb2 hbw1 hk hn hwoods cur
      go_wp2_with fail
      refine (mirror_any (B := w4.heap.size) (Nat.le_refl _) hy4.out hyok.out).mono ?_
      rintro e w5 ⟨qa, qn, qc, rfl, hm5, hb5⟩
      clear x0 x1
      have hz5 := hb5.size
      have hk5 := hk4.below hb5 hk4.lt
      have hn5 := hn4.below hb5 hn4.lt
      have hX5 := hX4.below hb5 hX4.lt
      have lk5 := hk5.lt
      have ln5 := hn5.lt
      have lX5 := hX5.lt
      have hy5 := Lib.hid (hy4.out.keep (w' := w5) (Nat.le_refl _) (fun b o h => bcells hb5 b o h))
      have hbw5 := hbw4.trans (hb5.mono hbw4.size)
      have hold5 := Lib.hid (fun b o (h : b < B) => (bcells hb5 b o (by omega)).trans (hold'.out b o h))
      obtain ⟨w6, hw6⟩ : ∃ w6, w6 = w5.alloc (.cells #[.slice qa qn qc, .slice (some ⟨g, 0, none⟩) k c] 25) := ⟨_, rfl⟩
      have hb6 : Below w5.heap.size w5 w6 := by rw [hw6]; exact (Below.refl _ _).alloc (Nat.le_refl _) _
      have hM6 : Blk w6 w5.heap.size #[.slice qa qn qc, .slice (some ⟨g, 0, none⟩) k c] := by rw [hw6]; exact Blk.new _ _ _
      clear hb5 hk4 hn4 hX4 hy4 hbw4 hold'
      go_upto_region 10 with fail
      rw [← hw6]
      clear hw6
      have hz6 := hb6.size
      have lM6 := hM6.lt
      have hk6 := hk5.below hb6 lk5
      have hn6 := hn5.below hb6 ln5
      have hX6 := hX5.below hb6 lX5
      have hy6 := Lib.hid (hy5.out.keep (w' := w6) (Nat.le_refl _) (fun b o h => bcells hb6 b o (by omega)))
      have hm6 := Lib.hid (hm5.keep (w' := w6) (Nat.le_refl _) (fun b o h => bcells hb6 b o h))
      have hbw6 := hbw5.trans (hb6.mono hbw5.size)
      have hold6 := Lib.hid (fun b o (h : b < B) => (bcells hb6 b o (by omega)).trans (hold5.out b o h))
      have r0 := rnd_range (n := n0) (m := pn) (by omega)
      have r1 := rnd_range (n := n1) (m := k) (by omega)
      obtain ⟨i, hi⟩ : ∃ i : Nat, rnd n0 pn = i := ⟨(rnd n0 pn).toNat, by omega⟩
      obtain ⟨p, hp⟩ : ∃ p : Nat, rnd n1 k = p := ⟨(rnd n1 k).toNat, by omega⟩
      have hip : i < pn := by omega
      have hps2 : p < k := by omega
      have q0 : w6.cell? ⟨w.heap.size, 0, none⟩ = some (.slice (some ⟨pb, po, none⟩) pn pc) := hk6.cell
      have q1 : w6.cell? ⟨w.heap.size, 1, none⟩ = some (.slice (some ⟨sb, so, none⟩) k sc) := hk6.cell
      have m0 : w6.cell? ⟨w.heap.size + 1, 0, none⟩ = some (.int .i64 n0) := hn6.cell
      have m1 : w6.cell? ⟨w.heap.size + 1, 1, none⟩ = some (.int .i64 n1) := hn6.cell
      clear r0 r1 hb6 hk5 hn5 hX5 hy5 hm5 hbw5 hold5
      go_cut [8, 9] (fun s5 s6 wx => s5 = .int .i64 (i : Int) ∧ s6 = .int .i64 (p : Int) ∧ Below w6.heap.size w6 wx)
      case first =>
        go_quiet ((go_at_call 35; exact Calls.quiet_of_same (Round_same _ (by unfold I64; omega))))
        rw [hi, hp]
        go_wp2_with fail
        go_meet
        exact ⟨rfl, rfl, below_drewN (Below.refl _ _) _⟩
      case rest =>
      obtain ⟨rfl, rfl, hb7⟩ := hcut
      clear q0 q1 m0 m1 hi hp
      obtain ⟨w7, hw7⟩ : ∃ w7, w7 = wc := ⟨_, rfl⟩
      rw [← hw7] at hb7 ⊢
      clear hw7
      have hz7 := hb7.size
      have hk7 := hk6.below hb7 hk6.lt
      have hX7 := hX6.below hb7 hX6.lt
      have hM7 := hM6.below hb7 hM6.lt
      have hy7 := Lib.hid (hy6.out.keep (w' := w7) (Nat.le_refl _) (fun b o h => bcells hb7 b o (by omega)))
      have hm7 := Lib.hid (hm6.out.keep (w' := w7) (Nat.le_refl _) (fun b o h => bcells hb7 b o (by omega)))
      have hbw7 := hbw6.trans (hb7.mono hbw6.size)
      have hold7 := Lib.hid (fun b o (h : b < B) => (bcells hb7 b o (by omega)).trans (hold6.out b o h))
      have hxi : i < y.planks.length := by rw [hypl.out, hpn.out]; exact hip
      have hxp : p < y.parts.length := by rw [hyn.out]; exact hps2
      have hmok := Lib.hid (mir_ok hyok.out)
      have hask := Lib.hid (ask_zero hyok.out hxi hxp)
      have haskm := Lib.hid (ask_zero hmok.out (i := i) (p := p) (by unfold mirB; simpa using hxi) hxp)
      have hms := Lib.hid (mir_spots hyok.out hxi hxp (hyT.out p hxp))
      have hmost := Lib.hid (mir_most hyok.out hyT.out)
      have hfew := Lib.hid (mir_fewest hyok.out hyT.out)
      have hmz : Hid ((mostR y).2 = 0) := Lib.hid (by unfold mostR; rw [if_pos hyok.out])
      have hpI : I64 (p : Int) := by unfold I64; omega
      clear hb7 hk6 hn6 hX6 hM6 hy6 hm6 hbw6 hold6
      have x0 : w7.cell? ⟨w1.heap.size, 0, none⟩ = some (.slice (some ⟨pb, po, none⟩) pn pc) := hX7.cell
      have x1 : w7.cell? ⟨w1.heap.size, 1, none⟩ = some (.slice (some ⟨g, 0, none⟩) k c) := hX7.cell
      have lX7 := hX7.lt
      have lM7 := hM7.lt
      go_wp2_with fail
      refine (Spots_any (B := w4.heap.size) (i := i) (j := p) (by omega) hy7.out hpI).mono ?_
      rintro e w8 ⟨_, rfl, ⟨va, vn, vc, rfl, hv⟩, hb8⟩
      rw [hask.out]
      clear x0 x1
      have hz8 := hb8.size
      have hk8 := hk7.below hb8 hk7.lt
      have hX8 := hX7.below hb8 hX7.lt
      have hM8 := hM7.below hb8 hM7.lt
      have hy8 := Lib.hid (hy7.out.keep (w' := w8) (Nat.le_refl _) (fun b o h => bcells hb8 b o (by omega)))
      have hm8 := Lib.hid (hm7.out.keep (w' := w8) (Nat.le_refl _) (fun b o h => bcells hb8 b o (by omega)))
      have hbw8 := hbw7.trans (hb8.mono hbw7.size)
      have hold8 := Lib.hid (fun b o (h : b < B) => (bcells hb8 b o (by omega)).trans (hold7.out b o h))
      have hv8 := Lib.hid hv
      clear hv hb8 hk7 hX7 hM7 hy7 hm7 hbw7 hold7
      have x0 : w8.cell? ⟨w5.heap.size, 0, none⟩ = some (.slice qa qn qc) := hM8.cell
      have x1 : w8.cell? ⟨w5.heap.size, 1, none⟩ = some (.slice (some ⟨g, 0, none⟩) k c) := hM8.cell
      go_wp2_with fail
      refine (Spots_any (B := w5.heap.size) (i := i) (j := p) (by omega) hm8.out hpI).mono ?_
      rintro e w9 ⟨_, rfl, ⟨ua, un, uc, rfl, hu⟩, hb9⟩
      rw [haskm.out]
      clear x0 x1
      have hz9 := hb9.size
      have hk9 := hk8.below hb9 hk8.lt
      have hX9 := hX8.below hb9 hX8.lt
      have hM9 := hM8.below hb9 hM8.lt
      have hy9 := Lib.hid (hy8.out.keep (w' := w9) (Nat.le_refl _) (fun b o h => bcells hb9 b o (by omega)))
      have hm9 := Lib.hid (hm8.out.keep (w' := w9) (Nat.le_refl _) (fun b o h => bcells hb9 b o (by omega)))
      have hbw9 := hbw8.trans (hb9.mono hbw8.size)
      have hold9 := Lib.hid (fun b o (h : b < B) => (bcells hb9 b o (by omega)).trans (hold8.out b o h))
      have hv9 := Lib.hid (hv8.out.keep (w' := w9) hz9 (fun b o h => bcells hb9 b o h))
      have hu9 := Lib.hid hu
      have hvl := Lib.hid hv9.out.len
      have hvs := hv9.out.small
      obtain rfl : un = vn := by rw [← hu.len, ← hv9.out.len]; exact hms.out.1
      clear hu hb9 hk8 hX8 hM8 hy8 hm8 hbw8 hold8 hv8
      go_wp2_with fail
      go_loopw [14] (fun v wr => ∃ l : Nat, l ≤ un ∧ v = .int .i64 l ∧ Quiet w9 wr) (fun v _ => un - (intOf v).toNat)
      case atStart => exact ⟨0, by omega, rfl, Quiet.refl _⟩
      case round =>
        obtain ⟨l, hl, rfl, hq⟩ := hrel
        obtain ⟨q, rfl⟩ := hq
        by_cases hlt : l < un
        · have hli : (l : Int) < un := by omega
          have dl : decide ((l : Int) < un) = true := decide_eq_true hli
          obtain ⟨M, hM⟩ : ∃ M, M = un - 1 - l := ⟨_, rfl⟩
          obtain ⟨M1, hM1⟩ : ∃ M1, M1 = un - 1 := ⟨_, rfl⟩
          have hMu : M < un := by omega
          obtain ⟨vb, vo, rfl, hvB, hvc⟩ := hv9.out.get l hlt
          obtain ⟨ub, uo, rfl, huB, huc⟩ := hu9.out.get M hMu
          obtain ⟨g1, gI⟩ := hvc l hlt
          obtain ⟨g2, gJ⟩ := huc M hMu
          obtain ⟨L, hL⟩ : ∃ L, L = (gw x.planks i).long := ⟨_, rfl⟩
          obtain ⟨P, hP⟩ : ∃ P, P = (gs x.parts p).long := ⟨_, rfl⟩
          obtain ⟨T, hT⟩ : ∃ T, T = gi (spotsL y i p) l := ⟨_, rfl⟩
          have h2 := hms.out.2 l (by rw [hvl.out]; exact hlt)
          rw [hvl.out, hypl.out, hyL.out p hps2, ← hL, ← hP, ← hT, ← hM] at h2
          rw [h2] at g2 gJ
          rw [← hT] at g1 gI
          have g3 : w9.cell? ⟨pb, po + i * 2, none⟩ = some (.int .i64 L) := by rw [hL]; exact (hold9.out _ _ hpB).trans (hkv'.out i hip).2.1
          have g4 : w9.cell? ⟨sb, so + p * 3, none⟩ = some (.int .i64 P) := by rw [hP]; exact (hold9.out _ _ hsB).trans (hjv'.out p hps2).2.1
          have hLb := hG.out.wood i (by rw [hpn.out]; exact hip)
          have hPb := hG.out.shape p (by rw [hsn.out]; exact hps2)
          rw [← hL] at hLb
          rw [← hP] at hPb
          obtain ⟨L1, L2, _⟩ := hLb
          obtain ⟨P1, P2, _⟩ := hPb
          have e1 : IntKind.i64.wrap ((un : Int) - 1) = (M1 : Int) := by rw [show (un : Int) - 1 = (M1 : Int) by omega]; exact IntWalk.i64_in _ (by omega)
          have e2 : IntKind.i64.wrap ((M1 : Int) - l) = (M : Int) := by rw [show (M1 : Int) - l = (M : Int) by omega]; exact IntWalk.i64_in _ (by omega)
          have e3 : IntKind.i64.wrap (L - P) = L - P := IntWalk.i64_in _ (by omega)
          have e4 : IntKind.i64.wrap (L - P - T) = L - P - T := IntWalk.i64_in _ (by unfold I64 at gJ; omega)
          have hMi : (M : Int) < un := by omega
          have hii : (i : Int) < pn := by omega
          have hpi : (p : Int) < k := by omega
          have q0 : w9.cell? ⟨w.heap.size, 0, none⟩ = some (.slice (some ⟨pb, po, none⟩) pn pc) := hk9.cell
          have q1 : w9.cell? ⟨w.heap.size, 1, none⟩ = some (.slice (some ⟨sb, so, none⟩) k sc) := hk9.cell
          clear hvc huc h2 hT hL hP hM hM1 gI gJ
          go_upto_region 18 with fail
          go_quiet (fail)
          go_wp2_with fail
          go_roundw
          case rel => exact ⟨l + 1, by omega, by go_num, ⟨_, rfl⟩⟩
          case measure => simp [intOf]; omega
        · obtain rfl : l = un := by omega
          have dl : decide ((l : Int) < l) = false := decide_eq_false (by omega)
          have hb10 : Below w9.heap.size w9 (w9.drewN q) := below_drewN (Below.refl _ _) _
          obtain ⟨w10, hw10⟩ : ∃ w10, w10 = w9.drewN q := ⟨_, rfl⟩
          rw [← hw10] at hb10 ⊢
          clear hw10
          have hz10 := hb10.size
          have hX10 := hX9.below hb10 hX9.lt
          have hM10 := hM9.below hb10 hM9.lt
          have hy10 := Lib.hid (hy9.out.keep (w' := w10) (Nat.le_refl _) (fun b o h => bcells hb10 b o (by omega)))
          have hm10 := Lib.hid (hm9.out.keep (w' := w10) (Nat.le_refl _) (fun b o h => bcells hb10 b o (by omega)))
          have hbw10 := hbw9.trans (hb10.mono hbw9.size)
          have x0 : w10.cell? ⟨w1.heap.size, 0, none⟩ = some (.slice (some ⟨pb, po, none⟩) pn pc) := hX10.cell
          have x1 : w10.cell? ⟨w1.heap.size, 1, none⟩ = some (.slice (some ⟨g, 0, none⟩) k c) := hX10.cell
          clear hb10 hX9 hM9 hy9 hm9 hbw9 hlt hold9 hv9 hu9 hk9
          go_wp2_with fail
          refine (Most_any (B := w4.heap.size) (by omega) hy10.out).mono ?_
          rintro e w11 ⟨a1, b1, d1, rfl, ha, hb11⟩
          rw [hmz.out]
          clear x0 x1
          have hz11 := hb11.size
          have hX11 := hX10.below hb11 hX10.lt
          have hM11 := hM10.below hb11 hM10.lt
          have hy11 := Lib.hid (hy10.out.keep (w' := w11) (Nat.le_refl _) (fun b o h => bcells hb11 b o (by omega)))
          have hm11 := Lib.hid (hm10.out.keep (w' := w11) (Nat.le_refl _) (fun b o h => bcells hb11 b o (by omega)))
          have hbw11 := hbw10.trans (hb11.mono hbw10.size)
          have ha11 := Lib.hid ha
          have x0 : w11.cell? ⟨w5.heap.size, 0, none⟩ = some (.slice qa qn qc) := hM11.cell
          have x1 : w11.cell? ⟨w5.heap.size, 1, none⟩ = some (.slice (some ⟨g, 0, none⟩) k c) := hM11.cell
          clear hb11 hX10 hM10 hy10 hm10 hbw10 ha
          go_wp2_with fail
          refine (Most_any (B := w5.heap.size) (by omega) hm11.out).mono ?_
          rintro e w12 ⟨a2, b2, d2, rfl, ha, hb12⟩
          rw [hmost.out] at ha
          rw [hmost.out, hmz.out]
          clear x0 x1
          have hz12 := hb12.size
          have hX12 := hX11.below hb12 hX11.lt
          have hM12 := hM11.below hb12 hM11.lt
          have hy12 := Lib.hid (hy11.out.keep (w' := w12) (Nat.le_refl _) (fun b o h => bcells hb12 b o (by omega)))
          have hm12 := Lib.hid (hm11.out.keep (w' := w12) (Nat.le_refl _) (fun b o h => bcells hb12 b o (by omega)))
          have hbw12 := hbw11.trans (hb12.mono hbw11.size)
          have ha12 := Lib.hid (ha11.out.keep (w' := w12) hz12 (fun b o h => bcells hb12 b o h))
          have hc12 := Lib.hid ha
          have x0 : w12.cell? ⟨w1.heap.size, 0, none⟩ = some (.slice (some ⟨pb, po, none⟩) pn pc) := hX12.cell
          have x1 : w12.cell? ⟨w1.heap.size, 1, none⟩ = some (.slice (some ⟨g, 0, none⟩) k c) := hX12.cell
          clear hb12 hX11 hM11 hy11 hm11 hbw11 ha ha11
          go_wp2_with fail
          refine (Fewest_any (B := w4.heap.size) (by omega) hy12.out).mono ?_
          rintro e w13 ⟨a3, b3, d3, rfl, ha, hb13⟩
          obtain ⟨G, hGe⟩ : ∃ G, G = (fewestR y).2 := ⟨_, rfl⟩
          rw [← hGe]
          have hGe' := Lib.hid hGe
          clear x0 x1 hGe
          have hz13 := hb13.size
          have hM13 := hM12.below hb13 hM12.lt
          have hy13 := Lib.hid (hy12.out.keep (w' := w13) (Nat.le_refl _) (fun b o h => bcells hb13 b o (by omega)))
          have hm13 := Lib.hid (hm12.out.keep (w' := w13) (Nat.le_refl _) (fun b o h => bcells hb13 b o (by omega)))
          have hbw13 := hbw12.trans (hb13.mono hbw12.size)
          have ha13 := Lib.hid (ha12.out.keep (w' := w13) hz13 (fun b o h => bcells hb13 b o h))
          have hc13 := Lib.hid (hc12.out.keep (w' := w13) hz13 (fun b o h => bcells hb13 b o h))
          have hd13 := Lib.hid ha
          have x0 : w13.cell? ⟨w5.heap.size, 0, none⟩ = some (.slice qa qn qc) := hM13.cell
          have x1 : w13.cell? ⟨w5.heap.size, 1, none⟩ = some (.slice (some ⟨g, 0, none⟩) k c) := hM13.cell
          clear hb13 hX12 hM12 hy12 hm12 hbw12 ha ha12 hc12
          go_wp2_with fail
          refine (Fewest_any (B := w5.heap.size) (by omega) hm13.out).mono ?_
          rintro e w14 ⟨a4, b4, d4, rfl, ha, hb14⟩
          rw [hfew.out] at ha
          rw [hfew.out, ← hGe'.out]
          clear x0 x1
          have hz14 := hb14.size
          have hbw14 := hbw13.trans (hb14.mono hbw13.size)
          have ha14 := Lib.hid (ha13.out.keep (w' := w14) hz14 (fun b o h => bcells hb14 b o h))
          have hc14 := Lib.hid (hc13.out.keep (w' := w14) hz14 (fun b o h => bcells hb14 b o h))
          have hd14 := Lib.hid (hd13.out.keep (w' := w14) hz14 (fun b o h => bcells hb14 b o h))
          have he14 := Lib.hid ha
          clear hb14 hM13 hy13 hm13 hbw13 ha ha13 hc13 hd13 hGe'
          go_wp2_with fail
          refine (Equal_any ha14.out hc14.out).mono ?_
          rintro e w15 ⟨rfl, hq15⟩
          rw [show decide ((mostR y).1 = (mostR y).1) = true from decide_eq_true rfl]
          have hb15 := hq15.below w14.heap.size
          have hz15 := hb15.size
          have hbw15 := hbw14.trans (hb15.mono hbw14.size)
          have hd15 := Lib.hid (hd14.out.keep (w' := w15) hz15 (fun b o h => bcells hb15 b o h))
          have he15 := Lib.hid (he14.out.keep (w' := w15) hz15 (fun b o h => bcells hb15 b o h))
          clear hq15 hb15 hbw14 ha14 hc14 hd14 he14
          go_wp2_with fail
          refine (Equal_any hd15.out he15.out).mono ?_
          rintro e w16 ⟨rfl, hq16⟩
          rw [show decide ((fewestR y).1 = (fewestR y).1) = true from decide_eq_true rfl]
          have hbw16 := hbw15.trans ((hq16.below w15.heap.size).mono hbw15.size)
          clear hq16 hbw15 hd15 he15
          go_wp2_with fail
          refine (sawn_any _).mono ?_
          rintro e w17 ⟨rfl, hb17⟩
          go_wp2_with fail
          go_ret
          exact ⟨rfl, hbw16.trans (hb17.mono hbw16.size)⟩
end Go.Proofs.Ytilbkmogmlcpaaa
namespace Go.Proofs.Ytilbkmogmlcpaaa
open Go.ChangeShapes Go.WideShapes Go.ChangeAt Go.RowKit Go.Deep

set_option maxRecDepth 100000 in
theorem plankTurn_lifted (os : Os) (started : os.Started) (H : Type) (enc : TypeId × Value → H) :
    ReturnsInHanded {} Try.checked os 14 .any (Rows.plankTurnSpec.pre6 enc Try.prog Try.f14 Rows.plankTurnRow.domain false) (Rows.plankTurnSpec.post enc Try.prog Try.f14 false true false false) := by
  refine returnsInHanded_of_change_sized (C := Try.checked) ownKnobs started (by kernel_rfl) Try.func14
    (ChangeSpec.witness6 (enc := enc) (C := Try.checked) false ⟨#[], #[.agg #[.slice none 0 0, .slice none 0 0], .agg #[.int .i64 0, .int .i64 0]], []⟩ 8 (by kernel_rfl) (by kernel_rfl) (by kernel_rfl) (by kernel_rfl)) ?_
  intro W base args ds gs before hval0 hW hcnd hsz0 _
  have hval : ∀ (j : Nat) t v, Try.f14.params[j]? = some t → args[j]? = some v → Value.okWide Try.prog W .any base t v := hval0
  have hsz : (DataW.weightsEach Try.prog (Try.f14.params.toList ++ Rows.plankTurnSpec.plain.varTypes Try.prog) (ds ++ gs)).all (· ≤ reachBytes) = true := hsz0
  have hW' := hW
  obtain ⟨p, q, hA0, hV, rfl, hfz, hnd⟩ := hW
  have hA : DataW.TrodAll enc Try.prog W 0 (fun _ => true) true Try.f14.params.toList args.toList ds p := hA0
  rw [Try.params14] at hA hval hsz
  obtain ⟨v0, vs0, d0, ds0, p0, q0, hargs, rfl, rfl, h0, r0⟩ := trodAll_cons hA
  obtain ⟨v1, vs1, d1, ds1, p1, q1, rfl, rfl, rfl, h1, r1⟩ := trodAll_cons r0
  obtain ⟨rfl, rfl, rfl⟩ := trodAll_nil r1
  obtain rfl : args = #[v0, v1] := by cases args; simp_all
  obtain ⟨rfl, rfl⟩ := trodVars_none hV
  have lt0 : ∀ x ∈ p0, x.block < W.heap.size := by obtain ⟨m, hm⟩ := h0; exact DataW.trod_lt m _ _ _ hm
  have lt1 : ∀ x ∈ p1, x.block < W.heap.size := by obtain ⟨m, hm⟩ := h1; exact DataW.trod_lt m _ _ _ hm
  have z0 : Sized 25 d0 := sized_each hsz (j := 0) rfl rfl
  obtain ⟨pa, pn, pc, sa, sn, sc, x, rfl, hx⟩ := book_open (hval 0 25 v0 rfl rfl) h0 z0
  obtain ⟨n10, n11, rfl, i10, i11⟩ := two_open (hval 1 69 v1 rfl rfl) h1
  clear hA0 hval0 hsz0
  refine (turn_law (Nat.le_refl _) hx).mono fun e W' ⟨he, bel⟩ => ?_
  subst he
  exact ⟨_, rfl, _, _, _, [], _, [], hW', trodAll_mk1 (shut_bool Try.underlying4 _), (trodAll_cons_mk (Below.trod laidOut (by kernel_rfl) (of_decide_eq_true (by kernel_rfl)) h0 bel lt0) (trodAll_cons_mk (Below.trod laidOut (by kernel_rfl) (of_decide_eq_true (by kernel_rfl)) h1 bel lt1) trodAll_mk0)), rfl, bel.frame _, fun h => by cases h⟩

theorem plankTurn_holds : Rows.PlankTurnSaid :=
  OpenClaim.holds_of_wide 14 Try.f14 rfl rfl rfl rfl rfl rfl rfl ⟨rfl, rfl, rfl, rfl, rfl⟩ rfl rfl rfl rfl rfl (by kernel_rfl) Try.func14 (by kernel_rfl)
    (of_decide_eq_true (by kernel_rfl)) (by unfold Func.isWrapper; first | (rw [if_pos (by decide +kernel)]; kernel_rfl) | (rw [if_neg (by decide +kernel)]; exact ⟨rfl, rfl⟩))
    (fun os started H enc _ => plankTurn_lifted os started H enc)
end Go.Proofs.Ytilbkmogmlcpaaa
