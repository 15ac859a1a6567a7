/- Walks: a book whose planks are turned end for end. -/
import Derived.Test.YtilbkmogmlcpaaaPtn06
import Derived.Test.YtilbkmogmlcpaaaPtn10
namespace Go.Proofs.Ytilbkmogmlcpaaa
open Go.RowKit Go.Shelf

/-- One element more behind a slice of one's own: nothing else is touched but its row. -/
theorem grow_at {w : World} {base n e sl size bytes : Nat} {z : Value} {va : Option Addr} {vn vc : Nat} {xs news : List Value} (hinfo : (Try.prog.info? e).map (fun i => (i.zero, i.size, i.bytes)) = some (some z, size, bytes)) (hu : Try.prog.underlying sl = some (.slice e))
    (hz : z.cells.size = size) (h0 : 0 < size) (hby : bytes ≤ 1000) (hown : w.ownsRow base e size (.slice va vn vc) n xs) (hl : news.length = size) (h1 : ∀ u ∈ news, u.oneCell' = true) (hn : n ≤ 1000) (hb : base ≤ w.heap.size) :
    ∃ (ua : Option Addr) (un uc : Nat) (w' : World), (appendS #[sl, sl] sl #[.slice va vn vc, .slice (some ⟨w.heap.size, 0, none⟩) 1 1]).run Try.prog (w.alloc (.cells news.toArray e)) = .ok (.slice ua un uc) w' ∧
      w'.ownsRow base e size (.slice ua un uc) (n + 1) (xs ++ news) ∧ SameBut (fun k => (Value.slice va vn vc).ownBlock = some k) w w' ∧ (∀ g, (Value.slice ua un uc).ownBlock = some g → (Value.slice va vn vc).ownBlock = some g ∨ w.heap.size ≤ g) := by
  obtain ⟨i0, hi, hz0, hz1, hz2⟩ := info_parts hinfo
  obtain ⟨v', w7, hap, hown7, hgr7, _, hat⟩ := run_append_own_at (P := Try.prog) (w := w.alloc (.cells news.toArray e)) base sl sl e i0 z size bytes hu hi hz0 hz1 hz2 hz h0 (.slice va vn vc) _ _ (hown.alloc _) ⟨w.heap.size, 0, none⟩ 1 1 news (by rw [hl, Nat.one_mul])
    (fun j u hj => by
      have := (Blk.new w news.toArray e).cell (i := j)
      rw [add_at, Nat.zero_add, this]
      simpa using hj)
    h1 (by unfold maxLen; omega) (by have : (n + 1) * bytes ≤ 1001 * 1000 := Nat.mul_le_mul (by omega) hby
                                     omega) (by simp; omega)
  obtain ⟨ua, un, uc, rfl⟩ := own_slice hown7
  refine ⟨ua, un, uc, w7, hap, hown7, ((SameBut.refl _ w).alloc _).trans (same_grown hgr7 (fun k h => h)), fun g hg => ?_⟩
  rcases hat with h | h
  · left; rw [← h]; exact hg
  · right
    rw [h] at hg
    simp only [World.size_alloc, Option.some.injEq] at hg
    omega
theorem spans_own {w : World} {base : Nat} {W : Wood} {n : Nat} {v : Value} (h : w.ownsRow base 60 2 v n ((List.range n).flatMap (spanC W))) (hn : n ≤ 1000) (hl : W.knots.length = n) (hI : ∀ j, j < n → I64 (gp W.knots j).1 ∧ I64 (gp W.knots j).2) :
    ∃ a c, v = .slice a n c ∧ SpansAt w.heap.size w a n W.knots := by
  obtain ⟨a, c, rfl, hg⟩ := own_get h hn
  refine ⟨a, c, rfl, ⟨hl, by omega, fun i hi => ?_⟩⟩
  obtain ⟨g, rfl, hlt, _, hc⟩ := hg i hi
  refine ⟨g, 0, rfl, hlt, fun j hj => ?_⟩
  have e : ∀ l, l < 2 → ((List.range n).flatMap (spanC W))[j * 2 + l]? = (spanC W j)[l]? := fun l hl => by
    rw [flat_get (L := List.range n) (f := spanC W) (m := 2) (fun _ => rfl) (by simpa using hj) hl, List.getElem_range]
  refine ⟨?_, ?_, hI j hj⟩
  · rw [Nat.zero_add]; exact hc (j * 2) _ (e 0 (by decide))
  · rw [Nat.zero_add]; exact hc (j * 2 + 1) _ (e 1 (by decide))

/-- A plank's cells, its knots' slice by K. -/
def mirC (x : Book) (K : Nat → Value) (j : Nat) : List Value := [.int .i64 (gw x.planks j).long, K j]
/-- The knots of a turned plank, in memory that is neither below 'base' nor in the row v. -/
def KM (w : World) (base : Nat) (row v : Value) (W : Wood) : Prop := ∃ a n c, v = .slice a n c ∧ SpansAt w.heap.size w a n (mirW W).knots ∧ (0 < n → ∀ ad, a = some ad → base ≤ ad.block ∧ row.ownBlock ≠ some ad.block)
theorem KM.next {w w' : World} {base : Nat} {row row' v : Value} {W : Wood} {M : Nat → Prop} (h : KM w base row v W) (hs : SameBut M w w') (hM : ∀ b, base ≤ b → b < w.heap.size → row.ownBlock ≠ some b → ¬ M b) (hr : ∀ g, row'.ownBlock = some g → row.ownBlock = some g ∨ w.heap.size ≤ g) : KM w' base row' v W := by
  obtain ⟨a, n, c, rfl, hsp, had⟩ := h
  refine ⟨a, n, c, rfl, ⟨hsp.len, hsp.small, fun i hi => ?_⟩, fun hn ad e => ?_⟩
  · obtain ⟨b, o, e, hb, hc⟩ := hsp.get i hi
    obtain ⟨h1, h2⟩ := had (by omega) _ e
    have hk : ∀ o, w'.cell? ⟨b, o, none⟩ = w.cell? ⟨b, o, none⟩ := fun o => hs.cell hb (hM b h1 hb h2)
    exact ⟨b, o, e, Nat.lt_of_lt_of_le hb hs.size, fun j hj => by rw [hk, hk]; exact hc j hj⟩
  · obtain ⟨h1, h2⟩ := had hn _ e
    refine ⟨h1, fun h => ?_⟩
    rcases hr _ h with h3 | h3
    · exact h2 h3
    · obtain ⟨b, o, e2, hb, _⟩ := hsp.get 0 hn
      rw [e] at e2
      cases e2
      exact absurd hb (by simpa using h3)

attribute [local go_sem ↓] append_alias

set_option maxRecDepth 100000 in
set_option maxHeartbeats 4000000 in
theorem mirror_any {B : Nat} {pa sa : Option Addr} {pn pc sn sc : Nat} {x : Book} {w : World} (hB : B ≤ w.heap.size) (hx : BookAt B w pa pn sa sn x) (hb : bookOk x = true) :
    Calls Try.prog 53 #[.agg #[.slice pa pn pc, .slice sa sn sc]] w fun e w' => ∃ qa qn qc, e = .returned (.agg #[.slice qa qn qc, .slice sa sn sc]) ∧ BookAt w'.heap.size w' qa qn sa sn (mirB x) ∧ Below w.heap.size w w' := by
  have hG := Lib.hid (good_of hb)
  have hb' := Lib.hid hb
  have hpn := Lib.hid hx.planks.len
  have hp1 := hG.out.planks
  rw [hpn.out] at hp1
  obtain ⟨p1, p2⟩ := hp1
  obtain ⟨w0, hw0⟩ : ∃ W0, W0 = ((w.alloc (.cells #[.slice pa pn pc, .slice sa sn sc] 25)).alloc (.cells #[.slice none 0 0, .slice none 0 0] 25)).alloc (.cells #[.slice none 0 0, .slice sa sn sc] 25) := ⟨_, rfl⟩
  have hb0 : Below w.heap.size w w0 := by rw [hw0]; exact (((Below.refl _ _).alloc (Nat.le_refl _) _).alloc (by simp) _).alloc (by simp; omega) _
  have hk0 : Blk w0 w.heap.size #[.slice pa pn pc, .slice sa sn sc] := by rw [hw0]; exact ((Blk.new w _ _).alloc _).alloc _
  have hr0 : Blk w0 (w.heap.size + 1) #[.slice none 0 0, .slice none 0 0] := by
    rw [hw0]
    have := Blk.new (w.alloc (.cells #[.slice pa pn pc, .slice sa sn sc] 25)) #[.slice none 0 0, .slice none 0 0] 25
    rw [World.size_alloc] at this
    exact this.alloc _
  have hX0 : Blk w0 (w.heap.size + 2) #[.slice none 0 0, .slice sa sn sc] := by
    rw [hw0]
    have := Blk.new ((w.alloc (.cells #[.slice pa pn pc, .slice sa sn sc] 25)).alloc (.cells #[.slice none 0 0, .slice none 0 0] 25)) #[.slice none 0 0, .slice sa sn sc] 25
    rw [World.size_alloc, World.size_alloc] at this
    exact this
  have hz0 : w.heap.size + 3 ≤ w0.heap.size := by rw [hw0]; simp
  have hx0 := hx.keep (w' := w0) (Nat.le_refl _) (fun b o h => bcells hb0 b o (by omega))
  clear hx
  have hparts := Lib.hid hx0.parts
  obtain ⟨pb, po, kv, rfl, hpB, hkv⟩ := woods_cells hx0.planks (by omega)
  have hkv' := Lib.hid hkv
  clear hkv hx0 hb
  go_enter Try.func53, Try.ntmps53
  go_wp2_with fail
  rw [← hw0]
  clear hw0
  go_loopw [4] (fun v wr => ∃ (k : Nat) (va : Option Addr) (vn vc : Nat) (KV : Nat → Value), k ≤ pn ∧ v = .int .i64 k ∧ Blk wr (w.heap.size + 2) #[.slice va vn vc, .slice sa sn sc] ∧ wr.ownsRow (w.heap.size + 3) 48 2 (.slice va vn vc) k ((List.range k).flatMap (mirC x KV)) ∧
    Hid (∀ j, j < k → KM wr (w.heap.size + 3) (.slice va vn vc) (KV j) (gw x.planks j)) ∧ SameBut (fun b => w.heap.size + 2 ≤ b) w0 wr) (fun v _ => pn - (intOf v).toNat)
  case atStart => exact ⟨0, none, 0, 0, fun _ => undef, by omega, rfl, hX0, ⟨rfl, .inl ⟨rfl, rfl⟩⟩, fun j hj => absurd hj (by omega), SameBut.refl _ _⟩
  case round =>
    obtain ⟨k, va, vn, vc, KV, hk, rfl, hX, hown, hKM, hs⟩ := hrel
    obtain ⟨wo, rfl⟩ : ∃ wo : World, wo = wr := ⟨_, rfl⟩
    have hkr := hk0.same hs (by omega)
    have hzr := hs.size
    have q0 : wo.cell? ⟨w.heap.size, 0, none⟩ = some (.slice (some ⟨pb, po, none⟩) pn pc) := hkr.cell
    by_cases hlt : k < pn
    · have hki : (k : Int) < pn := by omega
      have dk : decide ((k : Int) < pn) = true := decide_eq_true hki
      obtain ⟨⟨ka, kn, kc, kve, hks⟩, k2, k3, _⟩ := hkv'.out k hlt
      rw [kve] at k3
      have hkn3 : kn ≤ 3 := by rw [← hks.len]; exact (hG.out.wood k (by rw [hpn.out]; exact hlt)).2.2
      obtain ⟨L, hL⟩ : ∃ L, L = (gw x.planks k).long := ⟨_, rfl⟩
      have hLb := hG.out.wood k (by rw [hpn.out]; exact hlt)
      rw [← hL] at k2 hLb
      obtain ⟨L1, L2, _⟩ := hLb
      have hL' := Lib.hid hL
      have g1 := (hs.cell (b := pb) (o := po + k * 2) (by omega) (by omega)).trans k2
      have g2 := (hs.cell (b := pb) (o := po + k * 2 + 1) (by omega) (by omega)).trans k3
      have hks' := Lib.hid hks
      have hkl := Lib.hid hks.len
      have lpb : pb < wo.heap.size := by omega
      have lk : w.heap.size < wo.heap.size := by omega
      clear hL hks kve k2 k3
      obtain ⟨w1, hw1⟩ : ∃ w1, w1 = wo.alloc (.cells #[.int .i64 L, .slice none 0 0] 48) := ⟨_, rfl⟩
      have hW1 : Blk w1 wo.heap.size #[.int .i64 L, .slice none 0 0] := by rw [hw1]; exact Blk.new _ _ _
      have hs1 : SameBut (fun b => wo.heap.size ≤ b) wo w1 := by rw [hw1]; exact (SameBut.refl _ _).alloc _
      have hz1 : wo.heap.size + 1 ≤ w1.heap.size := by rw [hw1]; simp
      go_wp2_with fail
      rw [← hw1]
      clear hw1 q0 g1 g2
      go_loopw [6] (fun v wr => ∃ (l : Nat) (ta : Option Addr) (tn tc : Nat), l ≤ kn ∧ v = .int .i64 l ∧ Blk wr wo.heap.size #[.int .i64 L, .slice ta tn tc] ∧ wr.ownsRow (wo.heap.size + 1) 60 2 (.slice ta tn tc) l ((List.range l).flatMap (spanC (mirW (gw x.planks k)))) ∧ SameBut (fun b => wo.heap.size ≤ b) wo wr) (fun v _ => kn - (intOf v).toNat)
      case atStart => exact ⟨0, none, 0, 0, by omega, rfl, hW1, ⟨rfl, .inl ⟨rfl, rfl⟩⟩, hs1⟩
      case round =>
        obtain ⟨l, ta, tn, tc, hl, rfl, hT, hown2, hs2⟩ := hrel
        have hz2 := hs2.size
        have hTl := hT.lt
        have hk2 := hkr.same hs2 (by omega)
        have hX2 := hX.same hs2 (by have := hX.lt; omega)
        have q0 : wr.cell? ⟨w.heap.size, 0, none⟩ = some (.slice (some ⟨pb, po, none⟩) pn pc) := hk2.cell
        have hss : SameBut (fun b => w.heap.size + 2 ≤ b) w0 wr := hs.trans (hs2.mono (fun b h => by omega))
        obtain ⟨⟨ka', kn', kc', kve, hks2⟩, k2, k3, _⟩ := hkv'.out k hlt
        obtain ⟨ka3, kn3, kc3, hkve3, hks3⟩ : ∃ (ka3 : Option Addr) (kn3 kc3 : Nat), kv k = .slice ka3 kn3 kc3 ∧ SpansAt B w0 ka3 kn3 (gw x.planks k).knots := ⟨ka', kn', kc', kve, hks2⟩
        obtain rfl : kn3 = kn := by rw [← hks3.len, hkl.out]
        rw [hkve3] at k3
        have g2 := (hss.cell (b := pb) (o := po + k * 2 + 1) (by omega) (by omega)).trans k3
        by_cases hll : l < kn3
        · have hli : (l : Int) < kn3 := by omega
          have dl : decide ((l : Int) < kn3) = true := decide_eq_true hli
          obtain ⟨kb, ko, rfl, hkB, hkc⟩ := hks3.get l hll
          obtain ⟨d0, d1, _, _⟩ := hkc l hll
          obtain ⟨lo, hlo⟩ : ∃ lo, lo = (gp (gw x.planks k).knots l).1 := ⟨_, rfl⟩
          obtain ⟨hi, hhi⟩ : ∃ hi, hi = (gp (gw x.planks k).knots l).2 := ⟨_, rfl⟩
          have hkn := knot_of hb'.out (i := k) (k := l) (by rw [hpn.out]; exact hlt) (by rw [hks3.len]; exact hll)
          rw [← hlo, ← hhi, ← hL'.out] at hkn
          obtain ⟨b0, b1, b2⟩ := hkn
          rw [← hlo] at d0
          rw [← hhi] at d1
          have g3 := (hss.cell (b := kb) (o := ko + l * 2) (by omega) (by omega)).trans d0
          have g4 := (hss.cell (b := kb) (o := ko + l * 2 + 1) (by omega) (by omega)).trans d1
          have hlo' := Lib.hid hlo
          have hhi' := Lib.hid hhi
          have lpb2 : pb < wr.heap.size := by omega
          have lkb2 : kb < wr.heap.size := by omega
          have lk2 : w.heap.size < wr.heap.size := by omega
          obtain ⟨w2, hw2⟩ : ∃ w2, w2 = wr.alloc (.cells #[.int .i64 lo, .int .i64 hi] 60) := ⟨_, rfl⟩
          have hSp : Blk w2 wr.heap.size #[.int .i64 lo, .int .i64 hi] := by rw [hw2]; exact Blk.new _ _ _
          have hs3 : SameBut (fun _ => False) wr w2 := by rw [hw2]; exact (SameBut.refl _ _).alloc _
          have hz3 : wr.heap.size + 1 ≤ w2.heap.size := by rw [hw2]; simp
          have hT2 := hT.same hs3 (fun e => e)
          have hown3 := own_same hown2 hs3 (fun _ _ e => e)
          have hlt2 := hown2.lt
          clear hkc hlo hhi hks3 hks2 kve k2 d0 d1
          go_upto_region 11 with fail
          rw [← hw2]
          clear hw2 q0 g2 g3 g4 dl
          have hF0 : SameBut (fun b => (Value.slice ta tn tc).ownBlock = some b ∨ w2.heap.size ≤ b) w2 w2.drew := (SameBut.refl _ _).drew
          have hnb : ∀ b, (Value.slice ta tn tc).ownBlock = some b → wo.heap.size + 1 ≤ b ∧ b < wr.heap.size := fun b e => hlt2 b e
          have hread : ∀ w', SameBut (fun b => (Value.slice ta tn tc).ownBlock = some b ∨ w2.heap.size ≤ b) w2 w' → w'.cell? ⟨wo.heap.size, 0, none⟩ = some (.int .i64 L) ∧ w'.cell? ⟨wo.heap.size, 1, none⟩ = some (.slice ta tn tc) ∧ w'.cell? ⟨wr.heap.size, 0, none⟩ = some (.int .i64 lo) ∧ w'.cell? ⟨wr.heap.size, 1, none⟩ = some (.int .i64 hi) := fun w' h =>
            ⟨(hT2.same h (fun e => by rcases e with e | e; have := hnb _ e; omega; omega)).cell, (hT2.same h (fun e => by rcases e with e | e; have := hnb _ e; omega; omega)).cell, (hSp.same h (fun e => by rcases e with e | e; have := hnb _ e; omega; omega)).cell, (hSp.same h (fun e => by rcases e with e | e; have := hnb _ e; omega; omega)).cell⟩
          have e1 : IntKind.i64.wrap (L - 1) = L - 1 := IntWalk.i64_in _ (by omega)
          have e2 : IntKind.i64.wrap (L - 1 - hi) = L - 1 - hi := IntWalk.i64_in _ (by omega)
          have e3 : IntKind.i64.wrap (L - 1 - lo) = L - 1 - lo := IntWalk.i64_in _ (by omega)
          have hO := open_wide
          have hF := hO.fn
          have hd := hO.depth
          refine region_planW (fun w' => SameBut (fun b => (Value.slice ta tn tc).ownBlock = some b ∨ w2.heap.size ≤ b) w2 w') [(0, true), (1, true), (2, true), (3, true), (4, true), (5, true), (6, true), (7, true), (8, true), (9, true), (10, true), (11, true), (12, true), (13, true), (14, false), (15, false), (16, false), (17, true), (18, false)] (by kernel_rfl) (by kernel_rfl) (by kernel_rfl) (by decide) (by kernel_rfl) ?_
          iterate 14
            (refine plan_take ?_ rfl hF0 (by rfl) ?_ ?_
             rotate_left
             · intro w' hw'
               obtain ⟨r1, r2, r3, r4⟩ := hread w' hw'
               go_simp
               with_reducible rfl
             simp only [Act.put, List.setIfInBounds_toArray, List.set_cons_zero, List.set_cons_succ])
          refine plan_one rfl (by rfl) (fun K hK => ?_)
          go_simp
          refine (hO.calls (from_any (L - 1 - hi) (L - 1 - lo) _)).mono ?_
          rintro e w5 ⟨rfl, rfl⟩
          refine hK _ _ (hF0.alloc _) ?_
          clear hK K
          obtain ⟨w5, hw5⟩ : ∃ w5, w5 = w2.drew.alloc (.cells #[.int .i64 (L - 1 - hi), .int .i64 (L - 1 - lo)] 60) := ⟨_, rfl⟩
          have hs5 : SameBut (fun b => (Value.slice ta tn tc).ownBlock = some b ∨ w2.heap.size ≤ b) w2 w5 := by rw [hw5]; exact hF0.alloc _
          have hs5' : SameBut (fun _ => False) w2 w5 := by rw [hw5]; exact ((SameBut.refl _ w2).drew).alloc _
          rw [← hw5]
          clear hw5
          have hown5 := own_same hown3 hs5' (fun _ _ e => e)
          have hz5 := hs5.size
          obtain ⟨ua, un, uc, w7, hap, hown7, hs57, hat⟩ := grow_at spanInfo spansUnder rfl (by decide) (by decide) hown5 (news := [.int .i64 (L - 1 - hi), .int .i64 (L - 1 - lo)]) rfl (fun u hu => by simp at hu; rcases hu with rfl | rfl <;> rfl) (by omega) (by omega)
          have hS7 : SameBut (fun b => (Value.slice ta tn tc).ownBlock = some b ∨ w2.heap.size ≤ b) w2 w7 := hs5.trans (hs57.mono (fun b h => .inl h))
          have hT7 := hT2.same hS7 (fun e => by rcases e with e | e; have := hnb _ e; omega; omega)
          have hown8 : Hid (w7.ownsRow (wo.heap.size + 1) 60 2 (.slice ua un uc) (l + 1) ((List.range (l + 1)).flatMap (spanC (mirW (gw x.planks k))))) := Lib.hid (by
            rw [List.range_succ, List.flatMap_append]
            have e : spanC (mirW (gw x.planks k)) l = [.int .i64 (L - 1 - hi), .int .i64 (L - 1 - lo)] := by
              unfold spanC
              rw [gp_mir (by rw [hkl.out]; exact hll)]
              unfold mirS
              rw [← hL'.out, ← hlo'.out, ← hhi'.out]
            rw [show [l].flatMap (spanC (mirW (gw x.planks k))) = spanC (mirW (gw x.planks k)) l by simp, e]
            exact hown7)
          have x1 : w7.cell? ⟨wo.heap.size, 1, none⟩ = some (.slice ta tn tc) := hT7.cell
          have xf : w7.frozen? ⟨wo.heap.size, 1, none⟩ = false := hT7.frozen
          clear hown7 hown5 hs5'
          refine plan_one rfl (by rfl) (fun K hK => ?_)
          go_simp
          refine hK _ _ (hs5.alloc _) ?_
          clear hK K
          refine plan_one rfl (by rfl) (fun K hK => ?_)
          go_simp
          refine hK _ _ hS7 ?_
          clear hK K hap
          iterate 1
            (refine plan_take ?_ rfl hS7 (by rfl) ?_ ?_
             rotate_left
             · intro w' hw'
               go_simp
               with_reducible rfl
             simp only [Act.put, List.setIfInBounds_toArray, List.set_cons_zero, List.set_cons_succ])
          refine plan_last (by kernel_rfl) rfl (by rfl) (fun K hK => ?_)
          go_simp
          refine hK _ _ ?_
          clear hK K
          unfold planW okN
          go_wp2_with fail
          go_roundw
          case rel => exact ⟨l + 1, ua, un, uc, by omega, by go_num, hT7.setAt (i := 1) (.slice ua un uc), own_same hown8.out ((SameBut.refl (fun b => b = wo.heap.size) w7).setCell (M := fun b => b = wo.heap.size) (.inl rfl) _) (fun g hg e => by have := (hown8.out.lt g hg).1; omega), ((hs2.trans (hs3.mono (fun b h => absurd h (fun e => e)))).trans (hS7.mono (fun b h => by rcases h with h | h; have := hnb _ h; omega; omega))).setCell (M := fun b => wo.heap.size ≤ b) (.inl (Nat.le_refl _)) _⟩
          case measure => simp [intOf]; omega
        · obtain rfl : l = kn3 := by omega
          have dl : decide ((l : Int) < l) = false := decide_eq_false (by omega)
          have hW1 : (mirW (gw x.planks k)).knots.length = l := by unfold mirW; simpa using hkl.out
          obtain ⟨ta', tc', hte, hsp⟩ := spans_own hown2 (by omega) hW1 (fun j hj => by
            have hkn := knot_of hb'.out (i := k) (k := j) (by rw [hpn.out]; exact hlt) (by rw [hkl.out]; exact hj)
            rw [gp_mir (by rw [hkl.out]; exact hj)]
            rw [← hL'.out] at hkn ⊢
            obtain ⟨b0, b1, b2⟩ := hkn
            unfold mirS I64
            simp only
            omega)
          cases hte
          have hown3 := own_same hown hs2 (fun g hg e => by have := (hown.lt g hg).2; omega)
          have hlt3 := hown.lt
          have hnb : ∀ b, (Value.slice va vn vc).ownBlock = some b → w.heap.size + 3 ≤ b ∧ b < wo.heap.size := fun b e => hlt3 b e
          have hnt : ∀ b, (Value.slice ta l tc).ownBlock = some b → wo.heap.size + 1 ≤ b ∧ b < wr.heap.size := fun b e => hown2.lt b e
          have hKMr : Hid (∀ j, j < k → KM wr (w.heap.size + 3) (.slice va vn vc) (KV j) (gw x.planks j)) := Lib.hid (fun j hj => (hKM.out j hj).next hs2 (fun b _ h2 _ h4 => by omega) (fun g hg => .inl hg))
          have hsp' := Lib.hid hsp
          have hHeap := hX2.lt
          have lk2 : w.heap.size + 2 < wr.heap.size := by omega
          clear hks3 hks2 kve k2 k3 hsp
          go_upto_region 12 with fail
          have r1 : wr.cell? ⟨w.heap.size + 2, 0, none⟩ = some (.slice va vn vc) := hX2.cell
          have r2 : wr.cell? ⟨wo.heap.size, 0, none⟩ = some (.int .i64 L) := hT.cell
          have r3 : wr.cell? ⟨wo.heap.size, 1, none⟩ = some (.slice ta l tc) := hT.cell
          clear q0 dl g2
          obtain ⟨ua, un, uc, w7, hap, hown7, hs67, hat⟩ := grow_at woodInfo woodsUnder rfl (by decide) (by decide) hown3 (news := [.int .i64 L, .slice ta l tc]) rfl (fun u hu => by simp at hu; rcases hu with rfl | rfl <;> rfl) (by omega) (by omega)
          have hS7 : SameBut (fun b => (Value.slice va vn vc).ownBlock = some b ∨ wr.heap.size ≤ b) wr w7 := hs67.mono (fun b h => .inl h)
          have hX7 := hX2.same hS7 (fun e => by rcases e with e | e; have := hnb _ e; omega; omega)
          have x0 : w7.cell? ⟨w.heap.size + 2, 0, none⟩ = some (.slice va vn vc) := hX7.cell
          have xf : w7.frozen? ⟨w.heap.size + 2, 0, none⟩ = false := hX7.frozen
          obtain ⟨K2, hK2⟩ : ∃ K2 : Nat → Value, K2 = fun j => if j = k then .slice ta l tc else KV j := ⟨_, rfl⟩
          have hown8 : Hid (w7.ownsRow (w.heap.size + 3) 48 2 (.slice ua un uc) (k + 1) ((List.range (k + 1)).flatMap (mirC x K2))) := Lib.hid (by
            rw [List.range_succ, List.flatMap_append]
            have e : mirC x K2 k = [.int .i64 L, .slice ta l tc] := by unfold mirC; rw [hK2, ← hL'.out]; simp
            have e2 : (List.range k).flatMap (mirC x K2) = (List.range k).flatMap (mirC x KV) := by
              rw [List.flatMap_def, List.flatMap_def]
              refine congrArg List.flatten (List.map_congr_left (fun j hj => ?_))
              have hj := List.mem_range.1 hj
              unfold mirC
              rw [hK2]
              simp only [if_neg (show ¬ j = k by omega)]
            rw [show [k].flatMap (mirC x K2) = mirC x K2 k by simp, e, e2]
            exact hown7)
          have hKM8 : Hid (∀ w9, SameBut (fun b => b = w.heap.size + 2) w7 w9 → ∀ j, j < k + 1 → KM w9 (w.heap.size + 3) (.slice ua un uc) (K2 j) (gw x.planks j)) := Lib.hid (fun w9 h9 j hj => by
            have hS9 : SameBut (fun b => ((Value.slice va vn vc).ownBlock = some b ∨ wr.heap.size ≤ b) ∨ b = w.heap.size + 2) wr w9 := (hS7.mono (fun b h => .inl h)).trans (h9.mono (fun b h => .inr h))
            have hat' : ∀ g, (Value.slice ua un uc).ownBlock = some g → (Value.slice va vn vc).ownBlock = some g ∨ wr.heap.size ≤ g := fun g hg => by
              rcases hat g hg with h | h
              · exact .inl h
              · exact .inr (by omega)
            rw [hK2]
            by_cases e : j = k
            · subst e
              simp only [if_true]
              refine ⟨ta, l, tc, rfl, ⟨hsp'.out.len, hsp'.out.small, fun i hi => ?_⟩, fun h0 ad e => ?_⟩
              · obtain ⟨b, o, e, hb, hc⟩ := hsp'.out.get i hi
                have hbt := hnt b (by rw [e]; rfl)
                have hk : ∀ o, w9.cell? ⟨b, o, none⟩ = wr.cell? ⟨b, o, none⟩ := fun o => hS9.cell hb (fun h => by
                  rcases h with (h | h) | h
                  · have := hnb _ h; omega
                  · omega
                  · omega)
                exact ⟨b, o, e, Nat.lt_of_lt_of_le hb hS9.size, fun j hj => by rw [hk, hk]; exact hc j hj⟩
              · have hbt := hnt ad.block (by rw [e]; rfl)
                refine ⟨by omega, fun h => ?_⟩
                rcases hat' _ h with h | h
                · have := hnb _ h; omega
                · omega
            · simp only [if_neg e]
              exact (hKMr.out j (by omega)).next hS9 (fun b h1 h2 h3 h4 => by
                rcases h4 with (h | h) | h
                · exact h3 h
                · omega
                · omega) hat')
          clear hK2 hown7
          have lwo : wo.heap.size < wr.heap.size := by omega
          go_wp2_with fail
          go_roundw
          case rel => exact ⟨k + 1, ua, un, uc, K2, by omega, by go_num, hX7.setAt (i := 0) (.slice ua un uc), own_same hown8.out ((SameBut.refl (fun b => b = w.heap.size + 2) w7).setCell (M := fun b => b = w.heap.size + 2) (.inl rfl) _) (fun g hg e => by have := (hown8.out.lt g hg).1; omega), Lib.hid (hKM8.out _ ((SameBut.refl (fun b => b = w.heap.size + 2) w7).setCell (M := fun b => b = w.heap.size + 2) (.inl rfl) _)), ((hs.trans (hs2.mono (fun b h => by omega))).trans (hS7.mono (fun b h => by rcases h with h | h; have := hnb _ h; omega; omega))).setCell (M := fun b => w.heap.size + 2 ≤ b) (.inl (Nat.le_refl _)) _⟩
          case measure => simp [intOf]; omega
    · obtain rfl : k = pn := by omega
      have dk : decide ((k : Int) < k) = false := decide_eq_false (by omega)
      have x0 : wo.cell? ⟨w.heap.size + 2, 0, none⟩ = some (.slice va vn vc) := hX.cell
      have x1 : wo.cell? ⟨w.heap.size + 2, 1, none⟩ = some (.slice sa sn sc) := hX.cell
      have hr2 := hr0.same hs (by omega)
      have r0 : wo.cell? ⟨w.heap.size + 1, 0, none⟩ = some (.slice none 0 0) := hr2.cell
      have r1 : wo.cell? ⟨w.heap.size + 1, 1, none⟩ = some (.slice none 0 0) := hr2.cell
      have f0 : wo.frozen? ⟨w.heap.size + 1, 0, none⟩ = false := hr2.frozen
      have f1 : wo.frozen? ⟨w.heap.size + 1, 1, none⟩ = false := hr2.frozen
      have hvn : vn = k := by
        obtain ⟨a1, c1, e1, _⟩ := own_get hown (by omega)
        cases e1
        rfl
      have hfin : ∀ w9, SameBut (fun b => b = w.heap.size + 1) wo w9 → BookAt w9.heap.size w9 va vn sa sn (mirB x) ∧ Below w.heap.size w w9 := by
        intro w9 h9
        have hz9 := h9.size
        have h09 : SameBut (fun b => w.heap.size + 1 ≤ b) w0 w9 := (hs.mono (fun b h => by omega)).trans (h9.mono (fun b h => by omega))
        have o1 := own_same hown h9 (fun g hg e => by have := (hown.lt g hg).1; omega)
        have hl : (mirB x).planks.length = k := by unfold mirB; simpa using hpn.out
        obtain ⟨a1, c1, e1, hg⟩ := own_get o1 (by omega)
        cases e1
        refine ⟨⟨⟨hl, by omega, fun i hi => ?_⟩, hparts.out.keep (by omega) (fun b o h => h09.cell (by omega) (by omega))⟩, hb0.trans (h09.toBelow (by omega) (fun b h => by omega))⟩
        obtain ⟨g, rfl, hgl, hgb, hc⟩ := hg i hi
        refine ⟨g, 0, rfl, hgl, fun j hj => ?_⟩
        obtain ⟨a, n, c, e, hsp, _⟩ := (hKM.out j hj).next h9 (fun b h1 _ _ h => by omega) (fun g hg => .inl hg)
        have e2 : ∀ l, l < 2 → ((List.range k).flatMap (mirC x KV))[j * 2 + l]? = (mirC x KV j)[l]? := fun l hl => by
          rw [flat_get (L := List.range k) (f := mirC x KV) (m := 2) (fun _ => rfl) (by simpa using hj) hl, List.getElem_range]
        rw [gw_mir (by rw [hpn.out]; exact hj)]
        have hLb := hG.out.wood j (by rw [hpn.out]; exact hj)
        refine ⟨KV j, ⟨a, n, c, e, hsp⟩, ?_, ?_, ?_⟩
        · rw [Nat.zero_add]; exact hc (j * 2) _ (e2 0 (by decide))
        · rw [Nat.zero_add]; exact hc (j * 2 + 1) _ (e2 1 (by decide))
        · show I64 (gw x.planks j).long
          unfold I64
          omega
      have hfin' := Lib.hid hfin
      clear hfin
      go_wp2_with fail
      refine bodyPost_ret (v := .agg #[.slice va vn vc, .slice sa sn sc]) ?_ rfl ⟨va, vn, vc, rfl, hfin'.out _ (((SameBut.refl _ wo).setCell (M := fun b => b = w.heap.size + 1) (.inl rfl) _).setCell (M := fun b => b = w.heap.size + 1) (.inl rfl) _)⟩
      simp [results, Try.results53, go_sem, r0, r1, hvn]
end Go.Proofs.Ytilbkmogmlcpaaa
