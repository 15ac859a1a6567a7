/- Walks: is there a book, and is it as small as it can be? Has a part no joint at one of some knots? Walks: has a part no joint at one of some knots? Plain mathematics: what Can and Spots answer in a valid book, said by joints and knots. -/
import Derived.Test.YtilbkmogmlcpaaaPs15
namespace Go.Proofs.Ytilbkmogmlcpaaa
open Go.RowKit Go.Shelf

theorem grows_of {x : Book} (h : bookOk x = true) {i : Nat} (hi : i < x.parts.length) : growsB (gs x.parts i).joints (gs x.parts i).long = true := by
  have hG := good_of h
  refine growsB_of ?_ (fun k hk => hG.joint i hi k hk)
  unfold bookOk at h
  simp only [Bool.and_eq_true, allB_iff] at h
  have := h.2 i hi
  unfold shapeOk at this
  simp only [Bool.and_eq_true] at this
  exact this.2
theorem knot_of {x : Book} (h : bookOk x = true) {i k : Nat} (hi : i < x.planks.length) (hk : k < (gw x.planks i).knots.length) :
    0 ≤ (gp (gw x.planks i).knots k).1 ∧ (gp (gw x.planks i).knots k).1 ≤ (gp (gw x.planks i).knots k).2 ∧ (gp (gw x.planks i).knots k).2 ≤ (gw x.planks i).long - 1 := by
  unfold bookOk at h
  simp only [Bool.and_eq_true, allB_iff] at h
  have := h.1.2 i hi
  unfold woodOk at this
  simp only [Bool.and_eq_true, allB_iff] at this
  have := this.2 k hk
  unfold spanOk withinB at this
  simp only [Bool.and_eq_true, decide_eq_true_eq] at this
  omega

set_option maxRecDepth 100000 in
set_option maxHeartbeats 2000000 in
theorem sound_any {B : Nat} {pa sa : Option Addr} {pn pc sn sc : Nat} {x : Book} {w : World} (hB : B ≤ w.heap.size) (hx : BookAt B w pa pn sa sn x) :
    Calls Try.prog 34 #[.agg #[.slice pa pn pc, .slice sa sn sc]] w fun e w' => e = .returned (.bool (bookOk x)) ∧ Below w.heap.size w w' := by
  have hpn := Lib.hid hx.planks.len
  have hsn := Lib.hid hx.parts.len
  have hps := hx.planks.small
  have hss := hx.parts.small
  obtain ⟨W0, hW0⟩ : ∃ W0, W0 = w.alloc (.cells #[.slice pa pn pc, .slice sa sn sc] 25) := ⟨_, rfl⟩
  have hb0 : Below w.heap.size w W0 := by rw [hW0]; exact (Below.refl _ _).alloc (Nat.le_refl _) _
  have hk0 : Blk W0 w.heap.size #[.slice pa pn pc, .slice sa sn sc] := by rw [hW0]; exact Blk.new w _ _
  have hsz0 : W0.heap.size = w.heap.size + 1 := by rw [hW0]; simp
  have hx0 := Lib.hid (hx.keep (w' := W0) (Nat.le_refl _) (fun b o h => bcells hb0 b o (by omega)))
  have hx' := Lib.hid hx
  clear hx
  have hs0 := Lib.hid hsz0
  have l0 : w.heap.size < W0.heap.size := by omega
  clear hsz0
  rcases Bool.eq_false_or_eq_true (bookOk x) with hb | hb
  case inr =>
    rw [hb]
    have hb' := Lib.hid hb
    clear hb
    go_enter Try.func34, Try.ntmps34
    replace hW0 := hW0.symm
    have q0 : W0.cell? ⟨w.heap.size, 0, none⟩ = some (.slice pa pn pc) := hk0.cell
    have q1 : W0.cell? ⟨w.heap.size, 1, none⟩ = some (.slice sa sn sc) := hk0.cell
    go_wp2_with (go_at_call 18; refine (Check_any (B := B) (by omega) hx0.out).mono ?_; rintro e w1 ⟨rfl, hb1⟩; rw [hb'.out]; have hbw : Below w.heap.size w w1 := hb0.trans (hb1.mono (by omega)); clear hb1)
    clear hW0
    go_loopw [3, 4] (fun v i wr => v = .bool false ∧ i = .int .i64 0 ∧ w1 = wr) (fun _ _ _ => 0)
    case atStart => exact ⟨rfl, rfl, rfl⟩
    case round =>
      obtain ⟨rfl, rfl, rfl⟩ := hrel
      go_wp2
      go_loopw [3, 7] (fun v i wr => v = .bool false ∧ i = .int .i64 0 ∧ w1 = wr) (fun _ _ _ => 0)
      case atStart => exact ⟨rfl, rfl, rfl⟩
      case round =>
        obtain ⟨rfl, rfl, rfl⟩ := hrel
        go_wp2
        go_ret
        exact ⟨rfl, hbw⟩
  case inl =>
    rw [hb]
    have hG := good_of hb
    have hb' := Lib.hid hb
    clear hb
    have hp1 := hG.planks
    have hp2 := hG.parts
    rw [hpn.out] at hp1
    rw [hsn.out] at hp2
    obtain ⟨p1, p2⟩ := hp1
    obtain ⟨s1, s2⟩ := hp2
    have hG' := Lib.hid hG
    clear hG
    go_enter Try.func34, Try.ntmps34
    replace hW0 := hW0.symm
    have q0 : W0.cell? ⟨w.heap.size, 0, none⟩ = some (.slice pa pn pc) := hk0.cell
    have q1 : W0.cell? ⟨w.heap.size, 1, none⟩ = some (.slice sa sn sc) := hk0.cell
    go_wp2_with (first | (go_at_call 18; refine (Check_any (B := B) (by omega) hx0.out).mono ?_; rintro e w1 ⟨rfl, hb1⟩; rw [hb'.out]; have bk1 := hk0.below hb1 l0; have q0 : w1.cell? ⟨w.heap.size, 0, none⟩ = some (.slice pa pn pc) := bk1.cell; have q1 : w1.cell? ⟨w.heap.size, 1, none⟩ = some (.slice sa sn sc) := bk1.cell; have l1 : w.heap.size < w1.heap.size := Nat.lt_of_lt_of_le l0 hb1.size; have hbw : Below w.heap.size w w1 := hb0.trans (hb1.mono (by omega)); clear hb1) | (go_at_call 38; refine (In_yes (by omega) (by omega) _).mono ?_; rintro e w' ⟨rfl, rfl⟩))
    clear q0 q1 hW0
    go_loopw [3, 4] (fun v i wr => ∃ k : Nat, k ≤ pn ∧ v = .bool true ∧ i = .int .i64 k ∧ Below w1.heap.size w1 wr) (fun _ i _ => pn - (intOf i).toNat)
    case atStart => exact ⟨0, by omega, rfl, rfl, Below.refl _ _⟩
    case round =>
      obtain ⟨k, hk, rfl, rfl, hb2⟩ := hrel
      have bk2 := bk1.below hb2 l1
      have q0 : wr.cell? ⟨w.heap.size, 0, none⟩ = some (.slice pa pn pc) := bk2.cell
      have q1 : wr.cell? ⟨w.heap.size, 1, none⟩ = some (.slice sa sn sc) := bk2.cell
      have l2 : w.heap.size < wr.heap.size := Nat.lt_of_lt_of_le l1 hb2.size
      have hbr : Below w.heap.size w wr := hbw.trans (hb2.mono (by omega))
      by_cases hlt : k < pn
      · obtain ⟨b, o, rfl, hbB, hc⟩ := hx'.out.planks.get _ hlt
        obtain ⟨v, hv, hc1, hc2, hi1⟩ := hc k hlt
        clear hc
        have d1 := (bcells hbr _ (o + k * 2) (by omega)).trans hc1
        have d2 := (bcells hbr _ (o + k * 2 + 1) (by omega)).trans hc2
        obtain ⟨ka, kn, kc, rfl, hks⟩ := hv
        clear hc1 hc2
        have hw := hG'.out.wood k (by rw [hpn.out]; exact hlt)
        rw [hks.len] at hw
        obtain ⟨hw1, hw2, hw3⟩ := hw
        obtain ⟨L, hL⟩ : ∃ L, L = (gw x.planks k).long := ⟨_, rfl⟩
        rw [← hL] at hw1 hw2 d1
        have hL' := Lib.hid hL
        clear hL hi1
        have hks' := Lib.hid hks
        clear hks
        have lb : b < wr.heap.size := by omega
        have hk3 : decide ((kn : Int) ≤ 3) = true := decide_eq_true (by omega)
        go_wp2_with (go_at_call 38; refine (In_yes (by omega) (by omega) _).mono ?_; rintro e w' ⟨rfl, rfl⟩)
        obtain ⟨wo, hwo⟩ : ∃ wo, wo = wr := ⟨_, rfl⟩
        rw [← hwo] at bk2 q0 q1 l2 hbr d1 d2 lb hb2 ⊢
        clear hwo
        obtain ⟨W2, hW2⟩ : ∃ W2, W2 = wo.alloc (.cells #[.int .i64 L, .slice ka kn kc] 48) := ⟨_, rfl⟩
        have hb3 : Below wo.heap.size wo W2 := by rw [hW2]; exact (Below.refl _ _).alloc (Nat.le_refl _) _
        have hk2 : Blk W2 wo.heap.size #[.int .i64 L, .slice ka kn kc] := by rw [hW2]; exact Blk.new wo _ _
        have l3 : wo.heap.size < W2.heap.size := hk2.lt
        have hb4 : Below w.heap.size w W2 := hbr.trans (hb3.mono (by omega))
        have hb5 : Below w1.heap.size w1 W2 := hb2.trans (hb3.mono hb2.size)
        have hkn := Lib.hid hks'.out.len
        rw [← hW2]
        clear hW2 hb3 d1 d2 lb bk2 q0 q1 hb2 hbr hk3
        go_loopw [3, 6] (fun v i wr => ∃ j : Nat, j ≤ kn ∧ v = .bool true ∧ i = .int .i64 j ∧ Below W2.heap.size W2 wr) (fun _ i _ => kn - (intOf i).toNat)
        case atStart => exact ⟨0, by omega, rfl, rfl, Below.refl _ _⟩
        case round =>
          obtain ⟨j, hj, rfl, rfl, hb6⟩ := hrel
          have bk3 := hk2.below hb6 l3
          have q0 : wr.cell? ⟨wo.heap.size, 0, none⟩ = some (.int .i64 L) := bk3.cell
          have q1 : wr.cell? ⟨wo.heap.size, 1, none⟩ = some (.slice ka kn kc) := bk3.cell
          have l4 : wo.heap.size < wr.heap.size := Nat.lt_of_lt_of_le l3 hb6.size
          by_cases hjl : j < kn
          · obtain ⟨kb, ko, rfl, hkB, hkc⟩ := hks'.out.get _ hjl
            obtain ⟨g1, g2, i1, i2⟩ := hkc j hjl
            clear hkc
            have hbw6 : Below w.heap.size w wr := hb4.trans (hb6.mono (by omega))
            have g1' := (bcells hbw6 _ (ko + j * 2) (by omega)).trans g1
            have g2' := (bcells hbw6 _ (ko + j * 2 + 1) (by omega)).trans g2
            clear g1 g2
            have hko := knot_of hb'.out (i := k) (k := j) (by rw [hpn.out]; exact hlt) (by rw [hkn.out]; exact hjl)
            rw [← hL'.out] at hko
            obtain ⟨X, hX⟩ : ∃ X, X = (gp (gw x.planks k).knots j).1 := ⟨_, rfl⟩
            obtain ⟨Y, hY⟩ : ∃ Y, Y = (gp (gw x.planks k).knots j).2 := ⟨_, rfl⟩
            rw [← hX] at hko g1'
            rw [← hY] at hko g2'
            obtain ⟨o1, o2, o3⟩ := hko
            clear hX hY i1 i2
            have e1 : IntKind.i64.wrap (L - 1) = L - 1 := IntWalk.i64_in _ (by omega)
            have lk : kb < wr.heap.size := by omega
            go_wp2
            go_still_tail 8, (by kernel_rfl)
            go_wp2_with (go_at_call 68; refine (Ordered_yes _ (by omega) (by omega) (by omega)).mono ?_; rintro e w' ⟨rfl, hb7⟩)
            go_roundw
            case rel => exact ⟨j + 1, by omega, rfl, by go_num, hb6.drew.trans (hb7.mono hb6.size)⟩
            case measure => simp [intOf]; omega
          · obtain rfl : j = kn := by omega
            go_wp2
            go_roundw
            case rel => exact ⟨k + 1, by omega, rfl, by go_num, hb5.trans (hb6.mono hb5.size)⟩
            case measure => simp [intOf]; omega
      · obtain rfl : k = pn := by omega
        go_wp2
        obtain ⟨w2, hw2⟩ : ∃ w2, w2 = wr := ⟨_, rfl⟩
        rw [← hw2] at bk2 q0 q1 l2 hbr hb2 ⊢
        clear hw2 q0 q1 hb2
        go_loopw [3, 7] (fun v i wr => ∃ j : Nat, j ≤ sn ∧ v = .bool true ∧ i = .int .i64 j ∧ Below w2.heap.size w2 wr) (fun _ i _ => sn - (intOf i).toNat)
        case atStart => exact ⟨0, by omega, rfl, rfl, Below.refl _ _⟩
        case round =>
          obtain ⟨j, hj, rfl, rfl, hb3⟩ := hrel
          have bk3 := bk2.below hb3 l2
          have q0 : wr.cell? ⟨w.heap.size, 0, none⟩ = some (.slice pa k pc) := bk3.cell
          have q1 : wr.cell? ⟨w.heap.size, 1, none⟩ = some (.slice sa sn sc) := bk3.cell
          have l3 : w.heap.size < wr.heap.size := Nat.lt_of_lt_of_le l2 hb3.size
          have hbr3 : Below w.heap.size w wr := hbr.trans (hb3.mono (by omega))
          by_cases hlt2 : j < sn
          · obtain ⟨b, o, rfl, hbB, hc⟩ := hx'.out.parts.get _ hlt2
            obtain ⟨v, hv, hc1, hc2, hc3, hi1⟩ := hc j hlt2
            clear hc
            have d1 := (bcells hbr3 _ (o + j * 3) (by omega)).trans hc1
            have d2 := (bcells hbr3 _ (o + j * 3 + 1) (by omega)).trans hc2
            have d3 := (bcells hbr3 _ (o + j * 3 + 2) (by omega)).trans hc3
            obtain ⟨ka, kn, kc, rfl, hks⟩ := hv
            clear hc1 hc2 hc3
            have hw := hG'.out.shape j (by rw [hsn.out]; exact hlt2)
            have hgr := Lib.hid (grows_of hb'.out (i := j) (by rw [hsn.out]; exact hlt2))
            rw [hks.len] at hw
            obtain ⟨hw1, hw2, hw3⟩ := hw
            obtain ⟨L, hL⟩ : ∃ L, L = (gs x.parts j).long := ⟨_, rfl⟩
            rw [← hL] at hw1 hw2 d1
            have hL' := Lib.hid hL
            clear hL hi1
            have hk3 : decide ((kn : Int) ≤ 3) = true := decide_eq_true (by omega)
            have lb : b < wr.heap.size := by omega
            have hks' := Lib.hid (hks.keep (w' := wr.alloc (.cells #[.int .i64 L, .slice ka kn kc, .bool (gs x.parts j).turns] 50)) (Nat.le_refl _) (fun b o h => (cell_alloc_lt _ (by omega)).trans (bcells hbr3 b o (by omega))))
            clear hks
            go_wp2_with (first | (go_at_call 38; refine (In_yes (by omega) (by omega) _).mono ?_; rintro e w' ⟨rfl, rfl⟩) | (go_at_call 39; refine (Grows_any (m := L) hks'.out).mono ?_; rintro e w' ⟨rfl, q, rfl⟩; rw [hL'.out, hgr.out]))
            go_roundw
            case rel => exact ⟨j + 1, by omega, rfl, by go_num, below_drewN (hb3.alloc hb3.size _) _⟩
            case measure => simp [intOf]; omega
          · obtain rfl : j = sn := by omega
            go_wp2
            go_ret
            exact ⟨rfl, hbr3⟩
end Go.Proofs.Ytilbkmogmlcpaaa
namespace Go.Proofs.Ytilbkmogmlcpaaa
open Go.RowKit Go.Shelf

/-- Where a joint is, as a part lies at t; turned. -/
def posJ (x : Shape) (t : Int) (turned : Bool) (k : Nat) : Int := if turned = true then t + x.long - 1 - gi x.joints k else t + gi x.joints k
def clearB (x : Shape) (t : Int) (turned : Bool) (ks : List Int) : Bool := allB x.joints.length fun k => decide (findI ks (posJ x t turned k) < 0)

set_option maxRecDepth 100000 in
set_option maxHeartbeats 2000000 in
theorem clear_any {B C : Nat} {v : Value} {x : Shape} {t : Int} {tb turned : Bool} {a : Option Addr} {n c : Nat} {ks : List Int} {w : World} (hB : B ≤ w.heap.size) (hC : C ≤ w.heap.size) (hj : JointsV B w v x) (hk : IntsAt C w a n ks)
    (hin : JointsIn x) (hl : x.long ≤ 12) (h0 : 0 ≤ t) (h1 : t ≤ 16) :
    Calls Try.prog 37 #[.agg #[.int .i64 x.long, v, .bool tb], .int .i64 t, .bool turned, .slice a n c] w fun e w' => e = .returned (.bool (clearB x t turned ks)) ∧ Below w.heap.size w w' := by
  obtain ⟨ja, jn, jc, rfl, hjs⟩ := hj
  have hjn := Lib.hid hjs.len
  have hjm := hjs.small
  obtain ⟨W0, hW0⟩ : ∃ W0, W0 = w.alloc (.cells #[.int .i64 x.long, .slice ja jn jc, .bool tb] 50) := ⟨_, rfl⟩
  have hb0 : Below w.heap.size w W0 := by rw [hW0]; exact (Below.refl _ _).alloc (Nat.le_refl _) _
  have hk0 : Blk W0 w.heap.size #[.int .i64 x.long, .slice ja jn jc, .bool tb] := by rw [hW0]; exact Blk.new w _ _
  have l0 : w.heap.size < W0.heap.size := hk0.lt
  have hjs0 := Lib.hid (hjs.keep (w' := W0) (Nat.le_refl _) (fun b o h => bcells hb0 b o (by omega)))
  have hks0 := Lib.hid (hk.keep (w' := W0) (Nat.le_refl _) (fun b o h => bcells hb0 b o (by omega)))
  clear hjs hk
  obtain ⟨R, hR⟩ : ∃ R, R = clearB x t turned ks := ⟨_, rfl⟩
  rw [← hR]
  have hR' := Lib.hid hR
  clear hR
  obtain ⟨L, hL⟩ : ∃ L, L = x.long := ⟨_, rfl⟩
  rw [← hL] at hW0 hk0 hl ⊢
  have hL' := Lib.hid hL
  clear hL
  have hin' := Lib.hid hin
  clear hin
  cases turned with
  | false =>
    go_enter Try.func37, Try.ntmps37
    replace hW0 := hW0.symm
    go_wp2
    clear hW0
    go_loopw [9] (fun i wr => ∃ k : Nat, k ≤ jn ∧ i = .int .i64 k ∧ Hid (allB k (fun k => decide (findI ks (posJ x t false k) < 0)) = true) ∧ Quiet W0 wr) (fun i _ => jn - (intOf i).toNat)
    case atStart => exact ⟨0, by omega, rfl, rfl, Quiet.refl _⟩
    case round =>
      obtain ⟨k, hkn, rfl, hall, hq⟩ := hrel
      obtain ⟨q, rfl⟩ := hq
      have hb1 : Below w.heap.size w (W0.drewN q) := below_drewN hb0 q
      have q0 : W0.cell? ⟨w.heap.size, 0, none⟩ = some (.int .i64 L) := hk0.cell
      have q1 : W0.cell? ⟨w.heap.size, 1, none⟩ = some (.slice ja jn jc) := hk0.cell
      by_cases hlt : k < jn
      · obtain ⟨b, o, rfl, hbB, hc⟩ := hjs0.out.get _ hlt
        have g1 := (hc k hlt).1
        clear hc
        have hJ := hin'.out k (by rw [hjn.out]; exact hlt)
        rw [← hL'.out] at hJ
        obtain ⟨J, hJe⟩ : ∃ J, J = gi x.joints k := ⟨_, rfl⟩
        rw [← hJe] at hJ g1
        obtain ⟨j0, j1⟩ := hJ
        have hp : Hid (posJ x t false k = t + J) := Lib.hid (by unfold posJ; rw [if_neg (by simp), hJe])
        clear hJe
        have hkk := Lib.hid (hks0.out.keep (w' := W0.drewN q) (Nat.le_refl _) (fun _ _ _ => rfl))
        have e1 : IntKind.i64.wrap (t + J) = t + J := IntWalk.i64_in _ (by omega)
        obtain ⟨F, hF⟩ : ∃ F, F = findI ks (t + J) := ⟨_, rfl⟩
        have hF' := Lib.hid hF
        clear hF
        by_cases hneg : 0 ≤ F
        · have hfalse : clearB x t false ks = false := by
            unfold clearB
            exact allB_false (i := k) (by rw [hjn.out]; exact hlt) (by rw [hp.out, ← hF'.out]; simp; omega)
          have hfalse' := Lib.hid hfalse
          clear hfalse
          go_wp2_with (go_at_call 42; refine (Find_any (x := t + J) hkk.out).mono ?_; rintro e w' ⟨rfl, q2, rfl⟩; rw [← hF'.out])
          go_ret
          exact ⟨ret_bool (by rw [hR'.out, hfalse'.out]), below_drewN hb0 _⟩
        · have hneg' : F < 0 := by omega
          clear hneg
          go_wp2_with (go_at_call 42; refine (Find_any (x := t + J) hkk.out).mono ?_; rintro e w' ⟨rfl, q2, rfl⟩; rw [← hF'.out])
          go_roundw
          case rel => exact ⟨k + 1, by omega, by go_num, allB_succ hall.out (by rw [hp.out, ← hF'.out]; simpa using hneg'), ⟨_, rfl⟩⟩
          case measure => simp [intOf]; omega
      · obtain rfl : k = jn := by omega
        have htrue : clearB x t false ks = true := by unfold clearB; rw [hjn.out]; exact hall.out
        have htrue' := Lib.hid htrue
        clear htrue
        go_wp2
        go_ret
        exact ⟨ret_bool (by rw [hR'.out, htrue'.out]), hb1⟩
  | true =>
    go_enter Try.func37, Try.ntmps37
    replace hW0 := hW0.symm
    go_wp2
    clear hW0
    go_loopw [9] (fun i wr => ∃ k : Nat, k ≤ jn ∧ i = .int .i64 k ∧ Hid (allB k (fun k => decide (findI ks (posJ x t true k) < 0)) = true) ∧ Quiet W0 wr) (fun i _ => jn - (intOf i).toNat)
    case atStart => exact ⟨0, by omega, rfl, rfl, Quiet.refl _⟩
    case round =>
      obtain ⟨k, hkn, rfl, hall, hq⟩ := hrel
      obtain ⟨q, rfl⟩ := hq
      have hb1 : Below w.heap.size w (W0.drewN q) := below_drewN hb0 q
      have q0 : W0.cell? ⟨w.heap.size, 0, none⟩ = some (.int .i64 L) := hk0.cell
      have q1 : W0.cell? ⟨w.heap.size, 1, none⟩ = some (.slice ja jn jc) := hk0.cell
      by_cases hlt : k < jn
      · obtain ⟨b, o, rfl, hbB, hc⟩ := hjs0.out.get _ hlt
        have g1 := (hc k hlt).1
        clear hc
        have hJ := hin'.out k (by rw [hjn.out]; exact hlt)
        rw [← hL'.out] at hJ
        obtain ⟨J, hJe⟩ : ∃ J, J = gi x.joints k := ⟨_, rfl⟩
        rw [← hJe] at hJ g1
        obtain ⟨j0, j1⟩ := hJ
        have hp : Hid (posJ x t true k = t + L - 1 - J) := Lib.hid (by unfold posJ; rw [if_pos rfl, hJe, hL'.out])
        clear hJe
        have e1 : IntKind.i64.wrap (t + J) = t + J := IntWalk.i64_in _ (by omega)
        have e2 : IntKind.i64.wrap (t + L) = t + L := IntWalk.i64_in _ (by omega)
        have e3 : IntKind.i64.wrap (t + L - 1) = t + L - 1 := IntWalk.i64_in _ (by omega)
        have e4 : IntKind.i64.wrap (t + L - 1 - J) = t + L - 1 - J := IntWalk.i64_in _ (by omega)
        obtain ⟨F, hF⟩ : ∃ F, F = findI ks (t + L - 1 - J) := ⟨_, rfl⟩
        have hF' := Lib.hid hF
        clear hF
        by_cases hneg : 0 ≤ F
        · have hfalse : clearB x t true ks = false := by
            unfold clearB
            exact allB_false (i := k) (by rw [hjn.out]; exact hlt) (by rw [hp.out, ← hF'.out]; simp; omega)
          have hfalse' := Lib.hid hfalse
          clear hfalse
          go_wp2
          go_quiet (fail)
          go_wp2_with (go_at_call 42; refine (Find_any (B := C) (x := t + L - 1 - J) (by exact hks0.out.keep (Nat.le_refl _) (fun _ _ _ => rfl))).mono ?_; rintro e w' ⟨rfl, q2, rfl⟩; rw [← hF'.out])
          go_ret
          exact ⟨ret_bool (by rw [hR'.out, hfalse'.out]), below_drewN hb0 _⟩
        · have hneg' : F < 0 := by omega
          clear hneg
          go_wp2
          go_quiet (fail)
          go_wp2_with (go_at_call 42; refine (Find_any (B := C) (x := t + L - 1 - J) (by exact hks0.out.keep (Nat.le_refl _) (fun _ _ _ => rfl))).mono ?_; rintro e w' ⟨rfl, q2, rfl⟩; rw [← hF'.out])
          go_roundw
          case rel => exact ⟨k + 1, by omega, by go_num, allB_succ hall.out (by rw [hp.out, ← hF'.out]; simpa using hneg'), ⟨_, rfl⟩⟩
          case measure => simp [intOf]; omega
      · obtain rfl : k = jn := by omega
        have htrue : clearB x t true ks = true := by unfold clearB; rw [hjn.out]; exact hall.out
        have htrue' := Lib.hid htrue
        clear htrue
        go_wp2
        go_ret
        exact ⟨ret_bool (by rw [hR'.out, htrue'.out]), hb1⟩
end Go.Proofs.Ytilbkmogmlcpaaa
namespace Go.Proofs.Ytilbkmogmlcpaaa
open Go.RowKit Go.Shelf

theorem ask_zero {x : Book} (hb : bookOk x = true) {i p : Nat} (hi : i < x.planks.length) (hp : p < x.parts.length) : askE x i [(p : Int)] = 0 := by
  rw [askE_good hb, if_pos]
  simp only [numB, Bool.and_eq_true, decide_eq_true_eq, allB_iff, List.length_cons, List.length_nil]
  refine ⟨by omega, fun k hk => ?_⟩
  obtain rfl : k = 0 := by omega
  simp [gi]; exact hp
theorem can_good {x : Book} (hb : bookOk x = true) {i p t : Nat} (hi : i < x.planks.length) (hp : p < x.parts.length) (ht : (t : Int) ≤ (gw x.planks i).long - (gs x.parts p).long) :
    canR x i p t = (ansOf (gw x.planks i) (gs x.parts p) t, 0) := by
  unfold canR
  rw [if_pos (ask_zero hb hi hp)]
  unfold boardM
  simp only [Int.toNat_natCast]
  rw [if_pos]
  unfold many
  omega
theorem spots_good {x : Book} (hb : bookOk x = true) {i p : Nat} (hi : i < x.planks.length) (hp : p < x.parts.length) :
    spotsL x i p = ((List.range (many (gw x.planks i).long (gs x.parts p).long)).filter fun t => decide (ansOf (gw x.planks i) (gs x.parts p) t = 2)).map fun (t : Nat) => (t : Int) := by
  unfold spotsL
  rw [if_pos (ask_zero hb hi hp)]
  unfold spotsOf
  simp only [Int.toNat_natCast]
  congr 1
  refine List.filter_congr fun t ht => ?_
  rw [List.mem_range] at ht
  unfold boardM
  simp only [Int.toNat_natCast]
  rw [if_pos (by omega)]
  rfl
theorem spots_none {x : Book} (hb : bookOk x = true) {i p : Nat} (hi : i < x.planks.length) (hp : p < x.parts.length) (h : (gw x.planks i).long < (gs x.parts p).long) : spotsL x i p = [] := by
  rw [spots_good hb hi hp, show many (gw x.planks i).long (gs x.parts p).long = 0 by unfold many; omega]
  rfl
theorem find_mem {xs : List Int} {n : Int} : 0 ≤ findI xs n ↔ n ∈ xs := by
  rw [findI_nonneg, List.mem_iff_getElem]
  constructor
  · rintro ⟨j, hj, e⟩
    exact ⟨j, hj, by rw [← gi_eq hj]; exact e⟩
  · rintro ⟨j, hj, e⟩
    exact ⟨j, hj, by rw [gi_eq hj]; exact e⟩
theorem find_spot {x : Book} (hb : bookOk x = true) {i p t : Nat} (hi : i < x.planks.length) (hp : p < x.parts.length) (ht : (t : Int) ≤ (gw x.planks i).long - (gs x.parts p).long) :
    decide (0 ≤ findI (spotsL x i p) t) = decide (ansOf (gw x.planks i) (gs x.parts p) t = 2) := by
  rw [Bool.eq_iff_iff, decide_eq_true_eq, decide_eq_true_eq, find_mem, spots_good hb hi hp, List.mem_map]
  constructor
  · rintro ⟨t', h, e⟩
    obtain rfl : t' = t := by omega
    rw [List.mem_filter] at h
    simpa using h.2
  · intro h
    refine ⟨t, ?_, rfl⟩
    rw [List.mem_filter, List.mem_range]
    exact ⟨by unfold many; omega, by simpa using h⟩

/-- The joints' marks, as a part lies, turned. -/
def lieM (S : Shape) (t : Nat) (way : Nat) : Nat → Bool := if way = 0 then jointsM S S.joints.length t else turnedM S S.joints.length t
theorem clear_one (S : Shape) (t m : Nat) (way : Nat) (b : Bool) (hw : b = decide (way ≠ 0)) : clearB S t b [(m : Int)] = !lieM S t way m := by
  unfold clearB lieM
  rw [Bool.eq_iff_iff, allB_iff, Bool.not_eq_true']
  have hf : ∀ y : Int, findI [(m : Int)] y < 0 ↔ ¬ y = m := by
    intro y
    have := find_mem (xs := [(m : Int)]) (n := y)
    rw [List.mem_singleton] at this
    rw [← this]; omega
  have hp : ∀ k, posJ S t b k = if way = 0 then t + gi S.joints k else t + S.long - 1 - gi S.joints k := by
    intro k
    unfold posJ
    subst hw
    by_cases h : way = 0 <;> simp [h]
  by_cases h : way = 0
  · simp only [h, if_true] at hp ⊢
    rw [← Bool.not_eq_true, jointsM, anyB_iff]
    constructor
    · rintro h1 ⟨k, hk, e⟩
      have := h1 k hk
      rw [hp, decide_eq_true_eq, hf] at this
      rw [decide_eq_true_eq] at e
      exact this e.symm
    · intro h1 k hk
      rw [hp, decide_eq_true_eq, hf]
      exact fun e => h1 ⟨k, hk, by rw [decide_eq_true_eq]; exact e.symm⟩
  · simp only [h, if_false] at hp ⊢
    rw [← Bool.not_eq_true, turnedM, anyB_iff]
    constructor
    · rintro h1 ⟨k, hk, e⟩
      have := h1 k hk
      rw [hp, decide_eq_true_eq, hf] at this
      rw [decide_eq_true_eq] at e
      exact this e.symm
    · intro h1 k hk
      rw [hp, decide_eq_true_eq, hf]
      exact fun e => h1 ⟨k, hk, by rw [decide_eq_true_eq]; exact e.symm⟩

/-- A knot's inches, one by one. -/
theorem hitC_up {k : Int × Int} {M : Nat → Bool} {a n : Nat} (h0 : k.1 = a) (h1 : k.2 = a + n - 1) (h2 : a + n ≤ 16) : anyB n (fun j => M (a + j)) = hitC k M := by
  unfold hitC
  rw [Bool.eq_iff_iff, anyB_iff, anyB_iff]
  constructor
  · rintro ⟨j, hj, h⟩
    exact ⟨a + j, by omega, by simp only [andM, knotM, betM, Bool.and_eq_true, decide_eq_true_eq]; exact ⟨h, by omega, by omega⟩⟩
  · rintro ⟨m, hm, h⟩
    simp only [andM, knotM, betM, Bool.and_eq_true, decide_eq_true_eq] at h
    exact ⟨m - a, by omega, by rw [show a + (m - a) = m by omega]; exact h.1⟩
theorem hitM_up {k : Int × Int} {M : Nat → Bool} {a n : Nat} (h0 : k.1 = a) (h1 : k.2 = a + n - 1) (h2 : a + n ≤ 16) : allB n (fun j => M (a + j)) = hitM k M := by
  unfold hitM eqIn
  rw [Bool.eq_iff_iff, allB_iff, allB_iff]
  constructor
  · intro h m hm
    rw [beq_iff_eq]
    simp only [andM, knotM, betM]
    by_cases hb : k.1 ≤ (m : Int) ∧ (m : Int) ≤ k.2
    · have := h (m - a) (by omega)
      rw [show a + (m - a) = m by omega] at this
      rw [this]; rfl
    · rw [decide_eq_false hb, Bool.and_false]
  · intro h j hj
    have := h (a + j) (by omega)
    rw [beq_iff_eq] at this
    simp only [andM, knotM, betM] at this
    rw [decide_eq_true (⟨by omega, by omega⟩ : k.1 ≤ ((a + j : Nat) : Int) ∧ ((a + j : Nat) : Int) ≤ k.2), Bool.and_true] at this
    exact this
theorem hitM_hitC {k : Int × Int} {M : Nat → Bool} (hk : Knot k) (h : hitM k M = true) : hitC k M = true := by
  unfold Knot at hk
  obtain ⟨a, ha⟩ := Int.eq_ofNat_of_zero_le hk.1
  obtain ⟨n, hn⟩ : ∃ n : Nat, k.2 = a + n - 1 ∧ 0 < n := ⟨(k.2 - k.1 + 1).toNat, by omega, by omega⟩
  rw [← hitM_up (a := a) (n := n) ha hn.1 (by omega), allB_iff] at h
  rw [← hitC_up (a := a) (n := n) ha hn.1 (by omega), anyB_iff]
  exact ⟨0, hn.2, h 0 hn.2⟩

/-- Whether some of the first n knots can be, must be, at a joint. -/
def mayHit (W : Wood) (S : Shape) (t n way : Nat) : Bool := anyB n fun k => hitC (gp W.knots k) (lieM S t way)
def mustHitB (W : Wood) (S : Shape) (t n way : Nat) : Bool := anyB n fun k => hitM (gp W.knots k) (lieM S t way)
theorem okLie_may (W : Wood) (S : Shape) (t : Nat) : okLie S W.knots hitC t = (!mayHit W S t W.knots.length 0 || (S.turns && !mayHit W S t W.knots.length 1)) := rfl
theorem okLie_must (W : Wood) (S : Shape) (t : Nat) : okLie S W.knots hitM t = (!mustHitB W S t W.knots.length 0 || (S.turns && !mustHitB W S t W.knots.length 1)) := rfl
theorem must_may {W : Wood} {S : Shape} {t n way : Nat} (hk : ∀ k, k < n → Knot (gp W.knots k)) (h : mustHitB W S t n way = true) : mayHit W S t n way = true := by
  unfold mustHitB at h
  unfold mayHit
  rw [anyB_iff] at h ⊢
  obtain ⟨k, hkn, h⟩ := h
  exact ⟨k, hkn, hitM_hitC (hk k hkn) h⟩
theorem ans_two {W : Wood} {S : Shape} {t : Nat} : decide (ansOf W S t = 2) = (!mayHit W S t W.knots.length 0 || (S.turns && !mayHit W S t W.knots.length 1)) := by
  rw [← okLie_may]
  unfold ansOf
  cases okLie S W.knots hitC t <;> cases okLie S W.knots hitM t <;> simp
theorem ans_zero {W : Wood} {S : Shape} {t : Nat} (hk : ∀ k, k < W.knots.length → Knot (gp W.knots k)) : decide (ansOf W S t = 0) = !(!mustHitB W S t W.knots.length 0 || (S.turns && !mustHitB W S t W.knots.length 1)) := by
  rw [← okLie_must]
  have h : okLie S W.knots hitC t = true → okLie S W.knots hitM t = true := by
    rw [okLie_may, okLie_must]
    have h0 := must_may (S := S) (t := t) (way := 0) hk
    have h1 := must_may (S := S) (t := t) (way := 1) hk
    revert h0 h1
    cases mustHitB W S t W.knots.length 0 <;> cases mustHitB W S t W.knots.length 1 <;> cases mayHit W S t W.knots.length 0 <;> cases mayHit W S t W.knots.length 1 <;> cases S.turns <;> simp
  unfold ansOf
  revert h
  cases okLie S W.knots hitC t <;> cases okLie S W.knots hitM t <;> simp

/-- Two truth values in a block. -/
def row2 (f : Nat → Bool) : Array Value := #[.bool (f 0), .bool (f 1)]
theorem row2_get (f : Nat → Bool) {y : Nat} (h : y < 2) : (row2 f)[y]? = some (.bool (f y)) := by
  rcases (by omega : y = 0 ∨ y = 1) with rfl | rfl <;> rfl
theorem row2_set (f : Nat → Bool) {y : Nat} (h : y < 2) (v : Bool) : (row2 f).setIfInBounds y (.bool v) = row2 (upd f y v) := by
  rcases (by omega : y = 0 ∨ y = 1) with rfl | rfl <;> rfl
theorem row2_congr {f g : Nat → Bool} (h0 : f 0 = g 0) (h1 : f 1 = g 1) : row2 f = row2 g := by unfold row2; rw [h0, h1]
/-- The first y ways have seen the k-th knot, too. -/
def stepN (k y way : Nat) : Nat := if way < y then k + 1 else k
theorem stepN_zero (k way : Nat) : stepN k 0 way = k := rfl
theorem stepN_two (k : Nat) {way : Nat} (h : way < 2) : stepN k 2 way = k + 1 := if_pos h
theorem stepN_at (k y : Nat) : stepN k y y = k := if_neg (by omega)
theorem stepN_next {k y way : Nat} (h : way ≠ y) : stepN k (y + 1) way = stepN k y way := by
  unfold stepN
  by_cases h1 : way < y
  · rw [if_pos h1, if_pos (by omega)]
  · rw [if_neg h1, if_neg (by omega)]
theorem stepN_new (k y : Nat) : stepN k (y + 1) y = k + 1 := if_pos (by omega)
theorem row_next {F : Nat → Nat → Bool} {k y : Nat} : row2 (upd (fun way => F (stepN k y way) way) y (F (k + 1) y)) = row2 (fun way => F (stepN k (y + 1) way) way) := by
  have e : ∀ way, upd (fun way => F (stepN k y way) way) y (F (k + 1) y) way = F (stepN k (y + 1) way) way := by
    intro way
    unfold upd
    by_cases h1 : way = y
    · rw [if_pos h1, h1, stepN_new]
    · rw [if_neg h1, stepN_next h1]
  exact row2_congr (e 0) (e 1)
theorem row2_self (f : Nat → Bool) (y : Nat) : row2 (upd f y (f y)) = row2 f := by
  have e : ∀ way, upd f y (f y) way = f way := by
    intro way; unfold upd; by_cases h : way = y
    · rw [if_pos h, h]
    · rw [if_neg h]
  exact row2_congr (e 0) (e 1)
theorem upd_at (f : Nat → Bool) (y : Nat) (v : Bool) : upd f y v y = v := if_pos rfl
theorem blk_step {w : World} {b y : Nat} {f : Nat → Bool} {u v : Bool} (h : Blk w b (row2 (upd f y u))) (hy : y < 2) : Blk (w.setCell ⟨b, y, none⟩ (.bool v)) b (row2 (upd f y v)) := by
  have := h.setAt (i := y) (.bool v)
  rw [row2_set _ hy] at this
  have e : ∀ way, upd (upd f y u) y v way = upd f y v way := by
    intro way; unfold upd; by_cases h : way = y
    · rw [if_pos h, if_pos h]
    · rw [if_neg h, if_neg h, if_neg h]
  rw [row2_congr (e 0) (e 1)] at this
  exact this
end Go.Proofs.Ytilbkmogmlcpaaa
