/- Walks: the iterator over the places of a part with the inches of its joints. Maps by their keys. -/
import Derived.Test.YtilbkmogmlcpaaaPs04
import Derived.Maps.Own
namespace Go.Proofs.Ytilbkmogmlcpaaa
open Go.RowKit Go.Shelf

attribute [local go_sem] Oper.semAt_some

set_option maxRecDepth 10000 in
set_option maxHeartbeats 400000 in
theorem lyings_any {long : Int} {kv av : Value} {sa : Option Addr} {sn sc : Nat} {p : Nat} {w : World} :
    Calls Try.prog 118 #[.agg #[.int .i64 long, kv, .slice sa sn sc, av], .int .i64 p] w
      fun e w' => e = .returned (.func (.func 129) #[] #[.pointer (some ⟨w.heap.size, 0, none⟩), .pointer (some ⟨w.heap.size + 1, 0, none⟩)]) ∧
        w' = (w.alloc (.cells #[.int .i64 long, kv, .slice sa sn sc, av] 86)).alloc (.cells #[.int .i64 p] 3) := by
  go_enter Try.func118, Try.ntmps118
  go_wp2
  go_ret
  exact ⟨rfl, rfl⟩

/-- All ways to lie: place by place, as it is, and turned if it turns. -/
def lyF (turns : Bool) (t : Nat) : List (Nat × Bool) := if turns then [(t, false), (t, true)] else [(t, false)]
def lyList (N : Nat) (turns : Bool) : List (Nat × Bool) := (List.range N).flatMap (lyF turns)
def lyJoints (x : Shape) (y : Nat × Bool) : Nat → Bool := if y.2 then turnedM x x.joints.length y.1 else jointsM x x.joints.length y.1
def lyEnc (p : Nat) (x : Shape) (y : Nat × Bool) : Array Value := #[placeV p y.1, .agg (encIn (lyJoints x y))]
theorem lyEnc_plain (p : Nat) (x : Shape) (t : Nat) : lyEnc p x (t, false) = #[.agg #[.int .i64 p, .int .i64 t], .agg (encIn (jointsM x x.joints.length t))] := rfl
theorem lyEnc_turned (p : Nat) (x : Shape) (t : Nat) : lyEnc p x (t, true) = #[.agg #[.int .i64 p, .int .i64 t], .agg (encIn (turnedM x x.joints.length t))] := rfl
theorem ly_pre1 {N t : Nat} {turns : Bool} {pre : List Nat} (h : pre ++ [t] <+: List.range N) : pre.flatMap (lyF turns) ++ [(t, false)] <+: lyList N turns := by
  obtain ⟨r, hr⟩ := h
  unfold lyList
  rw [← hr, List.flatMap_append, List.flatMap_append]
  refine ⟨(if turns then [(t, true)] else []) ++ r.flatMap (lyF turns), ?_⟩
  cases turns <;> simp [lyF]
theorem ly_pre2 {N t : Nat} {pre : List Nat} (h : pre ++ [t] <+: List.range N) : (pre.flatMap (lyF true) ++ [(t, false)]) ++ [(t, true)] <+: lyList N true := by
  obtain ⟨r, hr⟩ := h
  unfold lyList
  rw [← hr, List.flatMap_append, List.flatMap_append]
  refine ⟨r.flatMap (lyF true), ?_⟩
  simp [lyF]
theorem ly_snoc1 (pre : List Nat) (t : Nat) : (pre ++ [t]).flatMap (lyF false) = pre.flatMap (lyF false) ++ [(t, false)] := by simp [List.flatMap_append, lyF]
theorem ly_snoc2 (pre : List Nat) (t : Nat) : (pre ++ [t]).flatMap (lyF true) = (pre.flatMap (lyF true) ++ [(t, false)]) ++ [(t, true)] := by simp [List.flatMap_append, lyF]

/-- The blocks that the iterator reads. -/
def lyC (B1 B2 Bd : Nat) : Nat → Prop := fun k => k = B1 ∨ k = B2 ∨ k < Bd

set_option maxRecDepth 100000 in
set_option maxHeartbeats 2000000 in
theorem lyings_seq {F : Fence} (hO : Open F) (hro : F.round = none) {B1 B2 Bd p : Nat} {long : Int} {kv av : Value} {sa : Option Addr} {sn sc : Nat} {ps : List Shape} {w : World}
    (h1 : Blk w B1 #[.int .i64 long, kv, .slice sa sn sc, av]) (h2 : Blk w B2 #[.int .i64 p]) (hBd : Bd ≤ w.heap.size) (hs : ShapesAt Bd w sa sn ps) (hp : p < sn)
    (hl0 : 0 ≤ long) (hl1 : long ≤ 16) (hx0 : 1 ≤ (gs ps p).long) (hx1 : (gs ps p).long ≤ 12) (hJi : JointsIn (gs ps p)) :
    Seq F Try.prog 129 #[.pointer (some ⟨B1, 0, none⟩), .pointer (some ⟨B2, 0, none⟩)] (lyEnc p (gs ps p)) (lyList (many long (gs ps p).long) (gs ps p).turns) (lyC B1 B2 Bd) w := by
  intro l R J Jx W hW hR hCR hJ hJx hY h0
  have hF := hO.fn
  have hd := hO.depth
  have g1 := h1.same hW (fun e => e)
  have g2 := h2.same hW (fun e => e)
  have hm1 : ¬ R B1 := hCR _ (.inl rfl)
  have hm2 : ¬ R B2 := hCR _ (.inr (.inl rfl))
  have hmd : ∀ k, k < Bd → ¬ R k := fun k hk => hCR _ (.inr (.inr hk))
  have hWs := hW.size
  have hs1 : ShapesAt Bd W sa sn ps := hs.keep (Nat.le_refl _) (fun b o hb => hW.cell (by omega) (fun e => e))
  have hlt1 := g1.lt
  have hlt2 := g2.lt
  refine callsIn_of_wp_marks Try.func129 rfl (hF _) ?_ hro
  simp only [Try.ntmps129, List.size_toArray, List.length_cons, List.length_nil, Nat.reduceAdd, Nat.reduceSub, Array.replicate_succ, Array.replicate_zero, List.push_toArray, List.append_toArray, List.nil_append, List.cons_append]
  have c10 := g1.cell (i := 0)
  have c11 := g1.cell (i := 1)
  have c12 := g1.cell (i := 2)
  have c13 := g1.cell (i := 3)
  have c20 := g2.cell (i := 0)
  gi_wp2_with (gi_at_call 69; refine (hO.calls (places_any (B := Bd) (ps := ps) (by simp; omega) (hs1.keep (Nat.le_refl _) (fun b o hb => cell_alloc_lt _ (by omega))) hp hl0 hl1 (by omega) hx1)).mono ?_; rintro e w' ⟨rfl, rfl⟩)
  have hN : many long (gs ps p).long ≤ 16 := by unfold many; omega
  have hTN : ∀ t, t < many long (gs ps p).long → (t : Int) + (gs ps p).long ≤ 16 := by unfold many; omega
  have hsc : 0 ≤ sc := Nat.zero_le _
  clear hsc c10 c11 c12 c13 c20
  obtain ⟨W2, hW2⟩ : ∃ W2, W2 = ((((W.alloc (.cells #[.func (.yield l) #[] #[]] 169)).alloc (.cells #[.int .i64 long, kv, .slice sa sn sc, av] 86)).alloc (.cells #[.int .i64 p] 3)).alloc (.cells #[.int .i64 p, .int .i64 (many long (gs ps p).long)] 89)).drew := ⟨_, rfl⟩
  have hS2 : SameBut (fun _ => False) W W2 := by rw [hW2]; exact (((((SameBut.refl _ W).alloc _).alloc _).alloc _).alloc _).drew
  have hsz2 : W2.heap.size = W.heap.size + 4 := by rw [hW2]; simp
  have by2 : Blk W2 W.heap.size #[.func (.yield l) #[] #[]] := by rw [hW2]; exact (((Blk.new W _ _).alloc _).alloc _).alloc _
  have bp2 : Blk W2 (W.heap.size + 2) #[.int .i64 p] := by
    rw [hW2]
    have := (Blk.new ((W.alloc (.cells #[.func (.yield l) #[] #[]] 169)).alloc (.cells #[.int .i64 long, kv, .slice sa sn sc, av] 86)) #[.int .i64 p] 3).alloc (.cells #[.int .i64 p, .int .i64 (many long (gs ps p).long)] 89)
    simp only [World.size_alloc] at this
    exact this
  have bq2 : Blk W2 (W.heap.size + 3) #[.int .i64 p, .int .i64 (many long (gs ps p).long)] := by
    rw [hW2]
    have := Blk.new (((W.alloc (.cells #[.func (.yield l) #[] #[]] 169)).alloc (.cells #[.int .i64 long, kv, .slice sa sn sc, av] 86)).alloc (.cells #[.int .i64 p] 3)) #[.int .i64 p, .int .i64 (many long (gs ps p).long)] 89
    simp only [World.size_alloc] at this
    exact this
  rw [← hW2]
  clear hW2
  have hJ2 : J [] W2 := hJ _ _ _ h0 (hS2.calm _)
  have hs2 : ShapesAt Bd W2 sa sn ps := hs1.keep (Nat.le_refl _) (fun b o hb => hS2.cell (by omega) (fun e => e))
  have k1 := g1.same hS2 (fun e => e)
  have k2 := g2.same hS2 (fun e => e)
  refine wpIn_range hO hro (gf := 103) (lb := #[.pointer (some ⟨W.heap.size + 1 + 1, 0, none⟩), .pointer (some ⟨W.heap.size + 1 + 2, 0, none⟩)]) rfl (enters_of Try.func103 (by kernel_rfl) rfl)
    (places_seq hO hro bp2 bq2 (by omega)) (fun _ => rfl) R (fun k hk => by have := hR k hk; omega)
    (fun k hk => by
      have hk' : k = W.heap.size + 2 ∨ k = W.heap.size + 3 := hk
      exact ⟨by omega, fun e => by have := hR k e; omega⟩)
    (fun pre Wc => J (pre.flatMap (lyF (gs ps p).turns)) Wc ∧ SameBut R W2 Wc)
    (fun c _ Wc => c = .ret ∧ ∃ pre', pre' <+: lyList (many long (gs ps p).long) (gs ps p).turns ∧ Jx pre' Wc)
    ?hI ?hIx ⟨hJ2, SameBut.refl _ _⟩
    (fun t a' Wc => ∃ bx, (Blk Wc bx #[.int .i64 p, .int .i64 t] ∧ ¬ R bx) ∧ a' = { tmps := #[.func (.yield l) #[] #[], .pointer (some ⟨B1, 0, none⟩), .pointer (some ⟨B2, 0, none⟩), .pointer (some ⟨W.heap.size, 0, none⟩), .pointer (some ⟨bx, 0, none⟩), .agg #[.int .i64 long, kv, .slice sa sn sc, av], .int .i64 p,
      .func (.func 103) #[] #[.pointer (some ⟨W.heap.size + 1 + 1, 0, none⟩), .pointer (some ⟨W.heap.size + 1 + 2, 0, none⟩)], placeV p t, undef, undef, undef, undef, undef, undef, undef, undef, undef, undef, undef, undef, undef, undef, undef, undef, undef, undef, undef, undef, undef, undef], defers := [] })
    ?hAx ?assign ?body ?done ?stop
  case hI => exact Stable.and (fun s X Y h hc => hJ _ _ _ h (hc.mono (by omega))) (stable_same (Nat.le_refl _))
  case hIx =>
    rintro c s X Y ⟨hc, pre', hp', hj⟩ hcm
    exact ⟨hc, pre', hp', hJx _ _ _ hj (hcm.mono (by omega))⟩
  case hAx =>
    rintro x a' u X Y ⟨bx, ⟨hb, hn⟩, ha⟩ hc
    exact ⟨bx, ⟨hb.calm hc, hn⟩, ha⟩
  case assign =>
    rintro l2 pre x Wc K hpre ⟨hj, hsb⟩ hK
    gi_wp2
    exact hK _ _ ((SameBut.refl _ _).alloc _) ⟨hJ _ _ _ hj (calm_alloc _ _ _), hsb.alloc _⟩ ⟨Wc.heap.size, ⟨Blk.new Wc _ _, fun e => by have := hR _ e; have := hsb.size; omega⟩, rfl⟩
  case body =>
    rintro l2 pre t a' Wc hpre hl2 hrec ⟨hj, hsb⟩ ⟨bx, ⟨hbx, hnx⟩, rfl⟩
    have htN : t < many long (gs ps p).long := by
      have := List.IsPrefix.sublist hpre |>.subset (show t ∈ pre ++ [t] by simp)
      simpa using this
    have ht := hTN t htN
    obtain ⟨pb, po, rfl, hpB, hpc⟩ := hs2.get _ hp
    obtain ⟨_, _, _, _, hpt, _⟩ := hpc p hp
    clear hpc
    have hO2 := hO.inRound l2
    have hd2 : (F.inRound l2).depth = none := hd
    have hF2 : ∀ f, (F.inRound l2).fn f := hF
    apply wpIn_block
    apply wpIn_seq_k; intro K1 hK1
    apply wpIn_seq_k; intro K2 hK2
    have hmy : ¬ R W.heap.size := fun e => by have := hR _ e; omega
    have kc1 := k1.same hsb hm1
    have kc2 := k2.same hsb hm2
    have kcy := by2.same hsb hmy
    have hread : ∀ w', SameBut R Wc w' → w'.cell? ⟨W.heap.size, 0, none⟩ = some (.func (.yield l) #[] #[]) ∧ w'.cell? ⟨bx, 0, none⟩ = some (.int .i64 p) ∧ w'.cell? ⟨bx, 1, none⟩ = some (.int .i64 t) ∧
        w'.cell? ⟨B1, 0, none⟩ = some (.int .i64 long) ∧ w'.cell? ⟨B1, 1, none⟩ = some kv ∧ w'.cell? ⟨B1, 2, none⟩ = some (.slice (some ⟨pb, po, none⟩) sn sc) ∧ w'.cell? ⟨B1, 3, none⟩ = some av ∧ w'.cell? ⟨B2, 0, none⟩ = some (.int .i64 p) := fun w' h =>
      ⟨(kcy.same h hmy).cell, (hbx.same h hnx).cell, (hbx.same h hnx).cell, (kc1.same h hm1).cell, (kc1.same h hm1).cell, (kc1.same h hm1).cell, (kc1.same h hm1).cell, (kc2.same h hm2).cell⟩
    have hread2 : ∀ w', SameBut R Wc w' → w'.cell? ⟨pb, po + p * 3 + 2, none⟩ = some (.bool (gs ps p).turns) := fun w' h => by
      have e1 := (hsb.trans h).cell (b := pb) (o := po + p * 3 + 2) (by omega) (hmd pb hpB)
      rw [e1]; exact hpt
    refine region_held (fun w' => SameBut R Wc w') (by kernel_rfl) ?_
    have hS0 : SameBut R Wc Wc.drew := (SameBut.refl _ _).drew
    refine held_takeL hO2 0 (v := ?_) rfl (by kernel_rfl) (by kernel_rfl) (by kernel_rfl) (by kernel_rfl) (fun _ _ _ h => h) hS0 (.inl ⟨by rfl, ?_⟩) ?_
    rotate_left
    · intro w' hw'
      obtain ⟨r1, r2, r3, r4, r5, r6, r7, r8⟩ := hread w' hw'
      go_simp
      with_reducible rfl
    simp only [Act.put, List.setIfInBounds_toArray, List.set_cons_zero, List.set_cons_succ]
    refine held_takeL hO2 1 (v := ?_) rfl (by kernel_rfl) (by kernel_rfl) (by kernel_rfl) (by kernel_rfl) (fun _ _ _ h => h) hS0 (.inl ⟨by rfl, ?_⟩) ?_
    rotate_left
    · intro w' hw'
      obtain ⟨r1, r2, r3, r4, r5, r6, r7, r8⟩ := hread w' hw'
      go_simp
      with_reducible rfl
    simp only [Act.put, List.setIfInBounds_toArray, List.set_cons_zero, List.set_cons_succ]
    refine held_takeL hO2 2 (v := ?_) rfl (by kernel_rfl) (by kernel_rfl) (by kernel_rfl) (by kernel_rfl) (fun _ _ _ h => h) hS0 (.inl ⟨by rfl, ?_⟩) ?_
    rotate_left
    · intro w' hw'
      obtain ⟨r1, r2, r3, r4, r5, r6, r7, r8⟩ := hread w' hw'
      go_simp
      with_reducible rfl
    simp only [Act.put, List.setIfInBounds_toArray, List.set_cons_zero, List.set_cons_succ]
    refine held_takeL hO2 3 (v := ?_) rfl (by kernel_rfl) (by kernel_rfl) (by kernel_rfl) (by kernel_rfl) (fun _ _ _ h => h) hS0 (.inl ⟨by rfl, ?_⟩) ?_
    rotate_left
    · intro w' hw'
      obtain ⟨r1, r2, r3, r4, r5, r6, r7, r8⟩ := hread w' hw'
      go_simp
      with_reducible rfl
    simp only [Act.put, List.setIfInBounds_toArray, List.set_cons_zero, List.set_cons_succ]
    refine held_oneL 4 (by kernel_rfl) rfl (fun K hK => ?_)
    go_simp
    have hsP : ShapesAt Bd Wc.drew (some ⟨pb, po, none⟩) sn ps := hs2.keep (Nat.le_refl _) (fun b o hb => hsb.cell (by omega) (hmd b hb))
    refine (hO2.calls (joints_any (B := Bd) (ps := ps) (by have := hsb.size; show Bd ≤ Wc.heap.size; omega) hsP hp hJi ht)).mono ?_
    rintro e w4 ⟨rfl, hb4⟩
    have hF4 : SameBut (fun _ => False) Wc w4 := (SameBut.refl _ Wc).drew.below hb4
    have hR4 : SameBut R Wc w4 := hF4.mono (fun _ h => h.elim)
    refine hK _ _ hR4 ?_
    clear hK K
    obtain ⟨fn, tmps, assign, body, hy, hRd⟩ := hY _ (t, false) w4 (ly_pre1 hpre) (hJ _ _ _ hj (hF4.calm _))
    refine held_oneL 5 (by kernel_rfl) rfl (fun K hK => ?_)
    rw [lyEnc_plain] at hy
    go_simp
    refine (show RoundIn (F.inRound l2) 0 Try.prog l fn tmps assign body w4 _ from hRd).mono ?_
    rintro e w5 (⟨rfl, hJ5, hs5⟩ | ⟨rfl, hJx5, hs5⟩)
    · have hS5 := hR4.trans hs5
      refine hK _ _ hS5 ?_
      clear hK K
      refine held_takeL hO2 6 (v := ?_) rfl (by kernel_rfl) (by kernel_rfl) (by kernel_rfl) (by kernel_rfl) (fun _ _ _ h => h) hS5 (.inl ⟨by rfl, ?_⟩) ?_
      rotate_left
      · intro w' hw'
        go_simp
        with_reducible rfl
      simp only [Act.put, List.setIfInBounds_toArray, List.set_cons_zero, List.set_cons_succ]
      refine held_done (by kernel_rfl) ?_ _
      refine hK2 _ _ ?_
      clear hK2 K2
      gi_wp2
      refine region_held (fun w' => SameBut R Wc w') (by kernel_rfl) ?_
      have hS6 : SameBut R Wc w5.drew := hS5.drew
      have hpl : (p : Int) < sn := by omega
      clear hy
      rcases Bool.eq_false_or_eq_true (gs ps p).turns with htu | htu
      case inr =>
        have htu' := Lib.hid htu
        have hread3 : ∀ w', SameBut R Wc w' → w'.cell? ⟨pb, po + p * 3 + 2, none⟩ = some (.bool false) := fun w' h => by rw [hread2 w' h, htu]
        clear htu hread2
        refine held_takeL hO2 0 (v := ?_) rfl (by kernel_rfl) (by kernel_rfl) (by kernel_rfl) (by kernel_rfl) (fun _ _ _ h => h) hS6 (.inl ⟨by rfl, ?_⟩) ?_
        rotate_left
        · intro w' hw'
          obtain ⟨r1, r2, r3, r4, r5, r6, r7, r8⟩ := hread w' hw'
          have r9 := hread3 w' hw'
          go_simp
          with_reducible rfl
        simp only [Act.put, List.setIfInBounds_toArray, List.set_cons_zero, List.set_cons_succ]
        refine held_takeL hO2 1 (v := ?_) rfl (by kernel_rfl) (by kernel_rfl) (by kernel_rfl) (by kernel_rfl) (fun _ _ _ h => h) hS6 (.inl ⟨by rfl, ?_⟩) ?_
        rotate_left
        · intro w' hw'
          obtain ⟨r1, r2, r3, r4, r5, r6, r7, r8⟩ := hread w' hw'
          have r9 := hread3 w' hw'
          go_simp
          with_reducible rfl
        simp only [Act.put, List.setIfInBounds_toArray, List.set_cons_zero, List.set_cons_succ]
        refine held_takeL hO2 2 (v := ?_) rfl (by kernel_rfl) (by kernel_rfl) (by kernel_rfl) (by kernel_rfl) (fun _ _ _ h => h) hS6 (.inl ⟨by rfl, ?_⟩) ?_
        rotate_left
        · intro w' hw'
          obtain ⟨r1, r2, r3, r4, r5, r6, r7, r8⟩ := hread w' hw'
          have r9 := hread3 w' hw'
          go_simp
          with_reducible rfl
        simp only [Act.put, List.setIfInBounds_toArray, List.set_cons_zero, List.set_cons_succ]
        refine held_takeL hO2 3 (v := ?_) rfl (by kernel_rfl) (by kernel_rfl) (by kernel_rfl) (by kernel_rfl) (fun _ _ _ h => h) hS6 (.inl ⟨by rfl, ?_⟩) ?_
        rotate_left
        · intro w' hw'
          obtain ⟨r1, r2, r3, r4, r5, r6, r7, r8⟩ := hread w' hw'
          have r9 := hread3 w' hw'
          go_simp
          with_reducible rfl
        simp only [Act.put, List.setIfInBounds_toArray, List.set_cons_zero, List.set_cons_succ]
        refine held_takeL hO2 4 (v := ?_) rfl (by kernel_rfl) (by kernel_rfl) (by kernel_rfl) (by kernel_rfl) (fun _ _ _ h => h) hS6 (.inl ⟨by rfl, ?_⟩) ?_
        rotate_left
        · intro w' hw'
          obtain ⟨r1, r2, r3, r4, r5, r6, r7, r8⟩ := hread w' hw'
          have r9 := hread3 w' hw'
          go_simp
          with_reducible rfl
        simp only [Act.put, List.setIfInBounds_toArray, List.set_cons_zero, List.set_cons_succ]
        refine held_takeL hO2 5 (v := ?_) rfl (by kernel_rfl) (by kernel_rfl) (by kernel_rfl) (by kernel_rfl) (fun _ _ _ h => h) hS6 (.inl ⟨by rfl, ?_⟩) ?_
        rotate_left
        · intro w' hw'
          obtain ⟨r1, r2, r3, r4, r5, r6, r7, r8⟩ := hread w' hw'
          have r9 := hread3 w' hw'
          go_simp
          with_reducible rfl
        simp only [Act.put, List.setIfInBounds_toArray, List.set_cons_zero, List.set_cons_succ]
        refine held_takeL hO2 6 (v := ?_) rfl (by kernel_rfl) (by kernel_rfl) (by kernel_rfl) (by kernel_rfl) (fun _ _ _ h => h) hS6 (.inl ⟨by rfl, ?_⟩) ?_
        rotate_left
        · intro w' hw'
          obtain ⟨r1, r2, r3, r4, r5, r6, r7, r8⟩ := hread w' hw'
          have r9 := hread3 w' hw'
          go_simp
          with_reducible rfl
        simp only [Act.put, List.setIfInBounds_toArray, List.set_cons_zero, List.set_cons_succ]
        refine held_takeL hO2 7 (v := undef) rfl (by kernel_rfl) (by kernel_rfl) (by kernel_rfl) (by kernel_rfl) (fun _ _ _ h => h) hS6 (.inr ⟨by rfl, rfl⟩) ?_
        simp only [Act.put, List.setIfInBounds_toArray, List.set_cons_zero, List.set_cons_succ]
        refine held_takeL hO2 8 (v := undef) rfl (by kernel_rfl) (by kernel_rfl) (by kernel_rfl) (by kernel_rfl) (fun _ _ _ h => h) hS6 (.inr ⟨by rfl, rfl⟩) ?_
        simp only [Act.put, List.setIfInBounds_toArray, List.set_cons_zero, List.set_cons_succ]
        refine held_takeL hO2 9 (v := undef) rfl (by kernel_rfl) (by kernel_rfl) (by kernel_rfl) (by kernel_rfl) (fun _ _ _ h => h) hS6 (.inr ⟨by rfl, rfl⟩) ?_
        simp only [Act.put, List.setIfInBounds_toArray, List.set_cons_zero, List.set_cons_succ]
        refine held_takeL hO2 10 (v := undef) rfl (by kernel_rfl) (by kernel_rfl) (by kernel_rfl) (by kernel_rfl) (fun _ _ _ h => h) hS6 (.inr ⟨by rfl, rfl⟩) ?_
        simp only [Act.put, List.setIfInBounds_toArray, List.set_cons_zero, List.set_cons_succ]
        refine held_takeL hO2 11 (v := undef) rfl (by kernel_rfl) (by kernel_rfl) (by kernel_rfl) (by kernel_rfl) (fun _ _ _ h => h) hS6 (.inr ⟨by rfl, rfl⟩) ?_
        simp only [Act.put, List.setIfInBounds_toArray, List.set_cons_zero, List.set_cons_succ]
        refine held_takeL hO2 12 (v := undef) rfl (by kernel_rfl) (by kernel_rfl) (by kernel_rfl) (by kernel_rfl) (fun _ _ _ h => h) hS6 (.inr ⟨by rfl, rfl⟩) ?_
        simp only [Act.put, List.setIfInBounds_toArray, List.set_cons_zero, List.set_cons_succ]
        refine held_takeL hO2 13 (v := undef) rfl (by kernel_rfl) (by kernel_rfl) (by kernel_rfl) (by kernel_rfl) (fun _ _ _ h => h) hS6 (.inr ⟨by rfl, rfl⟩) ?_
        simp only [Act.put, List.setIfInBounds_toArray, List.set_cons_zero, List.set_cons_succ]
        refine held_takeL hO2 14 (v := ?_) rfl (by kernel_rfl) (by kernel_rfl) (by kernel_rfl) (by kernel_rfl) (fun _ _ _ h => h) hS6 (.inl ⟨by rfl, ?_⟩) ?_
        rotate_left
        · intro w' hw'
          obtain ⟨r1, r2, r3, r4, r5, r6, r7, r8⟩ := hread w' hw'
          have r9 := hread3 w' hw'
          go_simp
          with_reducible rfl
        simp only [Act.put, List.setIfInBounds_toArray, List.set_cons_zero, List.set_cons_succ]
        refine held_done (by kernel_rfl) ?_ _
        gi_wp2
        refine ⟨hS6, ?_, hsb.trans hS6⟩
        rw [htu'.out] at hJ5 ⊢
        rw [ly_snoc1]
        exact hJ _ _ _ hJ5 (((SameBut.refl (fun _ => False) w5).drew).calm _)
      case inl =>
        have htu' := Lib.hid htu
        have hread3 : ∀ w', SameBut R Wc w' → w'.cell? ⟨pb, po + p * 3 + 2, none⟩ = some (.bool true) := fun w' h => by rw [hread2 w' h, htu]
        clear htu hread2
        refine held_takeL hO2 0 (v := ?_) rfl (by kernel_rfl) (by kernel_rfl) (by kernel_rfl) (by kernel_rfl) (fun _ _ _ h => h) hS6 (.inl ⟨by rfl, ?_⟩) ?_
        rotate_left
        · intro w' hw'
          obtain ⟨r1, r2, r3, r4, r5, r6, r7, r8⟩ := hread w' hw'
          have r9 := hread3 w' hw'
          go_simp
          with_reducible rfl
        simp only [Act.put, List.setIfInBounds_toArray, List.set_cons_zero, List.set_cons_succ]
        refine held_takeL hO2 1 (v := ?_) rfl (by kernel_rfl) (by kernel_rfl) (by kernel_rfl) (by kernel_rfl) (fun _ _ _ h => h) hS6 (.inl ⟨by rfl, ?_⟩) ?_
        rotate_left
        · intro w' hw'
          obtain ⟨r1, r2, r3, r4, r5, r6, r7, r8⟩ := hread w' hw'
          have r9 := hread3 w' hw'
          go_simp
          with_reducible rfl
        simp only [Act.put, List.setIfInBounds_toArray, List.set_cons_zero, List.set_cons_succ]
        refine held_takeL hO2 2 (v := ?_) rfl (by kernel_rfl) (by kernel_rfl) (by kernel_rfl) (by kernel_rfl) (fun _ _ _ h => h) hS6 (.inl ⟨by rfl, ?_⟩) ?_
        rotate_left
        · intro w' hw'
          obtain ⟨r1, r2, r3, r4, r5, r6, r7, r8⟩ := hread w' hw'
          have r9 := hread3 w' hw'
          go_simp
          with_reducible rfl
        simp only [Act.put, List.setIfInBounds_toArray, List.set_cons_zero, List.set_cons_succ]
        refine held_takeL hO2 3 (v := ?_) rfl (by kernel_rfl) (by kernel_rfl) (by kernel_rfl) (by kernel_rfl) (fun _ _ _ h => h) hS6 (.inl ⟨by rfl, ?_⟩) ?_
        rotate_left
        · intro w' hw'
          obtain ⟨r1, r2, r3, r4, r5, r6, r7, r8⟩ := hread w' hw'
          have r9 := hread3 w' hw'
          go_simp
          with_reducible rfl
        simp only [Act.put, List.setIfInBounds_toArray, List.set_cons_zero, List.set_cons_succ]
        refine held_takeL hO2 4 (v := ?_) rfl (by kernel_rfl) (by kernel_rfl) (by kernel_rfl) (by kernel_rfl) (fun _ _ _ h => h) hS6 (.inl ⟨by rfl, ?_⟩) ?_
        rotate_left
        · intro w' hw'
          obtain ⟨r1, r2, r3, r4, r5, r6, r7, r8⟩ := hread w' hw'
          have r9 := hread3 w' hw'
          go_simp
          with_reducible rfl
        simp only [Act.put, List.setIfInBounds_toArray, List.set_cons_zero, List.set_cons_succ]
        refine held_takeL hO2 5 (v := ?_) rfl (by kernel_rfl) (by kernel_rfl) (by kernel_rfl) (by kernel_rfl) (fun _ _ _ h => h) hS6 (.inl ⟨by rfl, ?_⟩) ?_
        rotate_left
        · intro w' hw'
          obtain ⟨r1, r2, r3, r4, r5, r6, r7, r8⟩ := hread w' hw'
          have r9 := hread3 w' hw'
          go_simp
          with_reducible rfl
        simp only [Act.put, List.setIfInBounds_toArray, List.set_cons_zero, List.set_cons_succ]
        refine held_takeL hO2 6 (v := ?_) rfl (by kernel_rfl) (by kernel_rfl) (by kernel_rfl) (by kernel_rfl) (fun _ _ _ h => h) hS6 (.inl ⟨by rfl, ?_⟩) ?_
        rotate_left
        · intro w' hw'
          obtain ⟨r1, r2, r3, r4, r5, r6, r7, r8⟩ := hread w' hw'
          have r9 := hread3 w' hw'
          go_simp
          with_reducible rfl
        simp only [Act.put, List.setIfInBounds_toArray, List.set_cons_zero, List.set_cons_succ]
        refine held_takeL hO2 7 (v := ?_) rfl (by kernel_rfl) (by kernel_rfl) (by kernel_rfl) (by kernel_rfl) (fun _ _ _ h => h) hS6 (.inl ⟨by rfl, ?_⟩) ?_
        rotate_left
        · intro w' hw'
          obtain ⟨r1, r2, r3, r4, r5, r6, r7, r8⟩ := hread w' hw'
          have r9 := hread3 w' hw'
          go_simp
          with_reducible rfl
        simp only [Act.put, List.setIfInBounds_toArray, List.set_cons_zero, List.set_cons_succ]
        refine held_takeL hO2 8 (v := ?_) rfl (by kernel_rfl) (by kernel_rfl) (by kernel_rfl) (by kernel_rfl) (fun _ _ _ h => h) hS6 (.inl ⟨by rfl, ?_⟩) ?_
        rotate_left
        · intro w' hw'
          obtain ⟨r1, r2, r3, r4, r5, r6, r7, r8⟩ := hread w' hw'
          have r9 := hread3 w' hw'
          go_simp
          with_reducible rfl
        simp only [Act.put, List.setIfInBounds_toArray, List.set_cons_zero, List.set_cons_succ]
        refine held_takeL hO2 9 (v := ?_) rfl (by kernel_rfl) (by kernel_rfl) (by kernel_rfl) (by kernel_rfl) (fun _ _ _ h => h) hS6 (.inl ⟨by rfl, ?_⟩) ?_
        rotate_left
        · intro w' hw'
          obtain ⟨r1, r2, r3, r4, r5, r6, r7, r8⟩ := hread w' hw'
          have r9 := hread3 w' hw'
          go_simp
          with_reducible rfl
        simp only [Act.put, List.setIfInBounds_toArray, List.set_cons_zero, List.set_cons_succ]
        refine held_takeL hO2 10 (v := ?_) rfl (by kernel_rfl) (by kernel_rfl) (by kernel_rfl) (by kernel_rfl) (fun _ _ _ h => h) hS6 (.inl ⟨by rfl, ?_⟩) ?_
        rotate_left
        · intro w' hw'
          obtain ⟨r1, r2, r3, r4, r5, r6, r7, r8⟩ := hread w' hw'
          have r9 := hread3 w' hw'
          go_simp
          with_reducible rfl
        simp only [Act.put, List.setIfInBounds_toArray, List.set_cons_zero, List.set_cons_succ]
        refine held_oneL 11 (by kernel_rfl) rfl (fun K hK => ?_)
        go_simp
        have hsP5 : ShapesAt Bd w5.drew (some ⟨pb, po, none⟩) sn ps := hs2.keep (Nat.le_refl _) (fun b o hb => (hsb.trans hS6).cell (by omega) (hmd b hb))
        refine (hO2.calls (turnedJoints_any (B := Bd) (ps := ps) (by have := hsb.size; have := hS6.size; omega) hsP5 hp hJi ht)).mono ?_
        rintro e w7 ⟨rfl, hb7⟩
        have hF7 : SameBut (fun _ => False) w5 w7 := (SameBut.refl _ w5).drew.below hb7
        have hS7 : SameBut R Wc w7 := hS5.trans (hF7.mono (fun _ h => h.elim))
        refine hK _ _ hS7 ?_
        clear hK K
        rw [htu'.out] at hJ5 hY
        obtain ⟨fn, tmps, assign, body, hy, hRd⟩ := hY _ (t, true) w7 (ly_pre2 hpre) (hJ _ _ _ hJ5 (hF7.calm _))
        refine held_oneL 12 (by kernel_rfl) rfl (fun K hK => ?_)
        rw [lyEnc_turned] at hy
        go_simp
        refine (show RoundIn (F.inRound l2) 0 Try.prog l fn tmps assign body w7 _ from hRd).mono ?_
        rintro e w8 (⟨rfl, hJ8, hs8⟩ | ⟨rfl, hJx8, hs8⟩)
        · have hS8 := hS7.trans hs8
          refine hK _ _ hS8 ?_
          clear hK K
          refine held_takeL hO2 13 (v := ?_) rfl (by kernel_rfl) (by kernel_rfl) (by kernel_rfl) (by kernel_rfl) (fun _ _ _ h => h) hS8 (.inl ⟨by rfl, ?_⟩) ?_
          rotate_left
          · intro w' hw'
            go_simp
            with_reducible rfl
          simp only [Act.put, List.setIfInBounds_toArray, List.set_cons_zero, List.set_cons_succ]
          refine held_takeL hO2 14 (v := ?_) rfl (by kernel_rfl) (by kernel_rfl) (by kernel_rfl) (by kernel_rfl) (fun _ _ _ h => h) hS8 (.inl ⟨by rfl, ?_⟩) ?_
          rotate_left
          · intro w' hw'
            go_simp
            with_reducible rfl
          simp only [Act.put, List.setIfInBounds_toArray, List.set_cons_zero, List.set_cons_succ]
          refine held_done (by kernel_rfl) ?_ _
          gi_wp2
          refine ⟨hS8, ?_, hsb.trans hS8⟩
          rw [htu'.out, ly_snoc2]
          exact hJ8
        · have hS8 := hS7.trans hs8
          refine hK _ _ hS8 ?_
          clear hK K
          refine held_takeL hO2 13 (v := ?_) rfl (by kernel_rfl) (by kernel_rfl) (by kernel_rfl) (by kernel_rfl) (fun _ _ _ h => h) hS8 (.inl ⟨by rfl, ?_⟩) ?_
          rotate_left
          · intro w' hw'
            go_simp
            with_reducible rfl
          simp only [Act.put, List.setIfInBounds_toArray, List.set_cons_zero, List.set_cons_succ]
          refine held_takeL hO2 14 (v := ?_) rfl (by kernel_rfl) (by kernel_rfl) (by kernel_rfl) (by kernel_rfl) (fun _ _ _ h => h) hS8 (.inl ⟨by rfl, ?_⟩) ?_
          rotate_left
          · intro w' hw'
            go_simp
            with_reducible rfl
          simp only [Act.put, List.setIfInBounds_toArray, List.set_cons_zero, List.set_cons_succ]
          refine held_done (by kernel_rfl) ?_ _
          gi_wp2
          exact ⟨hS8, rfl, _, by rw [htu'.out]; exact ly_pre2 hpre, hJx8⟩
    · have hS5 := hR4.trans hs5
      refine hK _ _ hS5 ?_
      clear hK K
      refine held_takeL hO2 6 (v := ?_) rfl (by kernel_rfl) (by kernel_rfl) (by kernel_rfl) (by kernel_rfl) (fun _ _ _ h => h) hS5 (.inl ⟨by rfl, ?_⟩) ?_
      rotate_left
      · intro w' hw'
        go_simp
        with_reducible rfl
      simp only [Act.put, List.setIfInBounds_toArray, List.set_cons_zero, List.set_cons_succ]
      refine held_done (by kernel_rfl) ?_ _
      refine hK2 _ _ ?_
      clear hK2 K2
      gi_wp2
      exact ⟨hS5, rfl, _, ly_pre1 hpre, hJx5⟩
  case done =>
    rintro Wc ⟨hj, hsb⟩ hD
    gi_wp2
    refine ⟨by simp, .inl ⟨_, _, rfl, run_takeDeferred hD, ?_⟩⟩
    exact ⟨_, results_none rfl _ _ _, ⟨_, rfl⟩, .inl (hJ _ _ _ hj (calm_put _ hD (by omega) rfl))⟩
  case stop =>
    rintro c pre Wc hpre ⟨rfl, pre', hp', hj⟩ hD
    gi_wp2
    refine ⟨by simp, .inl ⟨_, _, rfl, run_takeDeferred hD, ?_⟩⟩
    exact ⟨_, results_none rfl _ _ _, ⟨_, rfl⟩, .inr ⟨pre', hp', hJx _ _ _ hj (calm_put _ hD (by omega) rfl)⟩⟩

end Go.Proofs.Ytilbkmogmlcpaaa
namespace Go.Proofs.Ytilbkmogmlcpaaa
open Go.RowKit

/-- What a key's type owes. -/
structure KeyOk {κ : Type} [DecidableEq κ] (P : Program) (K : TypeId) (enc : κ → Value) : Prop where
  now : ∀ x y d, P.underlying K = some d → Instr.sameNow d (enc x) (enc y) = none
  under : ∃ d, P.underlying K = some d
  eq : ∀ x y w, (Op.equal K (enc x) (enc y)).run P w = .ok (decide (x = y)) w
  check : ∀ e x w, (Instr.checkKey e 10000 K (enc x)).run P w = .ok () w
  bits : ∀ x, Instr.sameBits 10000 (enc x) (enc x) = true

/-- The first entry of a key, and its place. -/
def seek {κ ν : Type} [DecidableEq κ] (k : κ) : List (κ × ν) → Nat → Option (Nat × ν)
  | [], _ => none
  | e :: l, i => if k = e.1 then some (i, e.2) else seek k l (i + 1)
def got {κ ν : Type} [DecidableEq κ] (l : List (κ × ν)) (k : κ) : Option ν := (seek k l 0).map (·.2)

/-- Block b is a map that reads as m. -/
def MapAt {κ ν : Type} [DecidableEq κ] (w : World) (b : Nat) (enc : κ → Value) (encV : ν → Value) (m : κ → Option ν) : Prop :=
  ∃ (es : Array MapEntry) (clock : Nat) (l : List (κ × ν)), w.heap[b]? = some (.map es clock) ∧ es.toList.map (fun e => (e.key, e.val)) = l.map (fun x => (enc x.1, encV x.2)) ∧ ∀ k, m k = got l k

section
variable {κ ν : Type} [DecidableEq κ] {P : Program} {T K E : TypeId} {enc : κ → Value} {encV : ν → Value} {m : κ → Option ν} {w : World} {b : Nat}

theorem seek_shift (k : κ) : ∀ (l : List (κ × ν)) (i : Nat), seek k l i = (seek k l 0).map fun x => (x.1 + i, x.2)
  | [], i => rfl
  | e :: l, i => by
    unfold seek
    by_cases h : k = e.1
    · simp [h]
    · rw [if_neg h, if_neg h, seek_shift k l (i + 1), seek_shift k l (0 + 1)]
      cases seek k l 0 <;> simp; omega

theorem run_findAsking (hK : KeyOk P K enc) (k : κ) : ∀ (es : List MapEntry) (l : List (κ × ν)) (i : Nat) (w : World), es.map (fun e => (e.key, e.val)) = l.map (fun x => (enc x.1, encV x.2)) →
    (Instr.findAsking K (enc k) es i).run P w = .ok ((seek k l i).map fun x => (x.1, encV x.2)) w
  | [], l, i, w, h => by
    have : l = [] := by simpa using h.symm
    subst this
    simp [Instr.findAsking, seek]
  | e :: es, [], i, w, h => by simp at h
  | e :: es, x :: l, i, w, h => by
    simp only [List.map_cons, List.cons.injEq, Prod.mk.injEq] at h
    obtain ⟨⟨h1, h2⟩, h3⟩ := h
    simp only [Instr.findAsking, Sem.run_bind, h1, hK.eq, Result.andThen_ok]
    by_cases e' : k = x.1
    · subst e'; simp [seek, h2]
    · simp only [decide_eq_false e', Bool.false_eq_true, if_false, seek, if_neg e']
      exact run_findAsking hK k es l (i + 1) w h3

theorem run_findKey (hK : KeyOk P K enc) (k : κ) (es : List MapEntry) (l : List (κ × ν)) (w : World) (h : es.map (fun e => (e.key, e.val)) = l.map (fun x => (enc x.1, encV x.2))) :
    (Instr.findKey K (enc k) es).run P w = .ok ((seek k l 0).map fun x => (x.1, encV x.2)) w := by
  obtain ⟨d, hd⟩ := hK.under
  simp only [Instr.findKey, Sem.run_bind, run_underlying hd, Result.andThen_ok]
  cases es with
  | nil =>
    have : l = [] := by simpa using h.symm
    subst this
    simp [Instr.findNow, seek]
  | cons e es =>
    cases l with
    | nil => simp at h
    | cons x l =>
      have h1 : e.key = enc x.1 := by simp only [List.map_cons, List.cons.injEq, Prod.mk.injEq] at h; exact h.1.1
      have : Instr.findNow d (enc k) (e :: es) 0 = none := by simp only [Instr.findNow, h1, hK.now _ _ _ hd]
      rw [this]
      exact run_findAsking hK k _ _ 0 w h

/-- A lookup. -/
theorem run_lookup (hK : KeyOk P K enc) (hT : P.underlying T = some (.map K E)) {z : Value} (hz : ∀ w, (zeroValue E).run P w = .ok z w) (h : MapAt w b enc encV m) (k : κ) (ok : Bool) :
    (Instr.lookup T (.map (some b)) (enc k) ok).run P w = .ok (if ok then .tuple #[((m k).map encV).getD z, .bool (m k).isSome] else ((m k).map encV).getD z) w := by
  obtain ⟨es, clock, l, hb, hl, hm⟩ := h
  have hg : (getObj b).run P w = .ok (.map es clock) w := by simp [getObj, Sem.run, hb]
  rw [hm k]
  unfold got
  simp only [Instr.lookup, Sem.run_bind, run_underlying hT, Result.andThen_ok, hg, Sem.run_pure, hK.check, run_findKey hK k _ l w hl]
  cases hs : seek k l 0 with
  | none => cases ok <;> simp [hz]
  | some x => cases ok <;> simp

def setKey (m : κ → Option ν) (k : κ) (v : ν) : κ → Option ν := fun x => if x = k then some v else m x

theorem seek_lt {k : κ} : ∀ {l : List (κ × ν)} {i : Nat} {x : Nat × ν}, seek k l i = some x → i ≤ x.1 ∧ x.1 < i + l.length
  | [], _, _, h => by cases h
  | e :: l, i, x, h => by
    unfold seek at h
    split at h
    · cases h; simp
    · have := seek_lt h; simp only [List.length_cons]; omega

theorem got_push {l : List (κ × ν)} {k : κ} {v : ν} (h : seek k l 0 = none) (x : κ) : got (l ++ [(k, v)]) x = if x = k then some v else got l x := by
  have key : ∀ (l : List (κ × ν)) (i : Nat), seek k l i = none → (seek x (l ++ [(k, v)]) i).map (·.2) = if x = k then some v else (seek x l i).map (·.2) := by
    intro l
    induction l with
    | nil => intro i _; simp only [List.nil_append, seek]; split <;> simp
    | cons e l ih =>
      intro i hn
      unfold seek at hn
      split at hn
      · cases hn
      · rename_i hk
        simp only [List.cons_append, seek]
        by_cases hx : x = e.1
        · have : x ≠ k := fun h => hk (h ▸ hx)
          simp [hx] at this ⊢
          simp [this]
        · rw [if_neg hx, if_neg hx]; exact ih (i + 1) hn
  exact key l 0 h

theorem got_set {k : κ} {v : ν} (x : κ) : ∀ {l : List (κ × ν)} {i j : Nat} {y : ν}, seek k l i = some (j + i, y) → (seek x (l.set j (k, v)) i).map (·.2) = if x = k then some v else (seek x l i).map (·.2)
  | [], _, _, _, h => by cases h
  | e :: l, i, j, y, h => by
    unfold seek at h
    split at h
    · rename_i hk
      have hj : j = 0 := by simp at h; omega
      subst hj
      simp only [List.set_cons_zero, seek]
      by_cases hx : x = k
      · simp [hx]
      · rw [if_neg hx, if_neg hx, if_neg (fun h => hx (h.trans hk.symm))]
    · rename_i hk
      have hlt := (seek_lt h).1
      obtain ⟨j', rfl⟩ : ∃ j', j = j' + 1 := ⟨j - 1, by simp only at hlt; omega⟩
      simp only [List.set_cons_succ, seek]
      by_cases hx : x = e.1
      · have : x ≠ k := fun h => hk (h ▸ hx)
        rw [if_pos hx, if_pos hx, if_neg this]
      · rw [if_neg hx, if_neg hx]
        exact got_set x (i := i + 1) (j := j') (by rw [h]; congr 2; omega)

/-- A store. -/
theorem run_update (hK : KeyOk P K enc) (hT : P.underlying T = some (.map K E)) (h : MapAt w b enc encV m) (k : κ) (v : ν) :
    ∃ w', (Instr.mapUpdate T (.map (some b)) (enc k) (encV v)).run P w = .ok () w' ∧ MapAt w' b enc encV (setKey m k v) ∧ SameBut (fun i => i = b) w w' := by
  obtain ⟨es, clock, l, hb, hl, hm⟩ := h
  have hlt : b < w.heap.size := (Array.getElem?_eq_some_iff.1 hb).1
  have hg : (getObj b).run P w = .ok (.map es clock) w := by simp [getObj, Sem.run, hb]
  have hset : ∀ o, (setObj b o).run P w = .ok () (w.putObj b o) := fun o => by simp [setObj, Sem.run, hb, World.putObj]
  have hsame : ∀ o, SameBut (fun i => i = b) w (w.putObj b o) := fun o => same_put (SameBut.refl _ w) o (.inl rfl)
  simp only [Instr.mapUpdate, Sem.run_bind, run_underlying hT, Result.andThen_ok, hg, hK.check, run_findKey hK k _ l w hl]
  cases hs : seek k l 0 with
  | none =>
    refine ⟨_, by simp only [Option.map_none]; exact hset _, ⟨_, _, l ++ [(k, v)], World.putObj_heap_same hlt, ?_, fun x => ?_⟩, hsame _⟩
    · simp [hl]
    · unfold setKey; rw [got_push hs x, hm]
  | some y =>
    obtain ⟨j, y⟩ := y
    have hj := (seek_lt hs).2
    have hes : es.size = l.length := by have := congrArg List.length hl; simpa using this
    have hjs : j < es.size := by simp only at hj; omega
    have hkey : (es[j]'hjs).key = enc k := by
      have h1 : (es.toList.map (fun e => (e.key, e.val)))[j]? = some ((es[j]'hjs).key, (es[j]'hjs).val) := by simp [hjs]
      rw [hl] at h1
      have key : ∀ (l : List (κ × ν)) (i j : Nat) (y : ν), seek k l i = some (j + i, y) → (l[j]?).map (·.1) = some k := by
        intro l
        induction l with
        | nil => intro i j y h; cases h
        | cons e l ih =>
          intro i j y h
          unfold seek at h
          split at h
          · rename_i hk
            have : j = 0 := by simp at h; omega
            subst this; simp [hk]
          · have hlt := (seek_lt h).1
            obtain ⟨j', rfl⟩ : ∃ j', j = j' + 1 := ⟨j - 1, by simp only at hlt; omega⟩
            simp only [List.getElem?_cons_succ]
            exact ih (i + 1) j' y (by rw [h]; congr 2; omega)
      have h2 := key l 0 j y hs
      rw [List.getElem?_map] at h1
      cases hlj : l[j]? with
      | none => rw [hlj] at h2; cases h2
      | some x =>
        rw [hlj] at h1 h2
        simp only [Option.map_some, Option.some.injEq, Prod.mk.injEq] at h1 h2
        rw [← h1.1, h2]
    have hstay : ∀ w, (Instr.keyThatStays (((es[j]?).map (·.key)).getD (enc k)) (enc k)).run P w = .ok (enc k) w := fun w => by
      rw [Array.getElem?_eq_getElem hjs]
      simp [Instr.keyThatStays, hkey, hK.bits]
    refine ⟨_, by simp only [Option.map_some, Sem.run_bind, hstay, Result.andThen_ok]; exact hset _, ⟨_, _, l.set j (k, v), World.putObj_heap_same hlt, ?_, fun x => ?_⟩, hsame _⟩
    · rw [Array.toList_modify, List.map_set, ← hl]
      apply List.ext_getElem?
      intro i
      rw [List.getElem?_map, List.getElem?_modify, List.getElem?_set, List.getElem?_map]
      by_cases hij : j = i
      · subst hij; simp [hjs]
      · simp [hij]
    · unfold setKey; rw [hm]; exact (got_set x (i := 0) (j := j) (v := v) hs).symm

theorem MapAt.same {M : Nat → Prop} {w' : World} (h : MapAt w b enc encV m) (hs : SameBut M w w') (hm : ¬ M b) : MapAt w' b enc encV m := by
  obtain ⟨es, clock, l, hb, hl, hm'⟩ := h
  exact ⟨es, clock, l, by rw [hs.block b (Array.getElem?_eq_some_iff.1 hb).1 hm]; exact hb, hl, hm'⟩
theorem MapAt.calm {B : Nat} {w' : World} (h : MapAt w b enc encV m) (hs : Calm B w w') : MapAt w' b enc encV m := by
  obtain ⟨es, clock, l, hb, hl, hm'⟩ := h
  exact ⟨es, clock, l, hs.block b _ hb (.inr rfl), hl, hm'⟩
theorem MapAt.lt (h : MapAt w b enc encV m) : b < w.heap.size := by
  obtain ⟨es, clock, l, hb, _⟩ := h; exact (Array.getElem?_eq_some_iff.1 hb).1
theorem MapAt.congr {m' : κ → Option ν} (h : MapAt w b enc encV m) (e : ∀ k, m k = m' k) : MapAt w b enc encV m' := by
  obtain ⟨es, clock, l, hb, hl, hm'⟩ := h; exact ⟨es, clock, l, hb, hl, fun k => by rw [← e, hm']⟩
theorem MapAt.new (w : World) : MapAt (w.alloc (.map #[] 0)) w.heap.size enc encV (fun _ => none) :=
  ⟨#[], 0, [], World.alloc_heap_new w _, rfl, fun _ => rfl⟩
end
end Go.Proofs.Ytilbkmogmlcpaaa
