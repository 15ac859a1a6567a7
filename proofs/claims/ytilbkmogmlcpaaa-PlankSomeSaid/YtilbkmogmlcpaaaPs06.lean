/- Walks: the answers of a board. Walks: a plank's board. Walks: the numbers that are asked of. -/
import Derived.Test.YtilbkmogmlcpaaaPs05
import Derived.Handy
import Derived.Laws.EntriesVeiled
namespace Go.Proofs.Ytilbkmogmlcpaaa
open Go.RowKit Go.Shelf

attribute [local go_sem] Oper.semAt_some

abbrev placeK (k : Int × Int) : Value := .agg #[.int .i64 k.1, .int .i64 k.2]
abbrev intV (n : Int) : Value := .int .i64 n
theorem placeUnder : ∃ d, Try.prog.underlying 89 = some d := by
  have h : (Try.prog.underlying 89).isSome = true := by kernel_rfl
  exact Option.isSome_iff_exists.1 h
set_option maxRecDepth 100000 in
theorem placeEq (x y : Int × Int) (w : World) : (Op.equal 89 (placeK x) (placeK y)).run Try.prog w = .ok (decide (x = y)) w := by
  obtain ⟨a, b⟩ := x
  obtain ⟨c, d⟩ := y
  have h : (Op.equal 89 (placeK (a, b)) (placeK (c, d))).run Try.prog w = .ok (a == c && b == d) w := by
    unfold Op.equal Op.maxDepth
    simp [go_sem]
    by_cases h1 : a = c <;> by_cases h2 : b = d <;> simp [h1, h2]
  rw [h]; congr 1
  rw [Bool.eq_iff_iff]; simp
theorem placeOk : KeyOk Try.prog 89 placeK where
  now x y d _ := by cases d <;> rfl
  under := placeUnder
  eq := placeEq
  check e x w := by cases e <;> kernel_rfl
  bits x := by simp [Instr.sameBits]
theorem ansUnder : Try.prog.underlying 84 = some (.map 89 3) := by kernel_rfl
theorem zeroInt (w : World) : (zeroValue 3).run Try.prog w = .ok (intV 0) w := by kernel_rfl

/-- What one verdict notes. -/
def judgeStep (p : Nat) (x : Shape) (knots : List (Int × Int)) (sp : Int × Int → (Nat → Bool) → Bool) (ans : Int) (m : Int × Int → Option Int) (y : Nat × Bool) : Int × Int → Option Int :=
  if anyB knots.length (fun i => sp (gp knots i) (lyJoints x y)) then m else setKey m ((p : Int), (y.1 : Int)) ans

set_option maxRecDepth 100000 in
set_option maxHeartbeats 2000000 in
theorem judge_any {B : Nat} {x : Wood} {kv : Value} {sa : Option Addr} {sn sc : Nat} {ps : List Shape} {p : Nat} {w : World} (hB : B ≤ w.heap.size) (hk : KnotsV B w kv x) (hs : ShapesAt B w sa sn ps) (hp : p < sn)
    (hl0 : 0 ≤ x.long) (hl1 : x.long ≤ 16) (hx0 : 1 ≤ (gs ps p).long) (hx1 : (gs ps p).long ≤ 12) (hJi : JointsIn (gs ps p)) (hKn : ∀ i, i < x.knots.length → Knot (gp x.knots i))
    {mb : Nat} {m : Int × Int → Option Int} (hm : MapAt w mb placeK intV m) (hmB : B ≤ mb) {ans : Int} {fsp : Nat} (sp : Int × Int → (Nat → Bool) → Bool)
    (hsp : ∀ (k : Int × Int) (M : Nat → Bool) (w : World), Knot k → Calls Try.prog fsp #[.agg #[.int .i64 k.1, .int .i64 k.2], .agg (encIn M)] w fun e w' => e = .returned (.bool (sp k M)) ∧ Below w.heap.size w w') 
    (hent : ∀ args w, (callFunc fsp args).run Try.prog w = .ok (.enter fsp args) w) :
    Calls Try.prog 96 #[.agg #[.int .i64 x.long, kv, .slice sa sn sc, .map (some mb)], .int .i64 p, .agg #[.int .i64 ans, .func (.func fsp) #[] #[]]] w fun e w' => e = .returned (.tuple #[]) ∧
      MapAt w' mb placeK intV ((lyList (many x.long (gs ps p).long) (gs ps p).turns).foldl (judgeStep p (gs ps p) x.knots sp ans) m) ∧ SameBut (fun i => i = mb) w w' := by
  refine (callsIn_wide (n := 0)).1 ?_
  have hO := open_wide
  refine callsIn_of_wp_marks Try.func96 rfl trivial ?_ rfl
  simp only [Try.ntmps96, List.size_toArray, List.length_cons, List.length_nil, Nat.reduceAdd, Nat.reduceSub, Array.replicate_succ, Array.replicate_zero, List.push_toArray, List.append_toArray, List.nil_append, List.cons_append]
  gi_wp2
  refine (wpIn_wide (n := 0)).2 (wp_scope_straight ((wpIn_wide (n := 0)).1 ?_))
  apply wpIn_seq
  apply wpIn_label
  obtain ⟨F, hFF⟩ : ∃ F, F = Fence.wide := ⟨_, rfl⟩
  rw [← hFF] at hO ⊢
  have hro : F.round = none := by rw [hFF]; rfl
  clear hFF
  have hF := hO.fn
  have hd := hO.depth
  gi_wp2_with (gi_at_call 118; refine (hO.calls lyings_any).mono ?_; rintro e w' ⟨rfl, rfl⟩)
  obtain ⟨W2, hW2⟩ : ∃ W2, W2 = ((((w.alloc (.cells #[.int .i64 x.long, kv, .slice sa sn sc, .map (some mb)] 86)).alloc (.cells #[.int .i64 ans, .func (.func fsp) #[] #[]] 134)).alloc (.cells #[.int .i64 x.long, kv, .slice sa sn sc, .map (some mb)] 86)).alloc (.cells #[.int .i64 p] 3)) := ⟨_, rfl⟩
  have hS2 : SameBut (fun _ => False) w W2 := by rw [hW2]; exact ((((SameBut.refl _ w).alloc _).alloc _).alloc _).alloc _
  have hsz2 : W2.heap.size = w.heap.size + 4 := by rw [hW2]; simp
  have b0 : Blk W2 w.heap.size #[.int .i64 x.long, kv, .slice sa sn sc, .map (some mb)] := by rw [hW2]; exact (((Blk.new w _ _).alloc _).alloc _).alloc _
  have b1 : Blk W2 (w.heap.size + 1) #[.int .i64 ans, .func (.func fsp) #[] #[]] := by
    rw [hW2]
    have := ((Blk.new (w.alloc (.cells #[.int .i64 x.long, kv, .slice sa sn sc, .map (some mb)] 86)) #[.int .i64 ans, .func (.func fsp) #[] #[]] 134).alloc (.cells #[.int .i64 x.long, kv, .slice sa sn sc, .map (some mb)] 86)).alloc (.cells #[.int .i64 p] 3)
    simp only [World.size_alloc] at this
    exact this
  have b2 : Blk W2 (w.heap.size + 2) #[.int .i64 x.long, kv, .slice sa sn sc, .map (some mb)] := by
    rw [hW2]
    have := (Blk.new ((w.alloc (.cells #[.int .i64 x.long, kv, .slice sa sn sc, .map (some mb)] 86)).alloc (.cells #[.int .i64 ans, .func (.func fsp) #[] #[]] 134)) #[.int .i64 x.long, kv, .slice sa sn sc, .map (some mb)] 86).alloc (.cells #[.int .i64 p] 3)
    simp only [World.size_alloc] at this
    exact this
  have b3 : Blk W2 (w.heap.size + 3) #[.int .i64 p] := by
    rw [hW2]
    have := Blk.new (((w.alloc (.cells #[.int .i64 x.long, kv, .slice sa sn sc, .map (some mb)] 86)).alloc (.cells #[.int .i64 ans, .func (.func fsp) #[] #[]] 134)).alloc (.cells #[.int .i64 x.long, kv, .slice sa sn sc, .map (some mb)] 86)) #[.int .i64 p] 3
    simp only [World.size_alloc] at this
    exact this
  rw [← hW2]
  clear hW2
  have hm2 := hm.same hS2 (fun e => e)
  have hmlt := hm.lt
  have hs2 : ShapesAt B W2 sa sn ps := hs.keep (Nat.le_refl _) (fun b o hb => hS2.cell (by omega) (fun e => e))
  refine wpIn_range hO hro (gf := 129) (lb := #[.pointer (some ⟨w.heap.size + 1 + 1, 0, none⟩), .pointer (some ⟨w.heap.size + 1 + 1 + 1, 0, none⟩)]) rfl (enters_of Try.func129 (by kernel_rfl) rfl)
    (lyings_seq hO hro b2 b3 (Bd := B) (by omega) hs2 hp hl0 hl1 hx0 hx1 hJi) (fun _ => rfl) (fun k => k = mb) (fun k hk => by have hk' : k = mb := hk; omega)
    (fun k hk => by
      have hk' : k = w.heap.size + 2 ∨ k = w.heap.size + 3 ∨ k < B := hk
      exact ⟨by omega, fun e => by have e' : k = mb := e; omega⟩)
    (fun pre Wc => MapAt Wc mb placeK intV (pre.foldl (judgeStep p (gs ps p) x.knots sp ans) m) ∧ SameBut (fun k => k = mb) W2 Wc)
    (fun _ _ _ => False)
    ?hI ?hIx ⟨hm2, SameBut.refl _ _⟩
    (fun y a' Wc => ∃ bp bj, (Blk Wc bp #[.int .i64 p, .int .i64 y.1] ∧ bp ≠ mb ∧ Blk Wc bj (encIn (lyJoints (gs ps p) y)) ∧ bj ≠ mb) ∧ a' = { tmps := #[.agg #[.int .i64 x.long, kv, .slice sa sn sc, .map (some mb)], .int .i64 p, .agg #[.int .i64 ans, .func (.func fsp) #[] #[]], .pointer (some ⟨w.heap.size, 0, none⟩), undef, .pointer (some ⟨w.heap.size + 1, 0, none⟩), .pointer (some ⟨bp, 0, none⟩), .pointer (some ⟨bj, 0, none⟩), undef, undef,
      .agg #[.int .i64 x.long, kv, .slice sa sn sc, .map (some mb)], .int .i64 p, .func (.func 129) #[] #[.pointer (some ⟨w.heap.size + 1 + 1, 0, none⟩), .pointer (some ⟨w.heap.size + 1 + 1 + 1, 0, none⟩)], placeV p y.1, .agg (encIn (lyJoints (gs ps p) y)), undef, undef, undef, undef, undef, undef, undef, undef, undef, undef, undef, undef, undef, undef, undef, undef, undef, undef, undef], defers := [] })
    ?hAx ?assign ?body ?done ?stop
  case hI => exact Stable.and (fun s X Y h hc => h.calm hc) (stable_same (Nat.le_refl _))
  case hIx => exact fun c s X Y h _ => h
  case hAx =>
    rintro y a' u X Y ⟨bp, bj, ⟨h1, h2, h3, h4⟩, ha⟩ hc
    exact ⟨bp, bj, ⟨h1.calm hc, h2, h3.calm hc, h4⟩, ha⟩
  case assign =>
    rintro l2 pre y Wc K hpre ⟨hj, hsb⟩ hK
    rw [show lyEnc p (gs ps p) y = #[placeV p y.1, .agg (encIn (lyJoints (gs ps p) y))] from rfl]
    gi_wp2
    have hszc := hsb.size
    refine hK _ _ ?_ ⟨hj.calm (B := 0) ?_, ?_⟩ ⟨Wc.heap.size, Wc.heap.size + 1, ⟨?_, by omega, ?_, by omega⟩, rfl⟩
    · exact (((SameBut.refl _ Wc).alloc _).alloc _).setRow (.inr (Nat.le_succ _)) _
    · exact (((((SameBut.refl (fun _ => False) Wc).alloc _).alloc _).setRow (.inr (Nat.le_succ _)) _)).calm 0
    · exact (((hsb.alloc _).alloc _).setRow (.inr (by omega)) _)
    · obtain ⟨t, ht⟩ := (Blk.new Wc #[.int .i64 p, .int .i64 y.1] 89).alloc (.cells #[.bool false, .bool false, .bool false, .bool false, .bool false, .bool false, .bool false, .bool false, .bool false, .bool false, .bool false, .bool false, .bool false, .bool false, .bool false, .bool false] 142)
      exact ⟨t, by rw [setRow_other _ _ _ _ (by omega)]; exact ht⟩
    · have := InBlk.new (Wc.alloc (.cells #[.int .i64 p, .int .i64 y.1] 89)) (fun _ => false) 142
      rw [World.size_alloc] at this
      obtain ⟨t, ht⟩ := this.row (lyJoints (gs ps p) y)
      exact ⟨t, ht⟩
  case body =>
    rintro l2 pre y a' Wc hpre hl2 hrec ⟨hj, hsb⟩ ⟨bp, bj, ⟨hbp, hnp, hbj, hnj⟩, rfl⟩
    have hO2 := hO.inRound l2
    have hd2 : (F.inRound l2).depth = none := hd
    have hF2 : ∀ f, (F.inRound l2).fn f := hF
    have hsz := hsb.size
    obtain ⟨ka, kn, kc, rfl, hks⟩ := hk
    have kb0 := b0.same hsb (by show ¬ w.heap.size = mb; omega)
    have kb1 := b1.same hsb (by show ¬ w.heap.size + 1 = mb; omega)
    have hks1 : SpansAt B Wc ka kn x.knots := hks.keep (Nat.le_refl _) (fun b o hb => (hS2.mono (fun _ h => h.elim) |>.trans hsb).cell (by omega) (by show ¬ b = mb; omega))
    have e01 := kb0.cell (i := 1)
    have hbpl := hbp.lt
    have hbjl := hbj.lt
    gi_wp2
    gi_loopw [19] (fun i wr => ∃ k : Nat, k ≤ kn ∧ i = .int .i64 k ∧ SameBut (fun _ => False) Wc wr ∧ anyB k (fun i => sp (gp x.knots i) (lyJoints (gs ps p) y)) = false) (fun i _ => (kn - intOf i).toNat)
    case atStart => exact ⟨0, by omega, rfl, SameBut.refl _ _, rfl⟩
    case round =>
      obtain ⟨k, hkn, rfl, hsr, hno⟩ := hrel
      have hsr' : SameBut (fun k => k = mb) Wc wr := hsr.mono (fun _ h => h.elim)
      have hszr := hsr.size
      have hsmall := hks.small
      have q1 : wr.cell? ⟨w.heap.size + 1, 1, none⟩ = some (.func (.func fsp) #[] #[]) := (kb1.same hsr (fun e => e)).cell
      have qp0 : wr.cell? ⟨bp, 0, none⟩ = some (.int .i64 p) := (hbp.same hsr (fun e => e)).cell
      have qp1 : wr.cell? ⟨bp, 1, none⟩ = some (.int .i64 y.1) := (hbp.same hsr (fun e => e)).cell
      have qa : wr.cell? ⟨w.heap.size + 1, 0, none⟩ = some (.int .i64 ans) := (kb1.same hsr (fun e => e)).cell
      have qb3 : wr.cell? ⟨w.heap.size, 3, none⟩ = some (.map (some mb)) := (kb0.same hsr (fun e => e)).cell
      have l0 : w.heap.size < wr.heap.size := by omega
      have l0' : w.heap.size < wr.heap.size + 1 := by omega
      have l1 : w.heap.size + 1 < wr.heap.size := by omega
      have l1' : w.heap.size + 1 < wr.heap.size + 1 := by omega
      have lj : bj < wr.heap.size := by omega
      have lj' : bj < wr.heap.size + 1 := by omega
      by_cases hlt : k < kn
      · obtain ⟨kbk, ko, rfl, hkB, hkc⟩ := hks1.get k hlt
        obtain ⟨c0, c1, i0, i1⟩ := hkc k hlt
        clear hkc
        have hkw : kbk < Wc.heap.size := by omega
        have r0 : wr.cell? ⟨kbk, ko + k * 2, none⟩ = some (.int .i64 (gp x.knots k).1) := (hsr.cell hkw (fun e => e)).trans c0
        have r1 : wr.cell? ⟨kbk, ko + k * 2 + 1, none⟩ = some (.int .i64 (gp x.knots k).2) := (hsr.cell hkw (fun e => e)).trans c1
        have hKk : Knot (gp x.knots k) := hKn k (by rw [hks.len]; omega)
        clear c0 c1
        have hrj : rowOf wr bj = encIn (lyJoints (gs ps p) y) := by
          obtain ⟨t, ht⟩ := hbj.same hsr (fun e => e)
          simp [rowOf, ht]
        gi_wp2
        refine (hO2.calls (hsp (gp x.knots k) (lyJoints (gs ps p) y) _ hKk)).mono ?_
        rintro e w3 ⟨rfl, hb3⟩
        have hs3 : SameBut (fun _ => False) Wc w3 := (hsr.alloc _).below hb3
        clear hb3
        by_cases hh : sp (gp x.knots k) (lyJoints (gs ps p) y) = true
        · have hh' := Lib.hid hh
          rw [hh]
          gi_wp2
          have hsM : SameBut (fun k => k = mb) Wc w3 := hs3.mono (fun _ h => h.elim)
          refine ⟨hsM, ?_, hsb.trans hsM⟩
          rw [List.foldl_append]
          have hany : anyB x.knots.length (fun i => sp (gp x.knots i) (lyJoints (gs ps p) y)) = true := anyB_iff.2 ⟨k, by rw [hks.len]; exact hlt, hh'.out⟩
          have hstep : judgeStep p (gs ps p) x.knots sp ans (pre.foldl (judgeStep p (gs ps p) x.knots sp ans) m) y = pre.foldl (judgeStep p (gs ps p) x.knots sp ans) m := by
            unfold judgeStep; rw [if_pos hany]
          show MapAt w3 mb placeK intV (judgeStep p (gs ps p) x.knots sp ans _ y)
          rw [hstep]
          exact hj.same hs3 (fun e => e)
        · have hh2 : sp (gp x.knots k) (lyJoints (gs ps p) y) = false := by simpa using hh
          have hno' : anyB (k + 1) (fun i => sp (gp x.knots i) (lyJoints (gs ps p) y)) = false := by simp [anyB, hno, hh2]
          rw [hh2]
          clear hh hh2
          gi_wp2
          go_roundw
          case rel => exact ⟨k + 1, by omega, rfl, hs3, hno'⟩
          case measure => simp [intOf]; omega
      · obtain rfl : k = kn := by omega
        obtain ⟨wU, hU, hmU, hsU⟩ := run_update (T := 84) placeOk ansUnder (hj.same hsr (fun e => e)) ((p : Int), (y.1 : Int)) ans
        simp only [placeK, intV] at hU
        clear hks1
        gi_wp2
        have hsM : SameBut (fun k => k = mb) Wc wU := hsr'.trans hsU
        refine ⟨hsM, ?_, hsb.trans hsM⟩
        rw [List.foldl_append]
        have hstep : judgeStep p (gs ps p) x.knots sp ans (pre.foldl (judgeStep p (gs ps p) x.knots sp ans) m) y = setKey (pre.foldl (judgeStep p (gs ps p) x.knots sp ans) m) ((p : Int), (y.1 : Int)) ans := by
          unfold judgeStep; rw [hks.len, hno]; rfl
        show MapAt wU mb placeK intV (judgeStep p (gs ps p) x.knots sp ans _ y)
        rw [hstep]
        exact hmU
  case done =>
    rintro Wc ⟨hj, hsb⟩ hD
    gi_wp2
    refine (show bodyPostM Fence.wide 0 Try.prog Try.f96 _ .normal _ _ from ?_)
    refine ⟨by simp, .inl ⟨_, _, rfl, run_takeDeferred hD, ?_⟩⟩
    have hc := calm_put (B := 0) (W := Wc) (.deferred none) hD (by omega) rfl
    refine ⟨_, results_none rfl _ _ _, rfl, hj.calm hc, ?_⟩
    exact (same_put ((hS2.mono (fun _ h => h.elim)).trans hsb) _ (.inr (by omega)))
  case stop => exact fun c pre W _ h => h.elim

end Go.Proofs.Ytilbkmogmlcpaaa
namespace Go.Proofs.Ytilbkmogmlcpaaa
open Go.RowKit Go.Shelf

/-- Is there a way to lie that no knot spoils? -/
def okLie (s : Shape) (knots : List (Int × Int)) (sp : Int × Int → (Nat → Bool) → Bool) (t : Nat) : Bool :=
  !anyB knots.length (fun i => sp (gp knots i) (jointsM s s.joints.length t)) || (s.turns && !anyB knots.length (fun i => sp (gp knots i) (turnedM s s.joints.length t)))
def hitC (k : Int × Int) (M : Nat → Bool) : Bool := anyB 16 (andM M (knotM k))
def hitM (k : Int × Int) (M : Nat → Bool) : Bool := eqIn (andM M (knotM k)) (knotM k)
def spJ : Nat → Int × Int → (Nat → Bool) → Bool
  | 0 => fun _ _ => false
  | 1 => hitM
  | _ => hitC
def fnJ : Nat → Nat
  | 0 => 115
  | 1 => 116
  | _ => 117
def ansOf (x : Wood) (s : Shape) (t : Nat) : Int := if okLie s x.knots hitC t then 2 else if okLie s x.knots hitM t then 1 else 0
/-- All answers of a plank. -/
def boardM (x : Wood) (ps : List Shape) (n : Nat) (k : Int × Int) : Option Int :=
  if 0 ≤ k.1 ∧ k.1 < n ∧ 0 ≤ k.2 ∧ k.2 < many x.long (gs ps k.1.toNat).long then some (ansOf x (gs ps k.1.toNat) k.2.toNat) else none

theorem judge_list {p : Nat} {s : Shape} {knots : List (Int × Int)} {sp : Int × Int → (Nat → Bool) → Bool} {ans : Int} (k : Int × Int) : ∀ (L : List (Nat × Bool)) (m : Int × Int → Option Int),
    L.foldl (judgeStep p s knots sp ans) m k = if L.any (fun y => decide (((p : Int), (y.1 : Int)) = k) && !anyB knots.length (fun i => sp (gp knots i) (lyJoints s y))) then some ans else m k
  | [], m => rfl
  | y :: L, m => by
    rw [List.foldl_cons, judge_list k L, List.any_cons]
    unfold judgeStep
    by_cases h1 : anyB knots.length (fun i => sp (gp knots i) (lyJoints s y)) = true
    · have h2 : (!anyB knots.length (fun i => sp (gp knots i) (lyJoints s y))) = false := by rw [h1]; rfl
      rw [if_pos h1, h2, Bool.and_false, Bool.false_or]
    · have h1' : anyB knots.length (fun i => sp (gp knots i) (lyJoints s y)) = false := by simpa using h1
      simp only [h1', Bool.false_eq_true, if_false, setKey, Bool.not_false, Bool.and_true]
      by_cases h2 : k = ((p : Int), (y.1 : Int))
      · subst h2; simp
      · have : decide (((p : Int), (y.1 : Int)) = k) = false := decide_eq_false (fun e => h2 e.symm)
        rw [this, if_neg h2, Bool.false_or]

theorem judge_ly {p N : Nat} {s : Shape} {knots : List (Int × Int)} {sp : Int × Int → (Nat → Bool) → Bool} {ans : Int} (k : Int × Int) (m : Int × Int → Option Int) :
    (lyList N s.turns).foldl (judgeStep p s knots sp ans) m k = if k.1 = p ∧ 0 ≤ k.2 ∧ k.2 < N ∧ okLie s knots sp k.2.toNat = true then some ans else m k := by
  rw [judge_list]
  congr 1
  rw [eq_iff_iff]
  obtain ⟨k1, k2⟩ := k
  simp only [List.any_eq_true, lyList, List.mem_flatMap, List.mem_range, Bool.and_eq_true, decide_eq_true_eq, Prod.mk.injEq, Bool.not_eq_true']
  unfold okLie
  simp only [Bool.or_eq_true, Bool.and_eq_true, Bool.not_eq_true']
  constructor
  · rintro ⟨⟨t, b⟩, ⟨t', ht', hy⟩, ⟨h1, h2⟩, h3⟩
    simp only at h1 h2 h3
    have ht : t = t' := by unfold lyF at hy; split at hy <;> simp at hy <;> omega
    subst ht
    refine ⟨h1.symm, by omega, by omega, ?_⟩
    have e : k2.toNat = t := by omega
    rw [e]
    cases b with
    | false => exact .inl h3
    | true => 
      have htu : s.turns = true := by
        unfold lyF at hy
        split at hy
        · assumption
        · simp at hy
      exact .inr ⟨htu, h3⟩
  · rintro ⟨rfl, h0, hN, h⟩
    rcases h with h | ⟨htu, h⟩
    · exact ⟨(k2.toNat, false), ⟨k2.toNat, by omega, by unfold lyF; split <;> simp⟩, ⟨rfl, by simp only; omega⟩, h⟩
    · exact ⟨(k2.toNat, true), ⟨k2.toNat, by omega, by unfold lyF; rw [if_pos htu]; simp⟩, ⟨rfl, by simp only; omega⟩, h⟩

/-- What the first j verdicts on the part p note. -/
def vSteps (x : Wood) (ps : List Shape) (p : Nat) : Nat → (Int × Int → Option Int) → Int × Int → Option Int
  | 0, m => m
  | j + 1, m => (lyList (many x.long (gs ps p).long) (gs ps p).turns).foldl (judgeStep p (gs ps p) x.knots (spJ j) j) (vSteps x ps p j m)
theorem vSteps_board (x : Wood) (ps : List Shape) (p : Nat) : vSteps x ps p 3 (boardM x ps p) = boardM x ps (p + 1) := by
  funext k
  have h0 : okLie (gs ps p) x.knots (fun _ _ => false) k.2.toNat = true := by
    unfold okLie
    have : anyB x.knots.length (fun _ => false) = false := by
      rw [← Bool.not_eq_true, anyB_iff]; simp
    rw [this]; rfl
  have e : ∀ m, vSteps x ps p 3 m k = if k.1 = p ∧ 0 ≤ k.2 ∧ k.2 < many x.long (gs ps p).long ∧ okLie (gs ps p) x.knots hitC k.2.toNat = true then some 2 else
      if k.1 = p ∧ 0 ≤ k.2 ∧ k.2 < many x.long (gs ps p).long ∧ okLie (gs ps p) x.knots hitM k.2.toNat = true then some 1 else
      if k.1 = p ∧ 0 ≤ k.2 ∧ k.2 < many x.long (gs ps p).long ∧ okLie (gs ps p) x.knots (fun _ _ => false) k.2.toNat = true then some 0 else m k := by
    intro m
    unfold vSteps; rw [judge_ly]
    unfold vSteps; rw [judge_ly]
    unfold vSteps; rw [judge_ly]
    rfl
  rw [e]
  clear e
  unfold boardM ansOf
  by_cases hk : k.1 = p
  · have hkn : k.1.toNat = p := by omega
    rw [hkn]
    generalize many x.long (gs ps p).long = N
    by_cases hr : 0 ≤ k.2 ∧ k.2 < (N : Int)
    · rw [if_pos (c := 0 ≤ k.1 ∧ k.1 < ((p + 1 : Nat) : Int) ∧ 0 ≤ k.2 ∧ k.2 < (N : Int)) ⟨by omega, by omega, hr.1, hr.2⟩]
      by_cases hc : okLie (gs ps p) x.knots hitC k.2.toNat = true
      · rw [if_pos ⟨hk, hr.1, hr.2, hc⟩, if_pos hc]
      · rw [if_neg (fun h => hc h.2.2.2), if_neg hc]
        by_cases hm : okLie (gs ps p) x.knots hitM k.2.toNat = true
        · rw [if_pos ⟨hk, hr.1, hr.2, hm⟩, if_pos hm]
        · rw [if_neg (fun h => hm h.2.2.2), if_neg hm, if_pos ⟨hk, hr.1, hr.2, h0⟩]
    · rw [if_neg (fun h => hr ⟨h.2.1, h.2.2.1⟩), if_neg (fun h => hr ⟨h.2.1, h.2.2.1⟩), if_neg (fun h => hr ⟨h.2.1, h.2.2.1⟩), if_neg (fun h => hr ⟨h.2.2.1, h.2.2.2⟩), if_neg (fun h => hr ⟨h.2.2.1, h.2.2.2⟩)]
  · rw [if_neg (fun h => hk h.1), if_neg (fun h => hk h.1), if_neg (fun h => hk h.1)]
    generalize many x.long (gs ps k.1.toNat).long = N
    by_cases h : (0 ≤ k.1 ∧ k.1 < (p : Int) ∧ 0 ≤ k.2 ∧ k.2 < (N : Int))
    · rw [if_pos h]
      symm
      exact if_pos ⟨h.1, by have := h.2.1; omega, h.2.2.1, h.2.2.2⟩
    · rw [if_neg h, if_neg (fun h' => h ⟨h'.1, by have := h'.2.1; omega, h'.2.2.1, h'.2.2.2⟩)]
theorem board_zero (x : Wood) (ps : List Shape) : boardM x ps 0 = fun _ => none := by
  funext k; unfold boardM; rw [if_neg (fun h => by have := h.2.1; have := h.1; simp at *; omega)]

set_option maxRecDepth 10000 in
theorem spoilsNothing_any {k : Int × Int} {m : Nat → Bool} {w : World} :
    Calls Try.prog 115 #[.agg #[.int .i64 k.1, .int .i64 k.2], .agg (encIn m)] w fun e w' => e = .returned (.bool false) ∧ Below w.heap.size w w' := by
  go_enter Try.func115, Try.ntmps115
  go_wp2
  go_ret
  exact ⟨rfl, ((Below.refl _ _).alloc (Nat.le_refl _) _).alloc (by simp) _⟩

theorem spJ_any {j : Nat} (hj : j < 3) (k : Int × Int) (M : Nat → Bool) (w : World) (hk : Knot k) :
    Calls Try.prog (fnJ j) #[.agg #[.int .i64 k.1, .int .i64 k.2], .agg (encIn M)] w fun e w' => e = .returned (.bool (spJ j k M)) ∧ Below w.heap.size w w' := by
  rcases (by omega : j = 0 ∨ j = 1 ∨ j = 2) with rfl | rfl | rfl
  · exact spoilsNothing_any
  · exact mustHit_any hk
  · exact canHit_any hk
theorem fnJ_enters {j : Nat} (hj : j < 3) (args : Array Value) (w : World) : (callFunc (fnJ j) args).run Try.prog w = .ok (.enter (fnJ j) args) w := by
  rcases (by omega : j = 0 ∨ j = 1 ∨ j = 2) with rfl | rfl | rfl
  · exact enters_of Try.func115 (by kernel_rfl) rfl _ _
  · exact enters_of Try.func116 (by kernel_rfl) rfl _ _
  · exact enters_of Try.func117 (by kernel_rfl) rfl _ _

set_option maxRecDepth 10000 in
theorem verdicts_any {w : World} : Calls Try.prog 95 #[] w fun e w' => ∃ vb, e = .returned (.slice (some ⟨vb, 0, none⟩) 3 3) ∧ w.heap.size ≤ vb ∧ vb < w'.heap.size ∧
    (∀ j, j < 3 → w'.cell? ⟨vb, j * 2, none⟩ = some (.int .i64 j) ∧ w'.cell? ⟨vb, j * 2 + 1, none⟩ = some (.func (.func (fnJ j)) #[] #[])) ∧ Below w.heap.size w w' := by
  go_enter Try.func95, Try.ntmps95
  go_wp2
  go_ret
  refine ⟨w.heap.size, rfl, Nat.le_refl _, by simp, fun j hj => ?_, (Below.refl _ _).alloc (Nat.le_refl _) _⟩
  have hb := Blk.new w #[.int .i64 0, .func (.func (fnJ 0)) #[] #[], .int .i64 1, .func (.func (fnJ 1)) #[] #[], .int .i64 2, .func (.func (fnJ 2)) #[] #[]] 134
  rcases (by omega : j = 0 ∨ j = 1 ∨ j = 2) with rfl | rfl | rfl
  · exact ⟨hb.cell, hb.cell⟩
  · exact ⟨hb.cell, hb.cell⟩
  · exact ⟨hb.cell, hb.cell⟩

/-- What a valid book owes. -/
structure Good (x : Book) : Prop where
  planks : 1 ≤ x.planks.length ∧ x.planks.length ≤ 3
  parts : 1 ≤ x.parts.length ∧ x.parts.length ≤ 5
  wood : ∀ i, i < x.planks.length → 1 ≤ (gw x.planks i).long ∧ (gw x.planks i).long ≤ 16 ∧ (gw x.planks i).knots.length ≤ 3
  knot : ∀ i, i < x.planks.length → ∀ k, k < (gw x.planks i).knots.length → Knot (gp (gw x.planks i).knots k)
  shape : ∀ i, i < x.parts.length → 1 ≤ (gs x.parts i).long ∧ (gs x.parts i).long ≤ 12 ∧ (gs x.parts i).joints.length ≤ 3
  joint : ∀ i, i < x.parts.length → JointsIn (gs x.parts i)
theorem good_of {x : Book} (h : bookOk x = true) : Good x := by
  unfold bookOk at h
  simp only [Bool.and_eq_true, decide_eq_true_eq, allB_iff] at h
  obtain ⟨⟨⟨⟨h1, h2⟩, h3, h4⟩, h5⟩, h6⟩ := h
  have hw : ∀ i, i < x.planks.length → _ := fun i hi => by
    have := h5 i hi
    unfold woodOk withinB at this
    simp only [Bool.and_eq_true, decide_eq_true_eq, allB_iff] at this
    exact this
  have hs : ∀ i, i < x.parts.length → _ := fun i hi => by
    have := h6 i hi
    unfold shapeOk withinB at this
    simp only [Bool.and_eq_true, decide_eq_true_eq, allB_iff] at this
    exact this
  refine ⟨⟨h1, h2⟩, ⟨h3, h4⟩, fun i hi => ⟨(hw i hi).1.1.1, (hw i hi).1.1.2, (hw i hi).1.2⟩, fun i hi k hk => ?_, fun i hi => ⟨(hs i hi).1.1.1.1, (hs i hi).1.1.1.2, (hs i hi).1.1.2⟩, fun i hi k hk => ?_⟩
  · have := (hw i hi).2 k hk
    have hl := (hw i hi).1.1.2
    unfold spanOk withinB at this
    simp only [Bool.and_eq_true, decide_eq_true_eq] at this
    refine ⟨by omega, by omega, by omega⟩
  · have := (hs i hi).1.2 k hk
    exact ⟨this.1, by omega⟩

set_option maxRecDepth 100000 in
set_option maxHeartbeats 2000000 in
theorem newBoard_any {B : Nat} {pa sa : Option Addr} {pn pc sn sc p : Nat} {x : Book} {w : World} (hB : B ≤ w.heap.size) (hx : BookAt B w pa pn sa sn x) (hok : bookOk x = true) (hp : p < pn) :
    Calls Try.prog 61 #[.agg #[.slice pa pn pc, .slice sa sn sc], .int .i64 p] w fun e w' =>
      ∃ mb kv, e = .returned (.agg #[.int .i64 (gw x.planks p).long, kv, .slice sa sn sc, .map (some mb)]) ∧ w.heap.size ≤ mb ∧ MapAt w' mb placeK intV (boardM (gw x.planks p) x.parts sn) ∧ KnotsV B w kv (gw x.planks p) ∧ Below w.heap.size w w' := by
  obtain ⟨pb, po, rfl, hpB, hpc⟩ := hx.planks.get p hp
  obtain ⟨kv, hkv, c0, c1, _⟩ := hpc p hp
  clear hpc
  have hsp := hx.parts
  have hps := hx.planks.small
  have hpln := hx.planks.len
  clear hx
  go_enter Try.func61, Try.ntmps61
  go_wp2
  obtain ⟨W0, hW0⟩ : ∃ W0, W0 = ((w.alloc (.cells #[.slice (some ⟨pb, po, none⟩) pn pc, .slice sa sn sc] 25)).alloc (.cells #[.int .i64 0, .slice none 0 0, .slice none 0 0, .map none] 86)) := ⟨_, rfl⟩
  have hB0 : Below w.heap.size w W0 := by rw [hW0]; exact ((Below.refl _ _).alloc (Nat.le_refl _) _).alloc (by simp) _
  have hsz0 : W0.heap.size = w.heap.size + 2 := by rw [hW0]; simp
  have bk : Blk W0 w.heap.size #[.slice (some ⟨pb, po, none⟩) pn pc, .slice sa sn sc] := by rw [hW0]; exact (Blk.new w _ _).alloc _
  have br : Blk W0 (w.heap.size + 1) #[.int .i64 0, .slice none 0 0, .slice none 0 0, .map none] := by
    rw [hW0]
    have := Blk.new (w.alloc (.cells #[.slice (some ⟨pb, po, none⟩) pn pc, .slice sa sn sc] 25)) #[.int .i64 0, .slice none 0 0, .slice none 0 0, .map none] 86
    rw [World.size_alloc] at this
    exact this
  have bk0 := bk.cell (i := 0)
  have bk1 := bk.cell (i := 1)
  have d0 : W0.cell? ⟨pb, po + p * 2, none⟩ = some (.int .i64 (gw x.planks p).long) := (bcells hB0 _ _ (by omega)).trans c0
  have d1 : W0.cell? ⟨pb, po + p * 2 + 1, none⟩ = some kv := (bcells hB0 _ _ (by omega)).trans c1
  have l0 : w.heap.size < W0.heap.size := by omega
  have l1 : pb < W0.heap.size := by omega
  have l0' : w.heap.size < W0.heap.size + 1 := by omega
  have l1' : pb < W0.heap.size + 1 := by omega
  have hsz0' := Lib.hid hsz0
  clear hsz0
  obtain ⟨ka, kn, kc, rfl, hks⟩ := hkv
  rw [← hW0]
  clear hW0 c0 c1
  have hmm := @run_makeMap Try.prog
  refine wp_mono (Q := Exit.then (fun a' w' => ∃ mb bb, (W0.heap.size ≤ mb ∧ W0.heap.size ≤ bb ∧ mb ≠ bb ∧ MapAt w' mb placeK intV (boardM (gw x.planks p) x.parts 0) ∧ Blk w' bb #[.int .i64 (gw x.planks p).long, .slice ka kn kc, .slice sa sn sc, .map (some mb)] ∧ Below W0.heap.size W0 w') ∧ a' = { tmps := #[.agg #[.slice (some ⟨pb, po, none⟩) pn pc, .slice sa sn sc], .int .i64 p, .pointer (some ⟨w.heap.size, 0, none⟩), undef, .pointer (some ⟨w.heap.size + 1, 0, none⟩), .pointer (some ⟨bb, 0, none⟩), undef, undef, undef, .pointer (some ⟨w.heap.size, 0, none⟩), .slice (some ⟨pb, po, none⟩) pn pc, .int .i64 p, .pointer (some ⟨pb, po + p * 2, none⟩),
        .agg #[.int .i64 (gw x.planks p).long, .slice ka kn kc], .pointer (some ⟨w.heap.size, 1, none⟩), .slice sa sn sc, .map (some mb), .agg #[.int .i64 (gw x.planks p).long, .slice ka kn kc, .slice sa sn sc, .map (some mb)], undef, undef, undef, undef, undef, undef, undef, undef, undef, undef, undef, undef, undef, undef, undef, undef, undef, undef, undef], defers := [] }) (fun _ _ _ => False)) ?first ?rest
  case first =>
    go_region
    · refine ⟨W0.heap.size, W0.heap.size + 1, ⟨Nat.le_refl _, Nat.le_succ _, by omega, ?_, ?_, ?_⟩, rfl⟩
      · rw [board_zero]
        exact (MapAt.new W0).calm ((((SameBut.refl (fun _ => False) _).alloc _).drew).calm 0)
      · have := Blk.new (W0.alloc (.map #[] 0)) #[.int .i64 (gw x.planks p).long, .slice ka kn kc, .slice sa sn sc, .map (some W0.heap.size)] 86
        rw [World.size_alloc] at this
        exact this.calm ((SameBut.refl (fun _ => False) _).drew.calm 0)
      · exact (((Below.refl _ _).alloc (Nat.le_refl _) _).alloc (by simp) _).drew
    · refine ⟨W0.heap.size + 1, W0.heap.size, ⟨Nat.le_succ _, Nat.le_refl _, by omega, ?_, ?_, ?_⟩, rfl⟩
      · rw [board_zero]
        have := MapAt.new (enc := placeK) (encV := intV) (W0.alloc (.cells #[.int .i64 (gw x.planks p).long, .slice ka kn kc, .slice sa sn sc, .map (some (W0.heap.size + 1))] 86))
        rw [World.size_alloc] at this
        exact this.calm ((SameBut.refl (fun _ => False) _).drew.calm 0)
      · exact ((Blk.new W0 #[.int .i64 (gw x.planks p).long, .slice ka kn kc, .slice sa sn sc, .map (some (W0.heap.size + 1))] 86).alloc _).calm ((SameBut.refl (fun _ => False) _).drew.calm 0)
      · exact (((Below.refl _ _).alloc (Nat.le_refl _) _).alloc (by simp) _).drew
  case rest =>
    intro e a' W1 h
    cases e
    case normal =>
      obtain ⟨mb, bb, ⟨hmb, hbb, hne, hM, hBb, hB1⟩, rfl⟩ := h
      have hG := good_of hok
      have hsz0 := hsz0'.out
      have hs01 := hB1.size
      have hlen := hsp.len
      have hpl : p < x.planks.length := by rw [hpln]; exact hp
      have hBW : Below w.heap.size w W1 := hB0.trans (hB1.mono (by omega))
      have bk1 : Blk W1 w.heap.size #[.slice (some ⟨pb, po, none⟩) pn pc, .slice sa sn sc] := bk.below hB1 (by omega)
      have br1 : Blk W1 (w.heap.size + 1) #[.int .i64 0, .slice none 0 0, .slice none 0 0, .map none] := br.below hB1 (by omega)
      have q1 : W1.cell? ⟨w.heap.size, 1, none⟩ = some (.slice sa sn sc) := bk1.cell
      have hsm : sn ≤ 5 := by have := hG.parts; omega
      have hmlt := hM.lt
      have hblt := hBb.lt
      go_wp2
      clear bk0 d0 d1 l0 l1 l0' l1' hmm q1
      go_loopw [21] (fun i wr => ∃ k : Nat, k ≤ sn ∧ i = .int .i64 k ∧ MapAt wr mb placeK intV (boardM (gw x.planks p) x.parts k) ∧ SameBut (fun i => i = mb) W1 wr) (fun i _ => (sn - intOf i).toNat)
      case atStart => exact ⟨0, by omega, rfl, hM, SameBut.refl _ _⟩
      case round =>
        obtain ⟨k, hkn, rfl, hMk, hsk⟩ := hrel
        have hszk := hsk.size
        by_cases hlt : k < sn
        · go_wp2_with (go_at_call 95; refine verdicts_any.mono ?_; rintro e w2 ⟨vb, rfl, hvb, hvl, hvc, hb2⟩)
          have hs2 : SameBut (fun i => i = mb) W1 w2 := hsk.below hb2
          have hM2 : MapAt w2 mb placeK intV (boardM (gw x.planks p) x.parts k) := hMk.same (SameBut.of_below (M := fun _ => False) hb2 (Nat.le_refl _)) (fun e => e)
          obtain ⟨wo, hwo⟩ : ∃ wo : World, wo = wr := ⟨_, rfl⟩
          rw [← hwo] at hvb
          have hsz2 := hs2.size
          have hvm : vb ≠ mb := by have := hMk.lt; rw [← hwo] at this; omega
          clear hb2 hszk hsk hMk
          clear hwo
          go_loopw [26] (fun i wr => ∃ j : Nat, j ≤ 3 ∧ i = .int .i64 j ∧ MapAt wr mb placeK intV (vSteps (gw x.planks p) x.parts k j (boardM (gw x.planks p) x.parts k)) ∧ SameBut (fun i => i = mb) w2 wr) (fun i _ => (3 - intOf i).toNat)
          case atStart => exact ⟨0, by omega, rfl, hM2, SameBut.refl _ _⟩
          case round =>
            obtain ⟨j, hj3, rfl, hMj, hsj⟩ := hrel
            have hszj := hsj.size
            have hs3 : SameBut (fun i => i = mb) W1 wr := hs2.trans hsj
            have e0 : wr.cell? ⟨bb, 0, none⟩ = some (.int .i64 (gw x.planks p).long) := (hBb.same hs3 (fun e => hne e.symm)).cell
            have e1 : wr.cell? ⟨bb, 1, none⟩ = some (.slice ka kn kc) := (hBb.same hs3 (fun e => hne e.symm)).cell
            have e2 : wr.cell? ⟨bb, 2, none⟩ = some (.slice sa sn sc) := (hBb.same hs3 (fun e => hne e.symm)).cell
            have e3 : wr.cell? ⟨bb, 3, none⟩ = some (.map (some mb)) := (hBb.same hs3 (fun e => hne e.symm)).cell
            have lb : bb < wr.heap.size := by omega
            by_cases hj : j < 3
            · have v0 : wr.cell? ⟨vb, j * 2, none⟩ = some (.int .i64 j) := (hsj.cell hvl hvm).trans (hvc j hj).1
              have v1 : wr.cell? ⟨vb, j * 2 + 1, none⟩ = some (.func (.func (fnJ j)) #[] #[]) := (hsj.cell hvl hvm).trans (hvc j hj).2
              have lv : vb < wr.heap.size := by omega
              have hks3 := Lib.hid (hks.keep (B' := B) (w' := wr.alloc (.cells #[.int .i64 j, .func (.func (fnJ j)) #[] #[]] 134)) (Nat.le_refl _) (fun b o hb => (((SameBut.of_below (M := fun i => i = mb) hBW (Nat.le_refl _)).trans hs3).alloc _).cell (by omega) (by show ¬ b = mb; omega)))
              have hsp3 := Lib.hid (hsp.keep (B' := B) (w' := wr.alloc (.cells #[.int .i64 j, .func (.func (fnJ j)) #[] #[]] 134)) (Nat.le_refl _) (fun b o hb => (((SameBut.of_below (M := fun i => i = mb) hBW (Nat.le_refl _)).trans hs3).alloc _).cell (by omega) (by show ¬ b = mb; omega)))
              have hMa := Lib.hid (hMj.same ((SameBut.refl (fun _ => False) wr).alloc (.cells #[.int .i64 j, .func (.func (fnJ j)) #[] #[]] 134)) (fun e => e))
              have hvc' := Lib.hid hvc
              clear hvc
              go_wp2_with (go_at_call 96; refine (judge_any (B := B) (x := gw x.planks p) (ps := x.parts) (by simp; omega) ⟨_, _, _, rfl, hks3.out⟩ hsp3.out hlt (by have := hG.wood p hpl; omega) (hG.wood p hpl).2.1 (hG.shape k (by omega)).1 (hG.shape k (by omega)).2.1 (hG.joint k (by omega)) (hG.knot p hpl) hMa.out (by omega) (spJ j) (fun k M w hk => spJ_any hj k M w hk) (fnJ_enters hj)).mono ?_; rintro e w4 ⟨rfl, hM4, hs4⟩)
              clear v0 v1 hMa hks3 hsp3
              have hj1 : j < 3 := hj
              go_roundw
              case rel => exact ⟨j + 1, by omega, rfl, hM4, hsj.trans (((SameBut.refl _ wr).alloc _).trans hs4)⟩
              case measure => simp [intOf]; omega
            · obtain rfl : j = 3 := by omega
              rw [vSteps_board] at hMj
              go_wp2
              go_roundw
              case rel => exact ⟨k + 1, by omega, rfl, hMj, hs3⟩
              case measure => simp [intOf]; omega
        · obtain rfl : k = sn := by omega
          have e0 := (hBb.same hsk (fun e => hne e.symm)).cell (i := 0)
          have e1 := (hBb.same hsk (fun e => hne e.symm)).cell (i := 1)
          have e2 := (hBb.same hsk (fun e => hne e.symm)).cell (i := 2)
          have e3 := (hBb.same hsk (fun e => hne e.symm)).cell (i := 3)
          have br2 := br1.same hsk (by show ¬ w.heap.size + 1 = mb; omega)
          have r0 : wr.cell? ⟨w.heap.size + 1, 0, none⟩ = some (.int .i64 0) := br2.cell
          have r1 : wr.cell? ⟨w.heap.size + 1, 1, none⟩ = some (.slice none 0 0) := br2.cell
          have r2 : wr.cell? ⟨w.heap.size + 1, 2, none⟩ = some (.slice none 0 0) := br2.cell
          have r3 : wr.cell? ⟨w.heap.size + 1, 3, none⟩ = some (.map none) := br2.cell
          have f0 := br2.frozen (i := 0)
          have f1 := br2.frozen (i := 1)
          have f2 := br2.frozen (i := 2)
          have f3 := br2.frozen (i := 3)
          go_wp2
          refine bodyPost_ret (v := .agg #[.int .i64 (gw x.planks p).long, .slice ka kn kc, .slice sa k sc, .map (some mb)]) (by simp [results, Try.results61, go_sem, r0, r1, r2, r3]; try rfl) rfl ?_
          refine ⟨mb, _, rfl, by omega, ?_, ⟨ka, kn, kc, rfl, hks⟩, ?_⟩
          · exact hMk.same (((((SameBut.refl (fun i => i = w.heap.size + 1) wr).setCell (.inl rfl) _).setCell (.inl rfl) _).setCell (.inl rfl) _).setCell (.inl rfl) _) (by show ¬ mb = w.heap.size + 1; omega)
          · have h1 : SameBut (fun i => w.heap.size ≤ i) w wr := (SameBut.of_below hBW (Nat.le_refl _)).trans (hsk.mono (fun i (h : i = mb) => by show w.heap.size ≤ i; omega))
            exact ((((h1.setCell (.inr (Nat.le_succ _)) _).setCell (.inr (Nat.le_succ _)) _).setCell (.inr (Nat.le_succ _)) _).setCell (.inr (Nat.le_succ _)) _).toBelow (Nat.le_refl _) (fun _ h => h)
    all_goals exact h.elim

end Go.Proofs.Ytilbkmogmlcpaaa
namespace Go.Proofs.Ytilbkmogmlcpaaa
open Go.RowKit Go.Shelf

def numB (n : Nat) (i : Int) : Bool := decide (0 ≤ i ∧ i < n)
/-- The error of a question. -/
def askE (x : Book) (i : Int) (l : List Int) : Int :=
  if bookOk x = false then errOf false else if numB x.planks.length i && allB l.length (fun k => numB x.parts.length (gi l k)) then 0 else 11
theorem askE_bad {x : Book} {i : Int} {l : List Int} (h : bookOk x = false) : askE x i l = errOf false := by unfold askE; rw [if_pos h]
theorem askE_good {x : Book} {i : Int} {l : List Int} (h : bookOk x = true) : askE x i l = if numB x.planks.length i && allB l.length (fun k => numB x.parts.length (gi l k)) then 0 else 11 := by unfold askE; rw [if_neg (by rw [h]; simp)]

set_option maxRecDepth 10000 in
set_option maxHeartbeats 1000000 in
theorem checkAsk_any {B C : Nat} {pa sa la : Option Addr} {pn pc sn sc ln lc : Nat} {x : Book} {l : List Int} {i : Int} {w : World} (hB : B ≤ w.heap.size) (hC : C ≤ w.heap.size) (hx : BookAt B w pa pn sa sn x) (hl : IntsAt C w la ln l) :
    Calls Try.prog 60 #[.agg #[.slice pa pn pc, .slice sa sn sc], .int .i64 i, .slice la ln lc] w fun e w' => e = .returned (.int .i64 (askE x i l)) ∧ Below w.heap.size w w' := by
  have hpn := hx.planks.len
  have hsn := hx.parts.len
  have hps := hx.planks.small
  have hss := hx.parts.small
  have hls := hl.small
  have hlen := hl.len
  go_enter Try.func60, Try.ntmps60
  have hx' := Lib.hid (hx.keep (w' := w.alloc (.cells #[.slice pa pn pc, .slice sa sn sc] 25)) (Nat.le_refl _) (fun b o h => cell_alloc_lt _ (by omega)))
  have hl' := Lib.hid hl
  clear hx hl
  have hb0 : Below w.heap.size w (w.alloc (.cells #[.slice pa pn pc, .slice sa sn sc] 25)) := (Below.refl _ _).alloc (Nat.le_refl _) _
  have hk0 : Blk (w.alloc (.cells #[.slice pa pn pc, .slice sa sn sc] 25)) w.heap.size #[.slice pa pn pc, .slice sa sn sc] := Blk.new w _ _
  rcases Bool.eq_false_or_eq_true (bookOk x) with hb | hb
  case inr =>
    rw [askE_bad hb]
    have hk := Lib.hid hb
    clear hb
    go_wp2_with (go_at_call 18; refine (Check_any (B := B) (by simp; omega) hx'.out).mono ?_; rintro e w1 ⟨rfl, hb1⟩; rw [hk.out]; have bk1 := hk0.below hb1 (by simp); have q0 : w1.cell? ⟨w.heap.size, 0, none⟩ = some (.slice pa pn pc) := bk1.cell; have q1 : w1.cell? ⟨w.heap.size, 1, none⟩ = some (.slice sa sn sc) := bk1.cell; have hbw : Below w.heap.size w w1 := hb0.trans (hb1.mono (by simp)); clear hb1)
    go_ret
    exact ⟨rfl, hbw⟩
  case inl =>
    rw [askE_good hb]
    have hk := Lib.hid hb
    clear hb
    unfold numB
    rw [hpn]
    by_cases hi : 0 ≤ i ∧ i < (pn : Int)
    case neg =>
      have hi' := Lib.hid (decide_eq_false hi)
      rw [decide_eq_false hi]
      clear hi
      go_wp2_with (first | (go_at_call 18; refine (Check_any (B := B) (by simp; omega) hx'.out).mono ?_; rintro e w1 ⟨rfl, hb1⟩; rw [hk.out]; have bk1 := hk0.below hb1 (by simp); have q0 : w1.cell? ⟨w.heap.size, 0, none⟩ = some (.slice pa pn pc) := bk1.cell; have q1 : w1.cell? ⟨w.heap.size, 1, none⟩ = some (.slice sa sn sc) := bk1.cell; have hbw : Below w.heap.size w w1 := hb0.trans (hb1.mono (by simp)); clear hb1) | (go_at_call 93; refine (isWood_any (a := pa) (n := pn) (c := pc) i _ (by omega)).mono ?_; rintro e w' ⟨rfl, rfl⟩; rw [hi'.out]))
      go_ret
      exact ⟨rfl, hbw⟩
    case pos =>
      have hi' := Lib.hid (decide_eq_true hi)
      rw [decide_eq_true hi, Bool.true_and]
      clear hi
      obtain ⟨E, hE⟩ : ∃ E : Int, E = (if allB l.length (fun k => decide (0 ≤ gi l k ∧ gi l k < (x.parts.length : Int))) = true then 0 else 11) := ⟨_, rfl⟩
      rw [← hE]
      have hE' := Lib.hid hE
      clear hE
      go_wp2_with (first | (go_at_call 18; refine (Check_any (B := B) (by simp; omega) hx'.out).mono ?_; rintro e w1 ⟨rfl, hb1⟩; rw [hk.out]; have bk1 := hk0.below hb1 (by simp); have q0 : w1.cell? ⟨w.heap.size, 0, none⟩ = some (.slice pa pn pc) := bk1.cell; have q1 : w1.cell? ⟨w.heap.size, 1, none⟩ = some (.slice sa sn sc) := bk1.cell; have hbw : Below w.heap.size w w1 := hb0.trans (hb1.mono (by simp)); clear hb1) | (go_at_call 93; refine (isWood_any (a := pa) (n := pn) (c := pc) i _ (by omega)).mono ?_; rintro e w' ⟨rfl, rfl⟩; rw [hi'.out]))
      go_loopw [22] (fun i wr => ∃ k : Nat, k ≤ ln ∧ i = .int .i64 k ∧ w1 = wr ∧ allB k (fun k => decide (0 ≤ gi l k ∧ gi l k < (sn : Int))) = true) (fun i _ => (ln - intOf i).toNat)
      case atStart => exact ⟨0, by omega, rfl, rfl, rfl⟩
      case round =>
        obtain ⟨k, hkn, rfl, rfl, hal⟩ := hrel
        by_cases hlt : k < ln
        · obtain ⟨lb, lo, rfl, hlC, hlc⟩ := hl'.out.get k hlt
          have g0 := (bcells hbw lb (lo + k) (by omega)).trans (hlc k hlt).1
          clear hlc
          by_cases hg : 0 ≤ gi l k ∧ gi l k < (sn : Int)
          · have hg' := Lib.hid (decide_eq_true hg)
            have hal' : allB (k + 1) (fun k => decide (0 ≤ gi l k ∧ gi l k < (sn : Int))) = true := by unfold allB; rw [hal]; exact decide_eq_true hg
            clear hg
            go_wp2_with (go_at_call 94; refine (isShape_any (a := sa) (n := sn) (c := sc) (gi l k) _ (by omega)).mono ?_; rintro e w' ⟨rfl, rfl⟩; rw [hg'.out])
            go_roundw
            case rel => exact ⟨k + 1, by omega, by simp, by trivial, hal'⟩
            case measure => simp [intOf]; omega
          · have hg' := Lib.hid (decide_eq_false hg)
            have hall : allB l.length (fun k => decide (0 ≤ gi l k ∧ gi l k < (x.parts.length : Int))) = false := allB_false (i := k) (by omega) (by rw [hsn]; exact decide_eq_false hg)
            have hE2 := Lib.hid hall
            clear hg hall
            go_wp2_with (go_at_call 94; refine (isShape_any (a := sa) (n := sn) (c := sc) (gi l k) _ (by omega)).mono ?_; rintro e w' ⟨rfl, rfl⟩; rw [hg'.out])
            go_ret
            exact ⟨ret_int (by rw [hE'.out, hE2.out]; rfl), hbw⟩
        · obtain rfl : k = ln := by omega
          have hall : allB l.length (fun k => decide (0 ≤ gi l k ∧ gi l k < (x.parts.length : Int))) = true := by rw [hlen, hsn]; exact hal
          have hE2 := Lib.hid hall
          clear hall hal
          go_wp2
          go_ret
          exact ⟨ret_int (by rw [hE'.out, hE2.out]; rfl), hbw⟩
end Go.Proofs.Ytilbkmogmlcpaaa
