/- Walks: a plank's board. Walks: the numbers that are asked of. Walks: Can. -/
import Derived.Test.YtbbolibkheelmaaGa05
import Derived.Handy
import Derived.Laws.EntriesVeiled
namespace Go.Proofs.Ytbbolibkheelmaa
open Go.RowKit Go.Shelf

/-- Is there a way to lie that no knot spoils? -/
def okLie (s : Shape) (knots : List (Int × Int)) (sp : Int × Int → (Nat → Bool) → Bool) (t : Nat) : Bool :=
  !anyB knots.length (fun i => sp (gp knots i) (jointsM s s.joints.length t)) || (s.turns && !anyB knots.length (fun i => sp (gp knots i) (turnedM s s.joints.length t)))
def hitC (k : Int × Int) (M : Nat → Bool) : Bool := anyB 16 (andM M (knotM k))
def hitM (k : Int × Int) (M : Nat → Bool) : Bool := eqIn (andM M (knotM k)) (knotM k)
def spJ : Nat → Int × Int → (Nat → Bool) → Bool
  | 0 => fun _ _ => false
  | 1 => hitM
  | _ => hitC
def fnJ : Nat → Nat
  | 0 => 115
  | 1 => 116
  | _ => 117
def ansOf (x : Wood) (s : Shape) (t : Nat) : Int := if okLie s x.knots hitC t then 2 else if okLie s x.knots hitM t then 1 else 0
/-- All answers of a plank. -/
def boardM (x : Wood) (ps : List Shape) (n : Nat) (k : Int × Int) : Option Int :=
  if 0 ≤ k.1 ∧ k.1 < n ∧ 0 ≤ k.2 ∧ k.2 < many x.long (gs ps k.1.toNat).long then some (ansOf x (gs ps k.1.toNat) k.2.toNat) else none

theorem judge_list {p : Nat} {s : Shape} {knots : List (Int × Int)} {sp : Int × Int → (Nat → Bool) → Bool} {ans : Int} (k : Int × Int) : ∀ (L : List (Nat × Bool)) (m : Int × Int → Option Int),
    L.foldl (judgeStep p s knots sp ans) m k = if L.any (fun y => decide (((p : Int), (y.1 : Int)) = k) && !anyB knots.length (fun i => sp (gp knots i) (lyJoints s y))) then some ans else m k
  | [], m => rfl
  | y :: L, m => by
    rw [List.foldl_cons, judge_list k L, List.any_cons]
    unfold judgeStep
    by_cases h1 : anyB knots.length (fun i => sp (gp knots i) (lyJoints s y)) = true
    · have h2 : (!anyB knots.length (fun i => sp (gp knots i) (lyJoints s y))) = false := by rw [h1]; rfl
      rw [if_pos h1, h2, Bool.and_false, Bool.false_or]
    · have h1' : anyB knots.length (fun i => sp (gp knots i) (lyJoints s y)) = false := by simpa using h1
      simp only [h1', Bool.false_eq_true, if_false, setKey, Bool.not_false, Bool.and_true]
      by_cases h2 : k = ((p : Int), (y.1 : Int))
      · subst h2; simp
      · have : decide (((p : Int), (y.1 : Int)) = k) = false := decide_eq_false (fun e => h2 e.symm)
        rw [this, if_neg h2, Bool.false_or]

theorem judge_ly {p N : Nat} {s : Shape} {knots : List (Int × Int)} {sp : Int × Int → (Nat → Bool) → Bool} {ans : Int} (k : Int × Int) (m : Int × Int → Option Int) :
    (lyList N s.turns).foldl (judgeStep p s knots sp ans) m k = if k.1 = p ∧ 0 ≤ k.2 ∧ k.2 < N ∧ okLie s knots sp k.2.toNat = true then some ans else m k := by
  rw [judge_list]
  congr 1
  rw [eq_iff_iff]
  obtain ⟨k1, k2⟩ := k
  simp only [List.any_eq_true, lyList, List.mem_flatMap, List.mem_range, Bool.and_eq_true, decide_eq_true_eq, Prod.mk.injEq, Bool.not_eq_true']
  unfold okLie
  simp only [Bool.or_eq_true, Bool.and_eq_true, Bool.not_eq_true']
  constructor
  · rintro ⟨⟨t, b⟩, ⟨t', ht', hy⟩, ⟨h1, h2⟩, h3⟩
    simp only at h1 h2 h3
    have ht : t = t' := by unfold lyF at hy; split at hy <;> simp at hy <;> omega
    subst ht
    refine ⟨h1.symm, by omega, by omega, ?_⟩
    have e : k2.toNat = t := by omega
    rw [e]
    cases b with
    | false => exact .inl h3
    | true => 
      have htu : s.turns = true := by
        unfold lyF at hy
        split at hy
        · assumption
        · simp at hy
      exact .inr ⟨htu, h3⟩
  · rintro ⟨rfl, h0, hN, h⟩
    rcases h with h | ⟨htu, h⟩
    · exact ⟨(k2.toNat, false), ⟨k2.toNat, by omega, by unfold lyF; split <;> simp⟩, ⟨rfl, by simp only; omega⟩, h⟩
    · exact ⟨(k2.toNat, true), ⟨k2.toNat, by omega, by unfold lyF; rw [if_pos htu]; simp⟩, ⟨rfl, by simp only; omega⟩, h⟩

/-- What the first j verdicts on the part p note. -/
def vSteps (x : Wood) (ps : List Shape) (p : Nat) : Nat → (Int × Int → Option Int) → Int × Int → Option Int
  | 0, m => m
  | j + 1, m => (lyList (many x.long (gs ps p).long) (gs ps p).turns).foldl (judgeStep p (gs ps p) x.knots (spJ j) j) (vSteps x ps p j m)
theorem vSteps_board (x : Wood) (ps : List Shape) (p : Nat) : vSteps x ps p 3 (boardM x ps p) = boardM x ps (p + 1) := by
  funext k
  have h0 : okLie (gs ps p) x.knots (fun _ _ => false) k.2.toNat = true := by
    unfold okLie
    have : anyB x.knots.length (fun _ => false) = false := by
      rw [← Bool.not_eq_true, anyB_iff]; simp
    rw [this]; rfl
  have e : ∀ m, vSteps x ps p 3 m k = if k.1 = p ∧ 0 ≤ k.2 ∧ k.2 < many x.long (gs ps p).long ∧ okLie (gs ps p) x.knots hitC k.2.toNat = true then some 2 else
      if k.1 = p ∧ 0 ≤ k.2 ∧ k.2 < many x.long (gs ps p).long ∧ okLie (gs ps p) x.knots hitM k.2.toNat = true then some 1 else
      if k.1 = p ∧ 0 ≤ k.2 ∧ k.2 < many x.long (gs ps p).long ∧ okLie (gs ps p) x.knots (fun _ _ => false) k.2.toNat = true then some 0 else m k := by
    intro m
    unfold vSteps; rw [judge_ly]
    unfold vSteps; rw [judge_ly]
    unfold vSteps; rw [judge_ly]
    rfl
  rw [e]
  clear e
  unfold boardM ansOf
  by_cases hk : k.1 = p
  · have hkn : k.1.toNat = p := by omega
    rw [hkn]
    generalize many x.long (gs ps p).long = N
    by_cases hr : 0 ≤ k.2 ∧ k.2 < (N : Int)
    · rw [if_pos (c := 0 ≤ k.1 ∧ k.1 < ((p + 1 : Nat) : Int) ∧ 0 ≤ k.2 ∧ k.2 < (N : Int)) ⟨by omega, by omega, hr.1, hr.2⟩]
      by_cases hc : okLie (gs ps p) x.knots hitC k.2.toNat = true
      · rw [if_pos ⟨hk, hr.1, hr.2, hc⟩, if_pos hc]
      · rw [if_neg (fun h => hc h.2.2.2), if_neg hc]
        by_cases hm : okLie (gs ps p) x.knots hitM k.2.toNat = true
        · rw [if_pos ⟨hk, hr.1, hr.2, hm⟩, if_pos hm]
        · rw [if_neg (fun h => hm h.2.2.2), if_neg hm, if_pos ⟨hk, hr.1, hr.2, h0⟩]
    · rw [if_neg (fun h => hr ⟨h.2.1, h.2.2.1⟩), if_neg (fun h => hr ⟨h.2.1, h.2.2.1⟩), if_neg (fun h => hr ⟨h.2.1, h.2.2.1⟩), if_neg (fun h => hr ⟨h.2.2.1, h.2.2.2⟩), if_neg (fun h => hr ⟨h.2.2.1, h.2.2.2⟩)]
  · rw [if_neg (fun h => hk h.1), if_neg (fun h => hk h.1), if_neg (fun h => hk h.1)]
    generalize many x.long (gs ps k.1.toNat).long = N
    by_cases h : (0 ≤ k.1 ∧ k.1 < (p : Int) ∧ 0 ≤ k.2 ∧ k.2 < (N : Int))
    · rw [if_pos h]
      symm
      exact if_pos ⟨h.1, by have := h.2.1; omega, h.2.2.1, h.2.2.2⟩
    · rw [if_neg h, if_neg (fun h' => h ⟨h'.1, by have := h'.2.1; omega, h'.2.2.1, h'.2.2.2⟩)]
theorem board_zero (x : Wood) (ps : List Shape) : boardM x ps 0 = fun _ => none := by
  funext k; unfold boardM; rw [if_neg (fun h => by have := h.2.1; have := h.1; simp at *; omega)]

set_option maxRecDepth 10000 in
theorem spoilsNothing_any {k : Int × Int} {m : Nat → Bool} {w : World} :
    Calls Try.prog 115 #[.agg #[.int .i64 k.1, .int .i64 k.2], .agg (encIn m)] w fun e w' => e = .returned (.bool false) ∧ Below w.heap.size w w' := by
  go_enter Try.func115, Try.ntmps115
  go_wp2
  go_ret
  exact ⟨rfl, ((Below.refl _ _).alloc (Nat.le_refl _) _).alloc (by simp) _⟩

theorem spJ_any {j : Nat} (hj : j < 3) (k : Int × Int) (M : Nat → Bool) (w : World) (hk : Knot k) :
    Calls Try.prog (fnJ j) #[.agg #[.int .i64 k.1, .int .i64 k.2], .agg (encIn M)] w fun e w' => e = .returned (.bool (spJ j k M)) ∧ Below w.heap.size w w' := by
  rcases (by omega : j = 0 ∨ j = 1 ∨ j = 2) with rfl | rfl | rfl
  · exact spoilsNothing_any
  · exact mustHit_any hk
  · exact canHit_any hk
theorem fnJ_enters {j : Nat} (hj : j < 3) (args : Array Value) (w : World) : (callFunc (fnJ j) args).run Try.prog w = .ok (.enter (fnJ j) args) w := by
  rcases (by omega : j = 0 ∨ j = 1 ∨ j = 2) with rfl | rfl | rfl
  · exact enters_of Try.func115 (by kernel_rfl) rfl _ _
  · exact enters_of Try.func116 (by kernel_rfl) rfl _ _
  · exact enters_of Try.func117 (by kernel_rfl) rfl _ _

set_option maxRecDepth 10000 in
theorem verdicts_any {w : World} : Calls Try.prog 95 #[] w fun e w' => ∃ vb, e = .returned (.slice (some ⟨vb, 0, none⟩) 3 3) ∧ w.heap.size ≤ vb ∧ vb < w'.heap.size ∧
    (∀ j, j < 3 → w'.cell? ⟨vb, j * 2, none⟩ = some (.int .i64 j) ∧ w'.cell? ⟨vb, j * 2 + 1, none⟩ = some (.func (.func (fnJ j)) #[] #[])) ∧ Below w.heap.size w w' := by
  go_enter Try.func95, Try.ntmps95
  go_wp2
  go_ret
  refine ⟨w.heap.size, rfl, Nat.le_refl _, by simp, fun j hj => ?_, (Below.refl _ _).alloc (Nat.le_refl _) _⟩
  have hb := Blk.new w #[.int .i64 0, .func (.func (fnJ 0)) #[] #[], .int .i64 1, .func (.func (fnJ 1)) #[] #[], .int .i64 2, .func (.func (fnJ 2)) #[] #[]] 134
  rcases (by omega : j = 0 ∨ j = 1 ∨ j = 2) with rfl | rfl | rfl
  · exact ⟨hb.cell, hb.cell⟩
  · exact ⟨hb.cell, hb.cell⟩
  · exact ⟨hb.cell, hb.cell⟩

/-- What a valid book owes. -/
structure Good (x : Book) : Prop where
  planks : 1 ≤ x.planks.length ∧ x.planks.length ≤ 3
  parts : 1 ≤ x.parts.length ∧ x.parts.length ≤ 5
  wood : ∀ i, i < x.planks.length → 1 ≤ (gw x.planks i).long ∧ (gw x.planks i).long ≤ 16 ∧ (gw x.planks i).knots.length ≤ 3
  knot : ∀ i, i < x.planks.length → ∀ k, k < (gw x.planks i).knots.length → Knot (gp (gw x.planks i).knots k)
  shape : ∀ i, i < x.parts.length → 1 ≤ (gs x.parts i).long ∧ (gs x.parts i).long ≤ 12 ∧ (gs x.parts i).joints.length ≤ 3
  joint : ∀ i, i < x.parts.length → JointsIn (gs x.parts i)
theorem good_of {x : Book} (h : bookOk x = true) : Good x := by
  unfold bookOk at h
  simp only [Bool.and_eq_true, decide_eq_true_eq, allB_iff] at h
  obtain ⟨⟨⟨⟨h1, h2⟩, h3, h4⟩, h5⟩, h6⟩ := h
  have hw : ∀ i, i < x.planks.length → _ := fun i hi => by
    have := h5 i hi
    unfold woodOk withinB at this
    simp only [Bool.and_eq_true, decide_eq_true_eq, allB_iff] at this
    exact this
  have hs : ∀ i, i < x.parts.length → _ := fun i hi => by
    have := h6 i hi
    unfold shapeOk withinB at this
    simp only [Bool.and_eq_true, decide_eq_true_eq, allB_iff] at this
    exact this
  refine ⟨⟨h1, h2⟩, ⟨h3, h4⟩, fun i hi => ⟨(hw i hi).1.1.1, (hw i hi).1.1.2, (hw i hi).1.2⟩, fun i hi k hk => ?_, fun i hi => ⟨(hs i hi).1.1.1.1, (hs i hi).1.1.1.2, (hs i hi).1.1.2⟩, fun i hi k hk => ?_⟩
  · have := (hw i hi).2 k hk
    have hl := (hw i hi).1.1.2
    unfold spanOk withinB at this
    simp only [Bool.and_eq_true, decide_eq_true_eq] at this
    refine ⟨by omega, by omega, by omega⟩
  · have := (hs i hi).1.2 k hk
    exact ⟨this.1, by omega⟩

set_option maxRecDepth 100000 in
set_option maxHeartbeats 2000000 in
theorem newBoard_any {B : Nat} {pa sa : Option Addr} {pn pc sn sc p : Nat} {x : Book} {w : World} (hB : B ≤ w.heap.size) (hx : BookAt B w pa pn sa sn x) (hok : bookOk x = true) (hp : p < pn) :
    Calls Try.prog 61 #[.agg #[.slice pa pn pc, .slice sa sn sc], .int .i64 p] w fun e w' =>
      ∃ mb kv, e = .returned (.agg #[.int .i64 (gw x.planks p).long, kv, .slice sa sn sc, .map (some mb)]) ∧ w.heap.size ≤ mb ∧ MapAt w' mb placeK intV (boardM (gw x.planks p) x.parts sn) ∧ KnotsV B w kv (gw x.planks p) ∧ Below w.heap.size w w' := by
  obtain ⟨pb, po, rfl, hpB, hpc⟩ := hx.planks.get p hp
  obtain ⟨kv, hkv, c0, c1, _⟩ := hpc p hp
  clear hpc
  have hsp := hx.parts
  have hps := hx.planks.small
  have hpln := hx.planks.len
  clear hx
  go_enter Try.func61, Try.ntmps61
  go_wp2
  obtain ⟨W0, hW0⟩ : ∃ W0, W0 = ((w.alloc (.cells #[.slice (some ⟨pb, po, none⟩) pn pc, .slice sa sn sc] 25)).alloc (.cells #[.int .i64 0, .slice none 0 0, .slice none 0 0, .map none] 86)) := ⟨_, rfl⟩
  have hB0 : Below w.heap.size w W0 := by rw [hW0]; exact ((Below.refl _ _).alloc (Nat.le_refl _) _).alloc (by simp) _
  have hsz0 : W0.heap.size = w.heap.size + 2 := by rw [hW0]; simp
  have bk : Blk W0 w.heap.size #[.slice (some ⟨pb, po, none⟩) pn pc, .slice sa sn sc] := by rw [hW0]; exact (Blk.new w _ _).alloc _
  have br : Blk W0 (w.heap.size + 1) #[.int .i64 0, .slice none 0 0, .slice none 0 0, .map none] := by
    rw [hW0]
    have := Blk.new (w.alloc (.cells #[.slice (some ⟨pb, po, none⟩) pn pc, .slice sa sn sc] 25)) #[.int .i64 0, .slice none 0 0, .slice none 0 0, .map none] 86
    rw [World.size_alloc] at this
    exact this
  have bk0 := bk.cell (i := 0)
  have bk1 := bk.cell (i := 1)
  have d0 : W0.cell? ⟨pb, po + p * 2, none⟩ = some (.int .i64 (gw x.planks p).long) := (bcells hB0 _ _ (by omega)).trans c0
  have d1 : W0.cell? ⟨pb, po + p * 2 + 1, none⟩ = some kv := (bcells hB0 _ _ (by omega)).trans c1
  have l0 : w.heap.size < W0.heap.size := by omega
  have l1 : pb < W0.heap.size := by omega
  have l0' : w.heap.size < W0.heap.size + 1 := by omega
  have l1' : pb < W0.heap.size + 1 := by omega
  have hsz0' := Lib.hid hsz0
  clear hsz0
  obtain ⟨ka, kn, kc, rfl, hks⟩ := hkv
  rw [← hW0]
  clear hW0 c0 c1
  have hmm := @run_makeMap Try.prog
  refine wp_mono (Q := Exit.then (fun a' w' => ∃ mb bb, (W0.heap.size ≤ mb ∧ W0.heap.size ≤ bb ∧ mb ≠ bb ∧ MapAt w' mb placeK intV (boardM (gw x.planks p) x.parts 0) ∧ Blk w' bb #[.int .i64 (gw x.planks p).long, .slice ka kn kc, .slice sa sn sc, .map (some mb)] ∧ Below W0.heap.size W0 w') ∧ a' = { tmps := #[.agg #[.slice (some ⟨pb, po, none⟩) pn pc, .slice sa sn sc], .int .i64 p, .pointer (some ⟨w.heap.size, 0, none⟩), undef, .pointer (some ⟨w.heap.size + 1, 0, none⟩), .pointer (some ⟨bb, 0, none⟩), undef, undef, undef, .pointer (some ⟨w.heap.size, 0, none⟩), .slice (some ⟨pb, po, none⟩) pn pc, .int .i64 p, .pointer (some ⟨pb, po + p * 2, none⟩),
        .agg #[.int .i64 (gw x.planks p).long, .slice ka kn kc], .pointer (some ⟨w.heap.size, 1, none⟩), .slice sa sn sc, .map (some mb), .agg #[.int .i64 (gw x.planks p).long, .slice ka kn kc, .slice sa sn sc, .map (some mb)], undef, undef, undef, undef, undef, undef, undef, undef, undef, undef, undef, undef, undef, undef, undef, undef, undef, undef, undef], defers := [] }) (fun _ _ _ => False)) ?first ?rest
  case first =>
    go_region
    · refine ⟨W0.heap.size, W0.heap.size + 1, ⟨Nat.le_refl _, Nat.le_succ _, by omega, ?_, ?_, ?_⟩, rfl⟩
      · rw [board_zero]
        exact (MapAt.new W0).calm ((((SameBut.refl (fun _ => False) _).alloc _).drew).calm 0)
      · have := Blk.new (W0.alloc (.map #[] 0)) #[.int .i64 (gw x.planks p).long, .slice ka kn kc, .slice sa sn sc, .map (some W0.heap.size)] 86
        rw [World.size_alloc] at this
        exact this.calm ((SameBut.refl (fun _ => False) _).drew.calm 0)
      · exact (((Below.refl _ _).alloc (Nat.le_refl _) _).alloc (by simp) _).drew
    · refine ⟨W0.heap.size + 1, W0.heap.size, ⟨Nat.le_succ _, Nat.le_refl _, by omega, ?_, ?_, ?_⟩, rfl⟩
      · rw [board_zero]
        have := MapAt.new (enc := placeK) (encV := intV) (W0.alloc (.cells #[.int .i64 (gw x.planks p).long, .slice ka kn kc, .slice sa sn sc, .map (some (W0.heap.size + 1))] 86))
        rw [World.size_alloc] at this
        exact this.calm ((SameBut.refl (fun _ => False) _).drew.calm 0)
      · exact ((Blk.new W0 #[.int .i64 (gw x.planks p).long, .slice ka kn kc, .slice sa sn sc, .map (some (W0.heap.size + 1))] 86).alloc _).calm ((SameBut.refl (fun _ => False) _).drew.calm 0)
      · exact (((Below.refl _ _).alloc (Nat.le_refl _) _).alloc (by simp) _).drew
  case rest =>
    intro e a' W1 h
    cases e
    case normal =>
      obtain ⟨mb, bb, ⟨hmb, hbb, hne, hM, hBb, hB1⟩, rfl⟩ := h
      have hG := good_of hok
      have hsz0 := hsz0'.out
      have hs01 := hB1.size
      have hlen := hsp.len
      have hpl : p < x.planks.length := by rw [hpln]; exact hp
      have hBW : Below w.heap.size w W1 := hB0.trans (hB1.mono (by omega))
      have bk1 : Blk W1 w.heap.size #[.slice (some ⟨pb, po, none⟩) pn pc, .slice sa sn sc] := bk.below hB1 (by omega)
      have br1 : Blk W1 (w.heap.size + 1) #[.int .i64 0, .slice none 0 0, .slice none 0 0, .map none] := br.below hB1 (by omega)
      have q1 : W1.cell? ⟨w.heap.size, 1, none⟩ = some (.slice sa sn sc) := bk1.cell
      have hsm : sn ≤ 5 := by have := hG.parts; omega
      have hmlt := hM.lt
      have hblt := hBb.lt
      go_wp2
      clear bk0 d0 d1 l0 l1 l0' l1' hmm q1
      go_loopw [21] (fun i wr => ∃ k : Nat, k ≤ sn ∧ i = .int .i64 k ∧ MapAt wr mb placeK intV (boardM (gw x.planks p) x.parts k) ∧ SameBut (fun i => i = mb) W1 wr) (fun i _ => (sn - intOf i).toNat)
      case atStart => exact ⟨0, by omega, rfl, hM, SameBut.refl _ _⟩
      case round =>
        obtain ⟨k, hkn, rfl, hMk, hsk⟩ := hrel
        have hszk := hsk.size
        by_cases hlt : k < sn
        · go_wp2_with (go_at_call 95; refine verdicts_any.mono ?_; rintro e w2 ⟨vb, rfl, hvb, hvl, hvc, hb2⟩)
          have hs2 : SameBut (fun i => i = mb) W1 w2 := hsk.below hb2
          have hM2 : MapAt w2 mb placeK intV (boardM (gw x.planks p) x.parts k) := hMk.same (SameBut.of_below (M := fun _ => False) hb2 (Nat.le_refl _)) (fun e => e)
          obtain ⟨wo, hwo⟩ : ∃ wo : World, wo = wr := ⟨_, rfl⟩
          rw [← hwo] at hvb
          have hsz2 := hs2.size
          have hvm : vb ≠ mb := by have := hMk.lt; rw [← hwo] at this; omega
          clear hb2 hszk hsk hMk
          clear hwo
          go_loopw [26] (fun i wr => ∃ j : Nat, j ≤ 3 ∧ i = .int .i64 j ∧ MapAt wr mb placeK intV (vSteps (gw x.planks p) x.parts k j (boardM (gw x.planks p) x.parts k)) ∧ SameBut (fun i => i = mb) w2 wr) (fun i _ => (3 - intOf i).toNat)
          case atStart => exact ⟨0, by omega, rfl, hM2, SameBut.refl _ _⟩
          case round =>
            obtain ⟨j, hj3, rfl, hMj, hsj⟩ := hrel
            have hszj := hsj.size
            have hs3 : SameBut (fun i => i = mb) W1 wr := hs2.trans hsj
            have e0 : wr.cell? ⟨bb, 0, none⟩ = some (.int .i64 (gw x.planks p).long) := (hBb.same hs3 (fun e => hne e.symm)).cell
            have e1 : wr.cell? ⟨bb, 1, none⟩ = some (.slice ka kn kc) := (hBb.same hs3 (fun e => hne e.symm)).cell
            have e2 : wr.cell? ⟨bb, 2, none⟩ = some (.slice sa sn sc) := (hBb.same hs3 (fun e => hne e.symm)).cell
            have e3 : wr.cell? ⟨bb, 3, none⟩ = some (.map (some mb)) := (hBb.same hs3 (fun e => hne e.symm)).cell
            have lb : bb < wr.heap.size := by omega
            by_cases hj : j < 3
            · have v0 : wr.cell? ⟨vb, j * 2, none⟩ = some (.int .i64 j) := (hsj.cell hvl hvm).trans (hvc j hj).1
              have v1 : wr.cell? ⟨vb, j * 2 + 1, none⟩ = some (.func (.func (fnJ j)) #[] #[]) := (hsj.cell hvl hvm).trans (hvc j hj).2
              have lv : vb < wr.heap.size := by omega
              have hks3 := Lib.hid (hks.keep (B' := B) (w' := wr.alloc (.cells #[.int .i64 j, .func (.func (fnJ j)) #[] #[]] 134)) (Nat.le_refl _) (fun b o hb => (((SameBut.of_below (M := fun i => i = mb) hBW (Nat.le_refl _)).trans hs3).alloc _).cell (by omega) (by show ¬ b = mb; omega)))
              have hsp3 := Lib.hid (hsp.keep (B' := B) (w' := wr.alloc (.cells #[.int .i64 j, .func (.func (fnJ j)) #[] #[]] 134)) (Nat.le_refl _) (fun b o hb => (((SameBut.of_below (M := fun i => i = mb) hBW (Nat.le_refl _)).trans hs3).alloc _).cell (by omega) (by show ¬ b = mb; omega)))
              have hMa := Lib.hid (hMj.same ((SameBut.refl (fun _ => False) wr).alloc (.cells #[.int .i64 j, .func (.func (fnJ j)) #[] #[]] 134)) (fun e => e))
              have hvc' := Lib.hid hvc
              clear hvc
              go_wp2_with (go_at_call 96; refine (judge_any (B := B) (x := gw x.planks p) (ps := x.parts) (by simp; omega) ⟨_, _, _, rfl, hks3.out⟩ hsp3.out hlt (by have := hG.wood p hpl; omega) (hG.wood p hpl).2.1 (hG.shape k (by omega)).1 (hG.shape k (by omega)).2.1 (hG.joint k (by omega)) (hG.knot p hpl) hMa.out (by omega) (spJ j) (fun k M w hk => spJ_any hj k M w hk) (fnJ_enters hj)).mono ?_; rintro e w4 ⟨rfl, hM4, hs4⟩)
              clear v0 v1 hMa hks3 hsp3
              have hj1 : j < 3 := hj
              go_roundw
              case rel => exact ⟨j + 1, by omega, rfl, hM4, hsj.trans (((SameBut.refl _ wr).alloc _).trans hs4)⟩
              case measure => simp [intOf]; omega
            · obtain rfl : j = 3 := by omega
              rw [vSteps_board] at hMj
              go_wp2
              go_roundw
              case rel => exact ⟨k + 1, by omega, rfl, hMj, hs3⟩
              case measure => simp [intOf]; omega
        · obtain rfl : k = sn := by omega
          have e0 := (hBb.same hsk (fun e => hne e.symm)).cell (i := 0)
          have e1 := (hBb.same hsk (fun e => hne e.symm)).cell (i := 1)
          have e2 := (hBb.same hsk (fun e => hne e.symm)).cell (i := 2)
          have e3 := (hBb.same hsk (fun e => hne e.symm)).cell (i := 3)
          have br2 := br1.same hsk (by show ¬ w.heap.size + 1 = mb; omega)
          have r0 : wr.cell? ⟨w.heap.size + 1, 0, none⟩ = some (.int .i64 0) := br2.cell
          have r1 : wr.cell? ⟨w.heap.size + 1, 1, none⟩ = some (.slice none 0 0) := br2.cell
          have r2 : wr.cell? ⟨w.heap.size + 1, 2, none⟩ = some (.slice none 0 0) := br2.cell
          have r3 : wr.cell? ⟨w.heap.size + 1, 3, none⟩ = some (.map none) := br2.cell
          have f0 := br2.frozen (i := 0)
          have f1 := br2.frozen (i := 1)
          have f2 := br2.frozen (i := 2)
          have f3 := br2.frozen (i := 3)
          go_wp2
          refine bodyPost_ret (v := .agg #[.int .i64 (gw x.planks p).long, .slice ka kn kc, .slice sa k sc, .map (some mb)]) (by simp [results, Try.results61, go_sem, r0, r1, r2, r3]; try rfl) rfl ?_
          refine ⟨mb, _, rfl, by omega, ?_, ⟨ka, kn, kc, rfl, hks⟩, ?_⟩
          · exact hMk.same (((((SameBut.refl (fun i => i = w.heap.size + 1) wr).setCell (.inl rfl) _).setCell (.inl rfl) _).setCell (.inl rfl) _).setCell (.inl rfl) _) (by show ¬ mb = w.heap.size + 1; omega)
          · have h1 : SameBut (fun i => w.heap.size ≤ i) w wr := (SameBut.of_below hBW (Nat.le_refl _)).trans (hsk.mono (fun i (h : i = mb) => by show w.heap.size ≤ i; omega))
            exact ((((h1.setCell (.inr (Nat.le_succ _)) _).setCell (.inr (Nat.le_succ _)) _).setCell (.inr (Nat.le_succ _)) _).setCell (.inr (Nat.le_succ _)) _).toBelow (Nat.le_refl _) (fun _ h => h)
    all_goals exact h.elim

end Go.Proofs.Ytbbolibkheelmaa
namespace Go.Proofs.Ytbbolibkheelmaa
open Go.RowKit Go.Shelf

def numB (n : Nat) (i : Int) : Bool := decide (0 ≤ i ∧ i < n)
/-- The error of a question. -/
def askE (x : Book) (i : Int) (l : List Int) : Int :=
  if bookOk x = false then errOf false else if numB x.planks.length i && allB l.length (fun k => numB x.parts.length (gi l k)) then 0 else 11
theorem askE_bad {x : Book} {i : Int} {l : List Int} (h : bookOk x = false) : askE x i l = errOf false := by unfold askE; rw [if_pos h]
theorem askE_good {x : Book} {i : Int} {l : List Int} (h : bookOk x = true) : askE x i l = if numB x.planks.length i && allB l.length (fun k => numB x.parts.length (gi l k)) then 0 else 11 := by unfold askE; rw [if_neg (by rw [h]; simp)]

set_option maxRecDepth 10000 in
set_option maxHeartbeats 1000000 in
theorem checkAsk_any {B C : Nat} {pa sa la : Option Addr} {pn pc sn sc ln lc : Nat} {x : Book} {l : List Int} {i : Int} {w : World} (hB : B ≤ w.heap.size) (hC : C ≤ w.heap.size) (hx : BookAt B w pa pn sa sn x) (hl : IntsAt C w la ln l) :
    Calls Try.prog 60 #[.agg #[.slice pa pn pc, .slice sa sn sc], .int .i64 i, .slice la ln lc] w fun e w' => e = .returned (.int .i64 (askE x i l)) ∧ Below w.heap.size w w' := by
  have hpn := hx.planks.len
  have hsn := hx.parts.len
  have hps := hx.planks.small
  have hss := hx.parts.small
  have hls := hl.small
  have hlen := hl.len
  go_enter Try.func60, Try.ntmps60
  have hx' := Lib.hid (hx.keep (w' := w.alloc (.cells #[.slice pa pn pc, .slice sa sn sc] 25)) (Nat.le_refl _) (fun b o h => cell_alloc_lt _ (by omega)))
  have hl' := Lib.hid hl
  clear hx hl
  have hb0 : Below w.heap.size w (w.alloc (.cells #[.slice pa pn pc, .slice sa sn sc] 25)) := (Below.refl _ _).alloc (Nat.le_refl _) _
  have hk0 : Blk (w.alloc (.cells #[.slice pa pn pc, .slice sa sn sc] 25)) w.heap.size #[.slice pa pn pc, .slice sa sn sc] := Blk.new w _ _
  rcases Bool.eq_false_or_eq_true (bookOk x) with hb | hb
  case inr =>
    rw [askE_bad hb]
    have hk := Lib.hid hb
    clear hb
    go_wp2_with (go_at_call 18; refine (Check_any (B := B) (by simp; omega) hx'.out).mono ?_; rintro e w1 ⟨rfl, hb1⟩; rw [hk.out]; have bk1 := hk0.below hb1 (by simp); have q0 : w1.cell? ⟨w.heap.size, 0, none⟩ = some (.slice pa pn pc) := bk1.cell; have q1 : w1.cell? ⟨w.heap.size, 1, none⟩ = some (.slice sa sn sc) := bk1.cell; have hbw : Below w.heap.size w w1 := hb0.trans (hb1.mono (by simp)); clear hb1)
    go_ret
    exact ⟨rfl, hbw⟩
  case inl =>
    rw [askE_good hb]
    have hk := Lib.hid hb
    clear hb
    unfold numB
    rw [hpn]
    by_cases hi : 0 ≤ i ∧ i < (pn : Int)
    case neg =>
      have hi' := Lib.hid (decide_eq_false hi)
      rw [decide_eq_false hi]
      clear hi
      go_wp2_with (first | (go_at_call 18; refine (Check_any (B := B) (by simp; omega) hx'.out).mono ?_; rintro e w1 ⟨rfl, hb1⟩; rw [hk.out]; have bk1 := hk0.below hb1 (by simp); have q0 : w1.cell? ⟨w.heap.size, 0, none⟩ = some (.slice pa pn pc) := bk1.cell; have q1 : w1.cell? ⟨w.heap.size, 1, none⟩ = some (.slice sa sn sc) := bk1.cell; have hbw : Below w.heap.size w w1 := hb0.trans (hb1.mono (by simp)); clear hb1) | (go_at_call 93; refine (isWood_any (a := pa) (n := pn) (c := pc) i _ (by omega)).mono ?_; rintro e w' ⟨rfl, rfl⟩; rw [hi'.out]))
      go_ret
      exact ⟨rfl, hbw⟩
    case pos =>
      have hi' := Lib.hid (decide_eq_true hi)
      rw [decide_eq_true hi, Bool.true_and]
      clear hi
      obtain ⟨E, hE⟩ : ∃ E : Int, E = (if allB l.length (fun k => decide (0 ≤ gi l k ∧ gi l k < (x.parts.length : Int))) = true then 0 else 11) := ⟨_, rfl⟩
      rw [← hE]
      have hE' := Lib.hid hE
      clear hE
      go_wp2_with (first | (go_at_call 18; refine (Check_any (B := B) (by simp; omega) hx'.out).mono ?_; rintro e w1 ⟨rfl, hb1⟩; rw [hk.out]; have bk1 := hk0.below hb1 (by simp); have q0 : w1.cell? ⟨w.heap.size, 0, none⟩ = some (.slice pa pn pc) := bk1.cell; have q1 : w1.cell? ⟨w.heap.size, 1, none⟩ = some (.slice sa sn sc) := bk1.cell; have hbw : Below w.heap.size w w1 := hb0.trans (hb1.mono (by simp)); clear hb1) | (go_at_call 93; refine (isWood_any (a := pa) (n := pn) (c := pc) i _ (by omega)).mono ?_; rintro e w' ⟨rfl, rfl⟩; rw [hi'.out]))
      go_loopw [22] (fun i wr => ∃ k : Nat, k ≤ ln ∧ i = .int .i64 k ∧ w1 = wr ∧ allB k (fun k => decide (0 ≤ gi l k ∧ gi l k < (sn : Int))) = true) (fun i _ => (ln - intOf i).toNat)
      case atStart => exact ⟨0, by omega, rfl, rfl, rfl⟩
      case round =>
        obtain ⟨k, hkn, rfl, rfl, hal⟩ := hrel
        by_cases hlt : k < ln
        · obtain ⟨lb, lo, rfl, hlC, hlc⟩ := hl'.out.get k hlt
          have g0 := (bcells hbw lb (lo + k) (by omega)).trans (hlc k hlt).1
          clear hlc
          by_cases hg : 0 ≤ gi l k ∧ gi l k < (sn : Int)
          · have hg' := Lib.hid (decide_eq_true hg)
            have hal' : allB (k + 1) (fun k => decide (0 ≤ gi l k ∧ gi l k < (sn : Int))) = true := by unfold allB; rw [hal]; exact decide_eq_true hg
            clear hg
            go_wp2_with (go_at_call 94; refine (isShape_any (a := sa) (n := sn) (c := sc) (gi l k) _ (by omega)).mono ?_; rintro e w' ⟨rfl, rfl⟩; rw [hg'.out])
            go_roundw
            case rel => exact ⟨k + 1, by omega, by simp, by trivial, hal'⟩
            case measure => simp [intOf]; omega
          · have hg' := Lib.hid (decide_eq_false hg)
            have hall : allB l.length (fun k => decide (0 ≤ gi l k ∧ gi l k < (x.parts.length : Int))) = false := allB_false (i := k) (by omega) (by rw [hsn]; exact decide_eq_false hg)
            have hE2 := Lib.hid hall
            clear hg hall
            go_wp2_with (go_at_call 94; refine (isShape_any (a := sa) (n := sn) (c := sc) (gi l k) _ (by omega)).mono ?_; rintro e w' ⟨rfl, rfl⟩; rw [hg'.out])
            go_ret
            exact ⟨ret_int (by rw [hE'.out, hE2.out]; rfl), hbw⟩
        · obtain rfl : k = ln := by omega
          have hall : allB l.length (fun k => decide (0 ≤ gi l k ∧ gi l k < (x.parts.length : Int))) = true := by rw [hlen, hsn]; exact hal
          have hE2 := Lib.hid hall
          clear hall hal
          go_wp2
          go_ret
          exact ⟨ret_int (by rw [hE'.out, hE2.out]; rfl), hbw⟩
end Go.Proofs.Ytbbolibkheelmaa
namespace Go.Proofs.Ytbbolibkheelmaa
open Go.RowKit Go.Shelf

def canR (x : Book) (i j t : Int) : Int × Int :=
  if askE x i [j] = 0 then (match boardM (gw x.planks i.toNat) x.parts x.parts.length (j, t) with | some a => (a, 0) | none => (0, 11)) else (0, askE x i [j])

theorem askE_zero {x : Book} {i : Int} {l : List Int} (h : askE x i l = 0) : bookOk x = true ∧ 0 ≤ i ∧ i < x.planks.length ∧ ∀ k, k < l.length → 0 ≤ gi l k ∧ gi l k < x.parts.length := by
  rcases Bool.eq_false_or_eq_true (bookOk x) with hb | hb
  · rw [askE_good hb] at h
    split at h
    · rename_i h2
      unfold numB at h2
      simp only [Bool.and_eq_true, decide_eq_true_eq, allB_iff] at h2
      exact ⟨hb, h2.1.1, h2.1.2, h2.2⟩
    · cases h
  · rw [askE_bad hb] at h; cases h
theorem intsAt_one (w : World) (j : Int) (hj : I64 j) (t : TypeId) : IntsAt (w.heap.size + 1) (w.alloc (.cells #[.int .i64 j] t)) (some ⟨w.heap.size, 0, none⟩) 1 [j] where
  len := rfl
  small := by omega
  get := fun i hi => ⟨w.heap.size, 0, rfl, by omega, fun i hi => by
    obtain rfl : i = 0 := by omega
    exact ⟨(Blk.new w #[.int .i64 j] t).cell, hj⟩⟩

theorem field_answers (a d : Value) (r s : Option Addr) (m n k l : Nat) (w : World) : (Instr.field 86 (.agg #[a, .slice r m n, .slice s k l, d]) 2).run Try.prog w = .ok d w := by kernel_rfl

set_option maxRecDepth 100000 in
set_option maxHeartbeats 1000000 in
theorem Can_any {B : Nat} {pa sa : Option Addr} {pn pc sn sc : Nat} {x : Book} {i j t : Int} {w : World} (hB : B ≤ w.heap.size) (hx : BookAt B w pa pn sa sn x) (hj : I64 j) :
    Calls Try.prog 16 #[.agg #[.slice pa pn pc, .slice sa sn sc], .int .i64 i, .int .i64 j, .int .i64 t] w fun e w' => e = .returned (.tuple #[.int .i64 (canR x i j t).1, .int .i64 (canR x i j t).2]) ∧ Below w.heap.size w w' := by
  have hpn := hx.planks.len
  have hsn := hx.parts.len
  go_enter Try.func16, Try.ntmps16
  have bk : Hid (Blk ((w.alloc (.cells #[.slice pa pn pc, .slice sa sn sc] 25)).alloc (.cells #[.int .i64 j] 3)) w.heap.size #[.slice pa pn pc, .slice sa sn sc]) := Lib.hid ((Blk.new w _ _).alloc _)
  have hx1 : Hid (BookAt B ((w.alloc (.cells #[.slice pa pn pc, .slice sa sn sc] 25)).alloc (.cells #[.int .i64 j] 3)) pa pn sa sn x) := Lib.hid (hx.keep (Nat.le_refl _) (fun b o h => (((SameBut.refl (fun _ => False) w).alloc _).alloc _).cell (by omega) (fun e => e)))
  have hl1 : Hid (IntsAt (w.heap.size + 2) ((w.alloc (.cells #[.slice pa pn pc, .slice sa sn sc] 25)).alloc (.cells #[.int .i64 j] 3)) (some ⟨w.heap.size + 1, 0, none⟩) 1 [j]) := Lib.hid (by
    have := intsAt_one (w.alloc (.cells #[.slice pa pn pc, .slice sa sn sc] 25)) j hj 3
    simp only [World.size_alloc] at this
    exact this)
  have hb1 : Hid (Below w.heap.size w ((w.alloc (.cells #[.slice pa pn pc, .slice sa sn sc] 25)).alloc (.cells #[.int .i64 j] 3))) := Lib.hid (((Below.refl _ _).alloc (Nat.le_refl _) _).alloc (by simp) _)
  clear hx
  have hfd := field_answers
  obtain ⟨E, hE⟩ : ∃ E, E = askE x i [j] := ⟨_, rfl⟩
  obtain ⟨r1, hr1⟩ : ∃ r1, r1 = (canR x i j t).1 := ⟨_, rfl⟩
  obtain ⟨r2, hr2⟩ : ∃ r2, r2 = (canR x i j t).2 := ⟨_, rfl⟩
  rw [← hr1, ← hr2]
  have hE' := Lib.hid hE
  have hr := Lib.hid (And.intro hr1 hr2)
  clear hr1 hr2
  by_cases h0 : E = 0
  · subst h0
    obtain ⟨hok, hi0, hi1, hjj⟩ := askE_zero hE.symm
    clear hE
    obtain ⟨p, rfl⟩ := Int.eq_ofNat_of_zero_le hi0
    obtain ⟨o, ho⟩ : ∃ o, o = boardM (gw x.planks p) x.parts sn (j, t) := ⟨_, rfl⟩
    have hbn := ho.symm
    cases o with
    | none =>
      · have hbd := Lib.hid hbn
        clear hbn
        go_wp2_with (first | (go_at_call 60; refine (checkAsk_any (B := B) (C := w.heap.size + 2) (x := x) (l := [j]) (by simp; omega) (by simp) hx1.out hl1.out).mono ?_; rintro e w2 ⟨rfl, hb2⟩; rw [← hE'.out]; have bk2 := bk.out.below hb2 (by simp; omega); have hbw := hb1.out.trans (hb2.mono (by simp; omega)); have hx2 := Lib.hid (hx1.out.keep (Nat.le_refl _) (fun b o h => bcells hb2 b o (by simp; omega))); have hs2 := hb2.size; simp only [World.size_alloc] at hs2; clear hb2; have q0 : w2.cell? ⟨w.heap.size, 0, none⟩ = some (.slice pa pn pc) := bk2.cell; have q1 : w2.cell? ⟨w.heap.size, 1, none⟩ = some (.slice sa sn sc) := bk2.cell) | (go_at_call 61; refine (newBoard_any (B := B) (by omega) hx2.out hok (by omega)).mono ?_; rintro e w3 ⟨mb, _, rfl, hmb, hM, ⟨ka, kn, kc, rfl, hks⟩, hb3⟩; have hlk := run_lookup (T := 84) (enc := placeK) (encV := intV) placeOk ansUnder zeroInt hM (j, t) true; rw [hbd.out] at hlk; simp only [placeK, Option.map_none, Option.getD_none, Option.isSome_none, if_true] at hlk; have hbw3 := hbw.trans (hb3.mono hbw.size); clear hM hb3))
        go_ret2
        refine ⟨?_, hbw3⟩
        rw [hr.out.1, hr.out.2]
        unfold canR
        rw [← hE'.out, if_pos rfl]
        simp only [Int.toNat_natCast]
        rw [hsn, hbd.out]
        rfl
    | some a =>
      · have hbd := Lib.hid hbn
        clear hbn
        go_wp2_with (first | (go_at_call 60; refine (checkAsk_any (B := B) (C := w.heap.size + 2) (x := x) (l := [j]) (by simp; omega) (by simp) hx1.out hl1.out).mono ?_; rintro e w2 ⟨rfl, hb2⟩; rw [← hE'.out]; have bk2 := bk.out.below hb2 (by simp; omega); have hbw := hb1.out.trans (hb2.mono (by simp; omega)); have hx2 := Lib.hid (hx1.out.keep (Nat.le_refl _) (fun b o h => bcells hb2 b o (by simp; omega))); have hs2 := hb2.size; simp only [World.size_alloc] at hs2; clear hb2; have q0 : w2.cell? ⟨w.heap.size, 0, none⟩ = some (.slice pa pn pc) := bk2.cell; have q1 : w2.cell? ⟨w.heap.size, 1, none⟩ = some (.slice sa sn sc) := bk2.cell) | (go_at_call 61; refine (newBoard_any (B := B) (by omega) hx2.out hok (by omega)).mono ?_; rintro e w3 ⟨mb, _, rfl, hmb, hM, ⟨ka, kn, kc, rfl, hks⟩, hb3⟩; have hlk := run_lookup (T := 84) (enc := placeK) (encV := intV) placeOk ansUnder zeroInt hM (j, t) true; rw [hbd.out] at hlk; simp only [placeK, Option.map_some, Option.getD_some, Option.isSome_some, if_true] at hlk; have hbw3 := hbw.trans (hb3.mono hbw.size); clear hM hb3))
        go_ret2
        refine ⟨?_, hbw3⟩
        rw [hr.out.1, hr.out.2]
        unfold canR
        rw [← hE'.out, if_pos rfl]
        simp only [Int.toNat_natCast]
        rw [hsn, hbd.out]
        rfl
  · have hne : (E == 0) = false := by simpa using h0
    have h0' := Lib.hid h0
    clear hE h0
    go_wp2_with (go_at_call 60; refine (checkAsk_any (B := B) (C := w.heap.size + 2) (x := x) (l := [j]) (by simp; omega) (by simp) hx1.out hl1.out).mono ?_; rintro e w2 ⟨rfl, hb2⟩; rw [← hE'.out]; have bk2 := bk.out.below hb2 (by simp; omega); have hbw := hb1.out.trans (hb2.mono (by simp; omega)); have hx2 := Lib.hid (hx1.out.keep (Nat.le_refl _) (fun b o h => bcells hb2 b o (by simp; omega))); have hs2 := hb2.size; simp only [World.size_alloc] at hs2; clear hb2; have q0 : w2.cell? ⟨w.heap.size, 0, none⟩ = some (.slice pa pn pc) := bk2.cell; have q1 : w2.cell? ⟨w.heap.size, 1, none⟩ = some (.slice sa sn sc) := bk2.cell)
    go_ret2
    refine ⟨?_, hbw⟩
    rw [hr.out.1, hr.out.2]
    unfold canR
    rw [← hE'.out, if_neg h0'.out]
    rfl
end Go.Proofs.Ytbbolibkheelmaa
