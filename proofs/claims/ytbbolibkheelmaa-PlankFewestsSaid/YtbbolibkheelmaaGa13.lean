/- Walks: a chooser is offered a choice. Walks: Most. Walks: Lacks. Walks: Fewest. -/
import Derived.Test.YtbbolibkheelmaaGa12
import Derived.Test.YtbbolibkheelmaaGa08
namespace Go.Proofs.Ytbbolibkheelmaa
open Go.RowKit Go.Shelf

attribute [local go_sem] Oper.semAt_some

/-- What a chooser keeps. -/
def ChAt (w : World) (b fb : Nat) : Option (List Int × Int) → Prop
  | none => Blk w b (chooserRow fb none 0 0 0 false)
  | some (xs, cx) => ∃ a n c, n ≤ c ∧ Blk w b (chooserRow fb a n c cx true) ∧ IntsOff b w a n xs
abbrev Bet : Type := List Int → Int → List Int → Int → Bool
def offerL (bet : Bet) (st : Option (List Int × Int)) (ys : List Int) (cy : Int) : Option (List Int × Int) :=
  match st with
  | none => some (ys, cy)
  | some (xs, cx) => if bet ys cy xs cx then some (ys, cy) else some (xs, cx)
/-- What a function that tells the better one owes. -/
def BetOk (fb : Nat) (bet : Bet) : Prop := (∀ args w, (callFunc fb args).run Try.prog w = .ok (.enter fb args) w) ∧ ∀ (w : World) (xa ya : Option Addr) (xn xc yn yc : Nat) (xs ys : List Int) (cx cy : Int), IntsAt w.heap.size w xa xn xs → IntsAt w.heap.size w ya yn ys →
  Calls Try.prog fb #[.agg #[.slice xa xn xc, .int .i64 cx], .agg #[.slice ya yn yc, .int .i64 cy]] w fun e w' => e = .returned (.bool (bet xs cx ys cy)) ∧ Below w.heap.size w w'
theorem more_ok : BetOk 75 moreB := ⟨enters_of Try.func75 (by kernel_rfl) rfl, fun _ _ _ _ _ _ _ _ _ _ _ hx hy => more_any (Nat.le_refl _) hx hy⟩
theorem fewer_ok : BetOk 82 fewerB := ⟨enters_of Try.func82 (by kernel_rfl) rfl, fun _ _ _ _ _ _ _ _ _ _ _ hx hy => fewer_any (Nat.le_refl _) hx hy⟩

theorem Blk.setAt {w : World} {b i : Nat} {c : Array Value} (h : Blk w b c) (v : Value) : Blk (w.setCell ⟨b, i, none⟩ v) b (c.setIfInBounds i v) := by
  obtain ⟨t, h⟩ := h; exact ⟨t, heap_setCell_same w b i _ t v h⟩

theorem chooser_put (fb : Nat) (xa oa : Option Addr) (xn xc on oc : Nat) (cx cy : Int) (g : Bool) :
    (((chooserRow fb xa xn xc cx g).setIfInBounds 1 (.slice oa on oc)).setIfInBounds 2 (.int .i64 cy)).setIfInBounds 3 (.bool true) = chooserRow fb oa on oc cy true := by kernel_rfl
theorem Blk.choose {w : World} {b fb : Nat} {xa : Option Addr} {xn xc : Nat} {cx : Int} {g : Bool} (h : Blk w b (chooserRow fb xa xn xc cx g)) (oa : Option Addr) (on oc : Nat) (cy : Int) :
    Blk (((w.setCell ⟨b, 1, none⟩ (.slice oa on oc)).setCell ⟨b, 2, none⟩ (.int .i64 cy)).setCell ⟨b, 3, none⟩ (.bool true)) b (chooserRow fb oa on oc cy true) := by
  have := ((h.setAt (i := 1) (.slice oa on oc)).setAt (i := 2) (.int .i64 cy)).setAt (i := 3) (.bool true)
  rw [chooser_put] at this
  exact this

theorem same_choose (w : World) (b : Nat) (oa : Option Addr) (on oc : Nat) (cy : Int) :
    SameBut (fun k => k = b) w (((w.setCell ⟨b, 1, none⟩ (.slice oa on oc)).setCell ⟨b, 2, none⟩ (.int .i64 cy)).setCell ⟨b, 3, none⟩ (.bool true)) :=
  (((SameBut.refl (fun k => k = b) w).setCell (a := ⟨b, 1, none⟩) (.inl rfl) _).setCell (a := ⟨b, 2, none⟩) (.inl rfl) _).setCell (a := ⟨b, 3, none⟩) (.inl rfl) _

set_option maxRecDepth 100000 in
set_option maxHeartbeats 4000000 in
theorem offer_none {fb b on oc : Nat} {bet : Bet} {oa : Option Addr} {cy : Int} {ys : List Int} {w : World} (hc : ChAt w b fb none) (ho : IntsOff b w oa on ys) (hoc : on ≤ oc) :
    Calls Try.prog 78 #[.pointer (some ⟨b, 0, none⟩), .agg #[.slice oa on oc, .int .i64 cy]] w fun e w' => e = .returned (.tuple #[]) ∧ ChAt w' b fb (offerL bet none ys cy) ∧ SameBut (fun k => k = b) w w' := by
  obtain ⟨V1, hV1⟩ : ∃ V, V = w.alloc (.cells #[.slice oa on oc, .int .i64 cy] 105) := ⟨_, rfl⟩
  obtain ⟨b1, s1, z1⟩ := alloc_step' hV1
  have hbl := hc.lt
  have k1 : Blk V1 b (chooserRow fb none 0 0 0 false) := hc.same s1 (fun e => e)
  have ho1 := ho.keep s1 (fun _ h => h.elim)
  go_enter Try.func78, Try.ntmps78
  go_wp2
  rw [← hV1]
  clear hV1
  have hO := open_wide
  have hF := hO.fn
  have hd := hO.depth
  have hS0 : SameBut (fun _ => False) V1 V1.drew := (SameBut.refl _ _).drew
  have hread : ∀ w', SameBut (fun _ => False) V1 w' → w'.cell? ⟨b, 3, none⟩ = some (.bool false) := fun w' h => (k1.same h (fun e => e)).cell
  refine region_planW (fun w' => SameBut (fun _ => False) V1 w') [(0, true), (1, true), (2, true), (3, true), (4, true), (5, true), (6, true), (7, true), (8, true), (9, true), (10, true), (11, true), (12, true), (13, true), (14, true), (15, true), (16, true)] (by kernel_rfl) (by kernel_rfl) (by kernel_rfl) (by decide) (by kernel_rfl) ?_
  iterate 6
    (refine plan_take ?_ rfl hS0 (by rfl) ?_ ?_
     rotate_left
     · intro w' hw'
       have q1 := hread w' hw'
       go_simp
       with_reducible rfl
     simp only [Act.put, List.setIfInBounds_toArray, List.set_cons_zero, List.set_cons_succ])
  iterate 10
    (refine plan_skip rfl hS0 (by rfl) ?_
     simp only [Act.put, List.setIfInBounds_toArray, List.set_cons_zero, List.set_cons_succ])
  refine plan_take ?_ rfl hS0 (by rfl) ?_ ?_
  rotate_left
  · intro w' hw'
    go_simp
    with_reducible rfl
  simp only [Act.put, List.setIfInBounds_toArray, List.set_cons_zero, List.set_cons_succ]
  unfold planW okN
  have q0 : V1.cell? ⟨w.heap.size, 0, none⟩ = some (.slice oa on oc) := b1.cell
  have q1 : V1.cell? ⟨w.heap.size, 1, none⟩ = some (.int .i64 cy) := b1.cell
  have c1 : V1.cell? ⟨b, 1, none⟩ = some (.slice none 0 0) := k1.cell
  have c2 : V1.cell? ⟨b, 2, none⟩ = some (.int .i64 0) := k1.cell
  have c3 : V1.cell? ⟨b, 3, none⟩ = some (.bool false) := k1.cell
  have f1 : V1.frozen? ⟨b, 1, none⟩ = false := k1.frozen
  have f2 : V1.frozen? ⟨b, 2, none⟩ = false := k1.frozen
  have f3 : V1.frozen? ⟨b, 3, none⟩ = false := k1.frozen
  go_wp2
  obtain ⟨Wf, hWf⟩ : ∃ V, V = (((V1.setCell ⟨b, 1, none⟩ (.slice oa on oc)).setCell ⟨b, 2, none⟩ (.int .i64 cy)).setCell ⟨b, 3, none⟩ (.bool true)).drew := ⟨_, rfl⟩
  have kf : Blk Wf b (chooserRow fb oa on oc cy true) := by rw [hWf]; exact (k1.choose oa on oc cy).drew
  have sf : SameBut (fun k => k = b) V1 Wf := by rw [hWf]; exact (same_choose V1 b oa on oc cy).drew
  rw [← hWf]
  clear hWf
  refine ⟨rfl, _, results_none rfl _ _ _, rfl, ?_, (s1.mono (fun _ h => h.elim)).trans sf⟩
  exact ⟨oa, on, oc, hoc, kf, ho1.keep sf (fun i h => .inl h)⟩

set_option maxRecDepth 100000 in
set_option maxHeartbeats 4000000 in
theorem offer_some {fb b on oc : Nat} {bet : Bet} {oa : Option Addr} {cx cy : Int} {xs ys : List Int} {w : World} (hb : BetOk fb bet) (hc : ChAt w b fb (some (xs, cx))) (ho : IntsOff b w oa on ys) (hoc : on ≤ oc) :
    Calls Try.prog 78 #[.pointer (some ⟨b, 0, none⟩), .agg #[.slice oa on oc, .int .i64 cy]] w fun e w' => e = .returned (.tuple #[]) ∧ ChAt w' b fb (offerL bet (some (xs, cx)) ys cy) ∧ SameBut (fun k => k = b) w w' := by
  obtain ⟨xa, xn, xc, hxc, k0, hx⟩ := hc
  obtain ⟨V1, hV1⟩ : ∃ V, V = w.alloc (.cells #[.slice oa on oc, .int .i64 cy] 105) := ⟨_, rfl⟩
  obtain ⟨b1, s1, z1⟩ := alloc_step' hV1
  have hbl := k0.lt
  have k1 := k0.same s1 (fun e => e)
  have ho1 := ho.keep s1 (fun _ h => h.elim)
  have hx1 := hx.keep s1 (fun _ h => h.elim)
  obtain ⟨G, hG⟩ : ∃ G, G = bet ys cy xs cx := ⟨_, rfl⟩
  have hoff : offerL bet (some (xs, cx)) ys cy = if G then some (ys, cy) else some (xs, cx) := by rw [hG]; rfl
  obtain ⟨R, hR⟩ : ∃ R, R = offerL bet (some (xs, cx)) ys cy := ⟨_, rfl⟩
  rw [← hR]
  rw [hoff] at hR
  have hR' := Lib.hid hR
  have hG' := Lib.hid hG
  clear hoff hR hG
  have henter := hb.1
  go_enter Try.func78, Try.ntmps78
  go_wp2
  rw [← hV1]
  clear hV1
  have hO := open_wide
  have hF := hO.fn
  have hd := hO.depth
  have hS0 : SameBut (fun _ => False) V1 V1.drew := (SameBut.refl _ _).drew
  have hread : ∀ w', SameBut (fun _ => False) V1 w' → w'.cell? ⟨b, 0, none⟩ = some (.func (.func fb) #[] #[]) ∧ w'.cell? ⟨b, 1, none⟩ = some (.slice xa xn xc) ∧ w'.cell? ⟨b, 2, none⟩ = some (.int .i64 cx) ∧ w'.cell? ⟨b, 3, none⟩ = some (.bool true) ∧ w'.cell? ⟨w.heap.size, 0, none⟩ = some (.slice oa on oc) ∧ w'.cell? ⟨w.heap.size, 1, none⟩ = some (.int .i64 cy) := fun w' h =>
    ⟨(k1.same h (fun e => e)).cell, (k1.same h (fun e => e)).cell, (k1.same h (fun e => e)).cell, (k1.same h (fun e => e)).cell, (b1.same h (fun e => e)).cell, (b1.same h (fun e => e)).cell⟩
  refine region_planW (fun w' => SameBut (fun _ => False) V1 w') [(0, true), (1, true), (2, true), (3, true), (4, true), (5, true), (6, true), (7, true), (8, true), (9, true), (10, true), (11, true), (12, true), (13, true), (14, true), (15, false), (16, true)] (by kernel_rfl) (by kernel_rfl) (by kernel_rfl) (by decide) (by kernel_rfl) ?_
  iterate 15
    (refine plan_take ?_ rfl hS0 (by rfl) ?_ ?_
     rotate_left
     · intro w' hw'
       obtain ⟨q1, q2, q3, q4, q5, q6⟩ := hread w' hw'
       go_simp
       with_reducible rfl
     simp only [Act.put, List.setIfInBounds_toArray, List.set_cons_zero, List.set_cons_succ])
  refine plan_one rfl (by rfl) (fun K hK => ?_)
  go_simp
  have hcall := hb.2 V1.drew oa xa on oc xn xc ys xs cy cx (ho1.1.keep (Nat.le_refl _) (fun b o h => hS0.cell h (fun e => e))) (hx1.1.keep (Nat.le_refl _) (fun b o h => hS0.cell h (fun e => e)))
  rw [← hG'.out] at hcall
  refine (hO.calls hcall).mono ?_
  rintro e w5 ⟨rfl, hb5⟩
  have hS5 : SameBut (fun _ => False) V1 w5 := hS0.below hb5
  refine hK _ _ hS5 ?_
  clear hK K hb5 hcall
  refine plan_take ?_ rfl hS5 (by rfl) ?_ ?_
  rotate_left
  · intro w' hw'
    go_simp
    with_reducible rfl
  simp only [Act.put, List.setIfInBounds_toArray, List.set_cons_zero, List.set_cons_succ]
  unfold planW okN
  have k5 := k1.same hS5 (fun e => e)
  have b5 := b1.same hS5 (fun e => e)
  have q0 : w5.cell? ⟨w.heap.size, 0, none⟩ = some (.slice oa on oc) := b5.cell
  have q1 : w5.cell? ⟨w.heap.size, 1, none⟩ = some (.int .i64 cy) := b5.cell
  have c1 : w5.cell? ⟨b, 1, none⟩ = some (.slice xa xn xc) := k5.cell
  have c2 : w5.cell? ⟨b, 2, none⟩ = some (.int .i64 cx) := k5.cell
  have c3 : w5.cell? ⟨b, 3, none⟩ = some (.bool true) := k5.cell
  have f1 : w5.frozen? ⟨b, 1, none⟩ = false := k5.frozen
  have f2 : w5.frozen? ⟨b, 2, none⟩ = false := k5.frozen
  have f3 : w5.frozen? ⟨b, 3, none⟩ = false := k5.frozen
  clear hread
  cases G
  case false =>
    go_wp2
    have e : R = some (xs, cx) := by rw [hR'.out]; rfl
    rw [e]
    refine ⟨rfl, _, results_none rfl _ _ _, rfl, ?_, (s1.mono (fun _ h => h.elim)).trans (hS5.mono (fun _ h => h.elim))⟩
    exact ⟨xa, xn, xc, hxc, k5, hx1.keep hS5 (fun _ h => h.elim)⟩
  case true =>
    go_wp2
    have e : R = some (ys, cy) := by rw [hR'.out]; rfl
    rw [e]
    obtain ⟨Wf, hWf⟩ : ∃ V, V = (((w5.setCell ⟨b, 1, none⟩ (.slice oa on oc)).setCell ⟨b, 2, none⟩ (.int .i64 cy)).setCell ⟨b, 3, none⟩ (.bool true)) := ⟨_, rfl⟩
    have kf : Blk Wf b (chooserRow fb oa on oc cy true) := by rw [hWf]; exact k5.choose oa on oc cy
    have sf : SameBut (fun k => k = b) w5 Wf := by rw [hWf]; exact same_choose w5 b oa on oc cy
    rw [← hWf]
    clear hWf
    refine ⟨rfl, _, results_none rfl _ _ _, rfl, ?_, ((s1.mono (fun _ h => h.elim)).trans (hS5.mono (fun _ h => h.elim))).trans sf⟩
    exact ⟨oa, on, oc, hoc, kf, (ho1.keep hS5 (fun _ h => h.elim)).keep sf (fun i h => .inl h)⟩

theorem offer_any {fb b on oc : Nat} {bet : Bet} {oa : Option Addr} {cy : Int} {ys : List Int} {st : Option (List Int × Int)} {w : World} (hb : BetOk fb bet) (hc : ChAt w b fb st) (ho : IntsOff b w oa on ys) (hoc : on ≤ oc) :
    Calls Try.prog 78 #[.pointer (some ⟨b, 0, none⟩), .agg #[.slice oa on oc, .int .i64 cy]] w fun e w' => e = .returned (.tuple #[]) ∧ ChAt w' b fb (offerL bet st ys cy) ∧ SameBut (fun k => k = b) w w' := by
  cases st with
  | none => exact offer_none hc ho hoc
  | some p => obtain ⟨xs, cx⟩ := p; exact offer_some hb hc ho hoc
end Go.Proofs.Ytbbolibkheelmaa
namespace Go.Proofs.Ytbbolibkheelmaa
open Go.RowKit Go.Shelf

/-- The best of the first k sets. -/
def chooseU (bet : Bet) (m : Nat → Bool) : Nat → Option (List Int × Int)
  | 0 => none
  | k + 1 => if m k = true then offerL bet (chooseU bet m k) (memL k) ((memL k).length : Int) else chooseU bet m k
theorem chooseU_yes {bet : Bet} {m : Nat → Bool} {k : Nat} (h : m k = true) : chooseU bet m (k + 1) = offerL bet (chooseU bet m k) (memL k) ((memL k).length : Int) := by
  show (if m k = true then _ else _) = _
  rw [if_pos h]
theorem chooseU_no {bet : Bet} {m : Nat → Bool} {k : Nat} (h : m k = false) : chooseU bet m (k + 1) = chooseU bet m k := by
  show (if m k = true then _ else _) = _
  rw [if_neg (by rw [h]; simp)]
def toldL : Option (List Int × Int) → List Int
  | none => []
  | some (xs, _) => xs
def mostM (x : Book) : List Int := toldL (chooseU moreB (stockCut (stockF x) (2 ^ x.planks.length - 1) x.planks.length) 32)
def mostR (x : Book) : List Int × Int := if bookOk x = true then (mostM x, 0) else ([], 10)

theorem told_cap {b fb : Nat} {st : Option (List Int × Int)} {w : World} (hc : ChAt w b fb st) :
    Calls Try.prog 80 #[.pointer (some ⟨b, 0, none⟩)] w fun e w' => ∃ a n c, e = .returned (.slice a n c) ∧ IntsAt w'.heap.size w' a n (toldL st) ∧ w = w' ∧ n ≤ c := by
  cases st with
  | none =>
    refine (told_any hc (Nat.le_refl 0)).mono ?_
    rintro e w' ⟨⟨m, rfl, hm⟩, rfl⟩
    exact ⟨_, _, _, rfl, ⟨rfl, by omega, fun i hi => absurd hi (by omega)⟩, rfl, hm⟩
  | some p =>
    obtain ⟨xs, cx⟩ := p
    obtain ⟨a, n, c, hn, hk, hi⟩ := hc
    refine (told_any hk hn).mono ?_
    rintro e w' ⟨⟨m, rfl, hm⟩, rfl⟩
    exact ⟨_, _, _, rfl, hi.1, rfl, hm⟩

theorem told_ch {b fb : Nat} {st : Option (List Int × Int)} {w : World} (hc : ChAt w b fb st) :
    Calls Try.prog 80 #[.pointer (some ⟨b, 0, none⟩)] w fun e w' => ∃ a n c, e = .returned (.slice a n c) ∧ IntsAt w'.heap.size w' a n (toldL st) ∧ w = w' :=
  (told_cap hc).mono fun _ _ ⟨a, n, c, h1, h2, h3, _⟩ => ⟨a, n, c, h1, h2, h3⟩

theorem ChAt.same {M : Nat → Prop} {w w' : World} {b fb : Nat} {st : Option (List Int × Int)} (h : ChAt w b fb st) (hs : SameBut M w w') (hM : ∀ i, ¬ M i ∨ w.heap.size ≤ i) : ChAt w' b fb st := by
  cases st with
  | none => exact Blk.same h hs (fun e => by rcases hM b with h' | h'; exact h' e; have := Blk.lt h; omega)
  | some p =>
    obtain ⟨xs, cx⟩ := p
    obtain ⟨a, n, c, hn, hk, hi⟩ := h
    exact ⟨a, n, c, hn, hk.same hs (fun e => by rcases hM b with h' | h'; exact h' e; have := hk.lt; omega), hi.keep hs (fun i e => by rcases hM i with h' | h'; exact absurd e h'; exact .inr (.inr h'))⟩

set_option maxRecDepth 100000 in
set_option maxHeartbeats 4000000 in
theorem Most_any {B : Nat} {pa sa : Option Addr} {pn pc sn sc : Nat} {x : Book} {w : World} (hB : B ≤ w.heap.size) (hx : BookAt B w pa pn sa sn x) :
    Calls Try.prog 26 #[.agg #[.slice pa pn pc, .slice sa sn sc]] w fun e w' => ∃ ra rn rc, e = .returned (.tuple #[.slice ra rn rc, .int .i64 (mostR x).2]) ∧ IntsAt w'.heap.size w' ra rn (mostR x).1 ∧ Below w.heap.size w w' := by
  have hpn := hx.planks.len
  obtain ⟨V1, hV1⟩ : ∃ V, V = w.alloc (.cells #[.slice pa pn pc, .slice sa sn sc] 25) := ⟨_, rfl⟩
  obtain ⟨b1, s1, z1⟩ := alloc_step hV1
  have hx1 := hx.keep (Nat.le_refl _) (fun b o hb => s1.cell (b := b) (o := o) (by omega) (fun e => e))
  have hchk := Check_any (pc := pc) (sc := sc) (w := V1) (by omega) hx1
  have nil : ∀ w' : World, IntsAt w'.heap.size w' none 0 [] := fun w' => ⟨rfl, by omega, fun i hi => absurd hi (by omega)⟩
  have h' := Lib.hid (And.intro b1 (And.intro (s1.toBelow (B := w.heap.size) (Nat.le_refl _) (fun _ h => h.elim)) (And.intro hx1 (And.intro nil z1))))
  clear b1 s1 hx1 nil z1 hx
  rcases Bool.eq_false_or_eq_true (bookOk x) with hb | hb
  case inr =>
    rw [hb, show errOf false = 10 from rfl] at hchk
    have hR : mostR x = ([], 10) := by unfold mostR; rw [if_neg (by rw [hb]; simp)]
    rw [hR]
    clear hR hb
    subst hV1
    go_enter Try.func26, Try.ntmps26
    go_wp2_with (go_at_call 18; refine hchk.mono ?_; rintro e w2 ⟨rfl, hb2⟩)
    go_ret2
    exact ⟨none, 0, 0, rfl, h'.out.2.2.2.1 _, h'.out.2.1.trans (hb2.mono h'.out.2.1.size)⟩
  case inl =>
    rw [hb, show errOf true = 0 from rfl] at hchk
    have hR : mostR x = (mostM x, 0) := by unfold mostR; rw [if_pos hb]
    have hok := Lib.hid hb
    rw [hR]
    have hpn3 : pn ≤ 3 := by have := (good_of hb).planks; omega
    clear hR hb
    obtain ⟨F, hF⟩ : ∃ F, F = stockCut (stockF x) (2 ^ pn - 1) pn := ⟨_, rfl⟩
    have hM : mostM x = toldL (chooseU moreB F 32) := by unfold mostM; rw [hpn, hF]
    rw [hM]
    have hF' := Lib.hid hF
    clear hM hF
    subst hV1
    go_enter Try.func26, Try.ntmps26
    go_wp2_with (first | (go_at_call 18; refine hchk.mono ?_; rintro e w2 ⟨rfl, hb2⟩; have bk2 := h'.out.1.below hb2 (by rw [h'.out.2.2.2.2]; omega); have q0 : w2.cell? ⟨w.heap.size, 0, none⟩ = some (.slice pa pn pc) := bk2.cell; have q1 : w2.cell? ⟨w.heap.size, 1, none⟩ = some (.slice sa sn sc) := bk2.cell; have hx2 := Lib.hid (h'.out.2.2.1.keep (Nat.le_refl _) (fun b o hb => bcells hb2 b o (by rw [h'.out.2.2.2.2]; omega))); have hbw := h'.out.2.1.trans (hb2.mono h'.out.2.1.size); have hsz2 := hb2.size; rw [h'.out.2.2.2.2] at hsz2; have l0 : w.heap.size < w2.heap.size := (by omega); clear hb2) | (go_at_call 76; refine (newStock_any (B := B) (by simp; omega) (hx2.out.keep (Nat.le_refl _) (fun b o hb => cell_alloc_lt _ (by omega))) hok.out).mono ?_; rintro e w3 ⟨rfl, hb3⟩; have hbS := (Below.alloc (Below.refl w2.heap.size w2) (Nat.le_refl _) (.cells #[.func (.func 75) #[] #[], .slice none 0 0, .int .i64 0, .bool false] 107)).trans (hb3.mono (by simp)); have hC3 : Blk w3 w2.heap.size (chooserRow 75 none 0 0 0 false) := (Blk.new w2 _ _).below hb3 (by simp)) | (go_at_call 77; refine (allCuts_any hpn3).mono ?_; rintro e w4 ⟨rfl, hb4⟩; rw [← hF'.out]))
    have hC4 := hC3.below hb4 (by have := hb3.size; simp at this; omega)
    have hb24 : Below w2.heap.size w2 w4 := hbS.trans (hb4.mono hbS.size)
    have hC4l : w2.heap.size < w4.heap.size := Blk.lt hC4
    clear hC3 hb3 hb4 q0 q1 bk2 hx2 hchk
    go_loopw [17] (fun i wr => ∃ k : Nat, k ≤ 32 ∧ i = .int .i64 k ∧ ChAt wr w2.heap.size 75 (chooseU moreB F k) ∧ SameBut (fun i => i = w2.heap.size) w4 wr) (fun i _ => (32 - intOf i).toNat)
    case atStart => exact ⟨0, by omega, rfl, hC4, SameBut.refl _ _⟩
    case round =>
      obtain ⟨k, hk, rfl, hCh, hsb⟩ := hrel
      clear hC4
      by_cases hlt : k < 32
      · have hg := fun w => run_index_cut F hlt w
        rcases Bool.eq_false_or_eq_true (F k) with hh | hh
        · have hh' := Lib.hid hh
          rw [hh] at hg
          clear hh
          have hlen := hCh
          go_wp2_with (first | (go_at_call 79; refine (listed_any hlt).mono ?_; rintro e w5 ⟨oa, on, oc, rfl, hoi, hoc, hof, hb5⟩) | (go_at_call 78; refine (offer_any more_ok (hCh.same (SameBut.of_below (M := fun _ => False) hb5 (Nat.le_refl _)) (fun i => .inl (fun e => e))) ⟨hoi, fun a h => by have h1 := hof a h; have h2 := hsb.size; have h3 := hC4l; omega⟩ hoc).mono ?_; rintro e w6 ⟨rfl, hC6, hs6⟩))
          go_roundw
          case rel =>
            refine ⟨k + 1, by omega, rfl, ?_, hsb.trans ((SameBut.of_below hb5 (Nat.le_refl _)).trans hs6)⟩
            have e : chooseU moreB F (k + 1) = offerL moreB (chooseU moreB F k) (memL k) ((memL k).length : Int) := chooseU_yes hh'.out
            rw [e]; exact hC6
          case measure => simp [intOf]; omega
        · have hh' := Lib.hid hh
          rw [hh] at hg
          clear hh
          go_wp2
          go_roundw
          case rel => exact ⟨k + 1, by omega, rfl, by rw [chooseU_no hh'.out]; exact hCh, hsb⟩
          case measure => simp [intOf]; omega
      · obtain rfl : k = 32 := by omega
        go_wp2_with (go_at_call 80; refine (told_ch hCh).mono ?_; rintro e w6 ⟨ta, tn, tc, rfl, hti, rfl⟩)
        go_ret2
        refine ⟨ta, tn, tc, rfl, hti, ?_⟩
        exact hbw.trans ((hb24.trans (hsb.toBelow (by omega) (fun i (h : i = w2.heap.size) => by omega))).mono (by omega))
end Go.Proofs.Ytbbolibkheelmaa
namespace Go.Proofs.Ytbbolibkheelmaa
open Go.RowKit Go.Shelf

/-- What can be cut from all planks. -/
def allF (x : Book) : Nat → Bool := stockCut (stockF x) (2 ^ x.planks.length - 1) x.planks.length
def lackL (F : Nat → Bool) (n : Nat) : Int × Int := match (List.range n).find? fun k => !F (2 ^ (k + 1) - 1) with | some k => (k, 0) | none => (0, 4)
def lacksR (x : Book) : Int × Int := if bookOk x = true then lackL (allF x) x.parts.length else (0, 10)

theorem lackL_some {F : Nat → Bool} {n k : Nat} (hk : k < n) (h0 : ∀ j, j < k → F (2 ^ (j + 1) - 1) = true) (h1 : F (2 ^ (k + 1) - 1) = false) : lackL F n = ((k : Int), 0) := by
  have e : (List.range n).find? (fun k => !F (2 ^ (k + 1) - 1)) = some k := by
    rw [List.find?_range_eq_some]
    refine ⟨by rw [h1]; rfl, List.mem_range.2 hk, fun j hj => by rw [h0 j hj]; rfl⟩
  unfold lackL
  rw [e]
theorem lackL_none {F : Nat → Bool} {n : Nat} (h0 : ∀ j, j < n → F (2 ^ (j + 1) - 1) = true) : lackL F n = (0, 4) := by
  have e : (List.range n).find? (fun k => !F (2 ^ (k + 1) - 1)) = none := by
    rw [List.find?_eq_none]
    intro j hj
    rw [h0 j (List.mem_range.1 hj)]; simp
  unfold lackL
  rw [e]

set_option maxRecDepth 100000 in
set_option maxHeartbeats 4000000 in
theorem Lacks_any {B : Nat} {pa sa : Option Addr} {pn pc sn sc : Nat} {x : Book} {w : World} (hB : B ≤ w.heap.size) (hx : BookAt B w pa pn sa sn x) :
    Calls Try.prog 30 #[.agg #[.slice pa pn pc, .slice sa sn sc]] w fun e w' => e = .returned (.tuple #[.int .i64 (lacksR x).1, .int .i64 (lacksR x).2]) ∧ Below w.heap.size w w' := by
  have hpn := hx.planks.len
  have hsn := hx.parts.len
  obtain ⟨V1, hV1⟩ : ∃ V, V = w.alloc (.cells #[.slice pa pn pc, .slice sa sn sc] 25) := ⟨_, rfl⟩
  obtain ⟨b1, s1, z1⟩ := alloc_step hV1
  have hx1 := hx.keep (Nat.le_refl _) (fun b o hb => s1.cell (b := b) (o := o) (by omega) (fun e => e))
  have hchk := Check_any (pc := pc) (sc := sc) (w := V1) (by omega) hx1
  have h' := Lib.hid (And.intro b1 (And.intro (s1.toBelow (B := w.heap.size) (Nat.le_refl _) (fun _ h => h.elim)) (And.intro hx1 z1)))
  clear b1 s1 hx1 z1 hx
  rcases Bool.eq_false_or_eq_true (bookOk x) with hb | hb
  case inr =>
    rw [hb, show errOf false = 10 from rfl] at hchk
    have hR : lacksR x = (0, 10) := by unfold lacksR; rw [if_neg (by rw [hb]; simp)]
    rw [hR]
    clear hR hb
    subst hV1
    go_enter Try.func30, Try.ntmps30
    go_wp2_with (go_at_call 18; refine hchk.mono ?_; rintro e w2 ⟨rfl, hb2⟩)
    go_ret2
    exact ⟨rfl, h'.out.2.1.trans (hb2.mono h'.out.2.1.size)⟩
  case inl =>
    rw [hb, show errOf true = 0 from rfl] at hchk
    obtain ⟨F, hF⟩ : ∃ F, F = stockCut (stockF x) (2 ^ pn - 1) pn := ⟨_, rfl⟩
    obtain ⟨R, hR⟩ : ∃ R, R = lacksR x := ⟨_, rfl⟩
    have hR2 : R = lackL F sn := by rw [hR]; unfold lacksR allF; rw [if_pos hb, hpn, hsn, hF]
    rw [← hR]
    have hok := Lib.hid hb
    have hpn3 : pn ≤ 3 := by have := (good_of hb).planks; omega
    have hsn5 : sn ≤ 5 := by have := (good_of hb).parts; omega
    have hF' := Lib.hid hF
    have hR' := Lib.hid hR2
    clear hR hR2 hF hb
    subst hV1
    go_enter Try.func30, Try.ntmps30
    go_wp2_with (first | (go_at_call 18; refine hchk.mono ?_; rintro e w2 ⟨rfl, hb2⟩; have bk2 := h'.out.1.below hb2 (by rw [h'.out.2.2.2]; omega); have q0 : w2.cell? ⟨w.heap.size, 0, none⟩ = some (.slice pa pn pc) := bk2.cell; have q1 : w2.cell? ⟨w.heap.size, 1, none⟩ = some (.slice sa sn sc) := bk2.cell; have hx2 := Lib.hid (h'.out.2.2.1.keep (Nat.le_refl _) (fun b o hb => bcells hb2 b o (by rw [h'.out.2.2.2]; omega))); have hbw := h'.out.2.1.trans (hb2.mono h'.out.2.1.size); have hsz2 := hb2.size; rw [h'.out.2.2.2] at hsz2; have l0 : w.heap.size < w2.heap.size := (by omega); clear hb2) | (go_at_call 76; refine (newStock_any (B := B) (by omega) hx2.out hok.out).mono ?_; rintro e w3 ⟨rfl, hb3⟩) | (go_at_call 77; refine (allCuts_any hpn3).mono ?_; rintro e w4 ⟨rfl, hb4⟩; rw [← hF'.out]; have hb24 := hb3.trans (hb4.mono hb3.size); have bk4 := bk2.below hb24 l0; have r1 : w4.cell? ⟨w.heap.size, 1, none⟩ = some (.slice sa sn sc) := bk4.cell; have hsz4 := hb24.size; have l4 : w.heap.size < w4.heap.size := (by omega); have l4' : w.heap.size < w4.heap.size + 1 := (by omega); clear q0 q1 hb3 hb4; obtain ⟨V5, hV5⟩ : ∃ V, V = (w4.alloc (.cells (encC (fun _ => false)) 109)).setRow w4.heap.size (encC F) := ⟨_, rfl⟩; have c5 : CutBlk V5 w4.heap.size F := (by rw [hV5]; exact (CutBlk.new w4 _ _).row _); have s5 : SameBut (fun _ => False) w4 V5 := (by rw [hV5]; exact ((SameBut.refl _ w4).alloc _).setRow (.inr (Nat.le_refl _)) _); have z5 : V5.heap.size = w4.heap.size + 1 := (by rw [hV5, size_setRow, World.size_alloc]); have hst := (CutBlk.new w4 (fun _ => false) 109).store F; rw [← hV5] at hst; have e1 : V5.cell? ⟨w.heap.size, 1, none⟩ = some (.slice sa sn sc) := (bk4.same s5 (fun e => e)).cell; rw [zeroCut] at hst; clear hV5))
    have hb5 : Below w.heap.size w V5 := (hbw.trans (hb24.mono hbw.size)).trans (s5.toBelow (by omega) (fun _ h => h.elim))
    clear hst e1 r1 bk4 s5 bk2 l4 l4' hchk hx2
    go_loopw [18] (fun i wr => ∃ k : Nat, k ≤ sn ∧ i = .int .i64 k ∧ (∀ j, j < k → F (2 ^ (j + 1) - 1) = true) ∧ V5 = wr) (fun i _ => (sn - intOf i).toNat)
    case atStart => exact ⟨0, by omega, rfl, fun j hj => absurd hj (by omega), rfl⟩
    case round =>
      obtain ⟨k, hk, rfl, hall, rfl⟩ := hrel
      by_cases hlt : k < sn
      · obtain ⟨z, hz⟩ : ∃ z, z = 2 ^ (k + 1) - 1 := ⟨_, rfl⟩
        have hz32 : z < 32 := by rw [hz]; have := pow_le32 (n := k + 1) (by omega); have := Nat.pow_pos (n := k + 1) (a := 2) (by decide); omega
        have hfo : Calls Try.prog 84 #[.int .i64 ((k : Int) + 1)] V5 fun e w' => e = .returned (.int .i64 (z : Int)) ∧ V5 = w' := by rw [hz]; exact firstOnes_any (n := k + 1) (by omega)
        have hcell := c5.cell hz32
        have hall' := Lib.hid hall
        clear hall
        obtain ⟨G, hG⟩ : ∃ G, G = F z := ⟨_, rfl⟩
        rw [← hG] at hcell
        have hG' := Lib.hid hG
        rw [hz] at hG
        have hz' := Lib.hid hz
        have hG2 := Lib.hid hG
        clear hG hz
        cases G
        case false =>
          go_wp2_with (go_at_call 84; refine hfo.mono ?_; rintro e w6 ⟨rfl, rfl⟩)
          go_ret2
          rw [hR'.out, lackL_some hlt hall'.out hG2.out.symm]
          exact ⟨rfl, hb5⟩
        case true =>
          go_wp2_with (go_at_call 84; refine hfo.mono ?_; rintro e w6 ⟨rfl, rfl⟩)
          go_roundw
          case rel =>
            refine ⟨k + 1, by omega, rfl, fun j hj => ?_, by trivial⟩
            by_cases e : j = k
            · subst e; exact hG2.out.symm
            · exact hall'.out j (by omega)
          case measure => simp [intOf]; omega
      · obtain rfl : k = sn := by omega
        go_wp2
        go_ret2
        rw [hR'.out, lackL_none hall]
        exact ⟨rfl, hb5⟩
end Go.Proofs.Ytbbolibkheelmaa
namespace Go.Proofs.Ytbbolibkheelmaa
open Go.RowKit Go.Shelf

attribute [local go_sem] Oper.semAt_some

/-- Can all parts be cut from a set of planks? -/
def wholeF (x : Book) (s : Nat) : Bool := stockCut (stockF x) s x.planks.length (2 ^ x.parts.length - 1)
def fewO : Option (List Int × Int) → List Int × Int
  | none => ([], 4)
  | some (xs, _) => (xs, 0)
def fewestR (x : Book) : List Int × Int := if bookOk x = true then fewO (chooseU fewerB (wholeF x) (2 ^ x.planks.length)) else ([], 10)

theorem wrap_pow {n : Nat} (hn : n ≤ 5) : wrap64 (2 ^ n) = ((2 ^ n : Nat) : Int) := by
  unfold wrap64
  have h5 : n = 0 ∨ n = 1 ∨ n = 2 ∨ n = 3 ∨ n = 4 ∨ n = 5 := by omega
  rcases h5 with rfl | rfl | rfl | rfl | rfl | rfl <;> decide

set_option maxRecDepth 100000 in
set_option maxHeartbeats 4000000 in
theorem Fewest_cap {B : Nat} {pa sa : Option Addr} {pn pc sn sc : Nat} {x : Book} {w : World} (hB : B ≤ w.heap.size) (hx : BookAt B w pa pn sa sn x) :
    Calls Try.prog 28 #[.agg #[.slice pa pn pc, .slice sa sn sc]] w fun e w' => ∃ ra rn rc, e = .returned (.tuple #[.slice ra rn rc, .int .i64 (fewestR x).2]) ∧ IntsAt w'.heap.size w' ra rn (fewestR x).1 ∧ Below w.heap.size w w' ∧ rn ≤ rc := by
  have hpn := hx.planks.len
  have hsn := hx.parts.len
  obtain ⟨V1, hV1⟩ : ∃ V, V = w.alloc (.cells #[.slice pa pn pc, .slice sa sn sc] 25) := ⟨_, rfl⟩
  obtain ⟨b1, s1, z1⟩ := alloc_step hV1
  have hx1 := hx.keep (Nat.le_refl _) (fun b o hb => s1.cell (b := b) (o := o) (by omega) (fun e => e))
  have hchk := Check_any (pc := pc) (sc := sc) (w := V1) (by omega) hx1
  have nil : ∀ w' : World, IntsAt w'.heap.size w' none 0 [] := fun w' => ⟨rfl, by omega, fun i hi => absurd hi (by omega)⟩
  have h' := Lib.hid (And.intro b1 (And.intro (s1.toBelow (B := w.heap.size) (Nat.le_refl _) (fun _ h => h.elim)) (And.intro hx1 (And.intro nil z1))))
  clear b1 s1 hx1 nil z1 hx
  rcases Bool.eq_false_or_eq_true (bookOk x) with hb | hb
  case inr =>
    rw [hb, show errOf false = 10 from rfl] at hchk
    have hR : fewestR x = ([], 10) := by unfold fewestR; rw [if_neg (by rw [hb]; simp)]
    rw [hR]
    clear hR hb
    subst hV1
    go_enter Try.func28, Try.ntmps28
    go_wp2_with (go_at_call 18; refine hchk.mono ?_; rintro e w2 ⟨rfl, hb2⟩)
    go_ret2
    exact ⟨none, 0, 0, rfl, h'.out.2.2.2.1 _, h'.out.2.1.trans (hb2.mono h'.out.2.1.size), Nat.le_refl _⟩
  case inl =>
    rw [hb, show errOf true = 0 from rfl] at hchk
    obtain ⟨N, hN⟩ : ∃ N, N = 2 ^ pn := ⟨_, rfl⟩
    obtain ⟨z, hz⟩ : ∃ z, z = 2 ^ sn - 1 := ⟨_, rfl⟩
    obtain ⟨f, hf⟩ : ∃ f, f = stockF x := ⟨_, rfl⟩
    have hR : fewestR x = fewO (chooseU fewerB (fun s => stockCut f s pn z) N) := by unfold fewestR wholeF; rw [if_pos hb, hpn, hsn, hf, hz, hN]
    obtain ⟨R, hRR⟩ : ∃ R, R = fewestR x := ⟨_, rfl⟩
    rw [← hRR]
    rw [hR] at hRR
    have hR' := Lib.hid hRR
    have hok := Lib.hid hb
    have hpn3 : pn ≤ 3 := by have := (good_of hb).planks; omega
    have hsn5 : sn ≤ 5 := by have := (good_of hb).parts; omega
    have hN32 : N ≤ 32 := by rw [hN]; exact pow_le32 (by omega)
    have hz32 : z < 32 := by rw [hz]; have := pow_le32 hsn5; have := Nat.pow_pos (n := sn) (a := 2) (by decide); omega
    have hwr : wrap64 (2 ^ pn) = (N : Int) := by rw [hN]; exact wrap_pow (by omega)
    have hfo : ∀ w : World, Calls Try.prog 84 #[.int .i64 sn] w fun e w' => e = .returned (.int .i64 (z : Int)) ∧ w = w' := fun w => by rw [hz]; exact firstOnes_any hsn5
    have hf' := Lib.hid hf
    have hwr' := Lib.hid hwr
    clear hR hRR hb hN hz hf hwr
    subst hV1
    go_enter Try.func28, Try.ntmps28
    go_wp2_with (first | (go_at_call 18; refine hchk.mono ?_; rintro e w2 ⟨rfl, hb2⟩; have bk2 := h'.out.1.below hb2 (by rw [h'.out.2.2.2.2]; omega); have q0 : w2.cell? ⟨w.heap.size, 0, none⟩ = some (.slice pa pn pc) := bk2.cell; have q1 : w2.cell? ⟨w.heap.size, 1, none⟩ = some (.slice sa sn sc) := bk2.cell; have hx2 := Lib.hid (h'.out.2.2.1.keep (Nat.le_refl _) (fun b o hb => bcells hb2 b o (by rw [h'.out.2.2.2.2]; omega))); have hbw := h'.out.2.1.trans (hb2.mono h'.out.2.1.size); have hsz2 := hb2.size; rw [h'.out.2.2.2.2] at hsz2; have l0 : w.heap.size < w2.heap.size := (by omega); clear hb2))
    refine (newStock_any (B := B) (by omega) hx2.out hok.out).mono ?_
    rintro e w3 ⟨rfl, hb3⟩
    rw [← hf'.out]
    have hsz3 := hb3.size
    have bk3 := bk2.below hb3 l0
    obtain ⟨V4, hst, c4, s4, z4⟩ := stock_new w3 pa pn pc sa sn sc f
    have e0 : V4.cell? ⟨w.heap.size, 0, none⟩ = some (.slice pa pn pc) := (bk3.same s4 (fun e => e)).cell
    have m0 : w.heap.size < V4.heap.size := by omega
    have m1 : w.heap.size < w3.heap.size + 1 := by omega
    have m2 : w.heap.size < w3.heap.size + 1 + 1 := by omega
    clear q0 q1
    obtain ⟨S, hS⟩ : ∃ S, S = stockRow pa pn pc sa sn sc f := ⟨_, rfl⟩
    rw [← hS] at hst c4 ⊢
    have hS' := Lib.hid hS
    clear hS
    go_wp2_with (fail)
    rw [hwr'.out]
    obtain ⟨V5, hV5⟩ : ∃ V, V = V4.alloc (.cells #[.func (.func 82) #[] #[], .slice none 0 0, .int .i64 0, .bool false] 107) := ⟨_, rfl⟩
    have hC5 : ChAt V5 (w3.heap.size + 1) 82 none := by rw [hV5, ← z4]; exact Blk.new V4 _ _
    have s5 : SameBut (fun _ => False) V4 V5 := by rw [hV5]; exact (SameBut.refl _ V4).alloc _
    have z5 : V5.heap.size = w3.heap.size + 2 := by rw [hV5, World.size_alloc]; omega
    rw [← hV5]
    have c5 := c4.same s5 (fun e => e)
    have bk5 := (bk3.same s4 (fun e => e)).same s5 (fun e => e)
    have hb5 : Below w.heap.size w V5 := (hbw.trans (hb3.mono hbw.size)).trans ((s4.trans s5).toBelow (by omega) (fun _ h => h.elim))
    have z5' := Lib.hid z5
    clear hV5 hst e0 s4 s5 m0 m1 m2 z4 z5 bk3 bk2 c4 hb3 hchk hx2 hbw
    go_loopw [20] (fun i wr => ∃ k : Nat, k ≤ N ∧ i = .int .i64 k ∧ ChAt wr (w3.heap.size + 1) 82 (chooseU fewerB (fun s => stockCut f s pn z) k) ∧ SameBut (fun i => i = w3.heap.size + 1) V5 wr) (fun i _ => (N - intOf i).toNat)
    case atStart => exact ⟨0, by omega, rfl, hC5, SameBut.refl _ _⟩
    case round =>
      obtain ⟨k, hk, rfl, hCh, hsb⟩ := hrel
      clear hC5
      have hz5 := z5'.out
      have hszr := hsb.size
      have ck := c5.same hsb (by omega)
      have bkk := bk5.same hsb (by omega)
      by_cases hlt : k < N
      · go_wp2_with (fail)
        have hO := open_wide
        have hF := hO.fn
        have hd := hO.depth
        have hS0 : SameBut (fun _ => False) wr wr.drew := (SameBut.refl _ _).drew
        have hread : ∀ w', SameBut (fun _ => False) wr w' → Sem.run Try.prog (loadSt (.pointer (some ⟨w3.heap.size, 0, none⟩))) w' = .ok (.agg S) w' ∧ w'.cell? ⟨w.heap.size, 1, none⟩ = some (.slice sa sn sc) := fun w' h =>
          ⟨by have c6 := ck.same h (fun e => e); rw [hS'.out] at c6 ⊢; exact stock_load c6, (bkk.same h (fun e => e)).cell⟩
        refine region_planW (fun w' => SameBut (fun _ => False) wr w') [(0, true), (1, true), (3, true), (4, true), (5, true), (2, false), (6, false), (7, true)] (by kernel_rfl) (by kernel_rfl) (by kernel_rfl) (by decide) (by kernel_rfl) ?_
        iterate 5
          (refine plan_take ?_ rfl hS0 (by rfl) ?_ ?_
           rotate_left
           · intro w' hw'
             obtain ⟨q1, q2⟩ := hread w' hw'
             go_simp
             with_reducible rfl
           simp only [Act.put, List.setIfInBounds_toArray, List.set_cons_zero, List.set_cons_succ])
        refine plan_one rfl (by rfl) (fun K hK => ?_)
        go_simp
        have hcuts := stockCuts_any (pa := pa) (pn := pn) (pc := pc) (sa := sa) (sn := sn) (sc := sc) (s := k) (f := f) (w := wr.drew) hpn3 (by omega)
        obtain ⟨C, hCC⟩ : ∃ C, C = stockCut f k pn := ⟨_, rfl⟩
        rw [← hS'.out, ← hCC] at hcuts
        have hCC' := Lib.hid hCC
        clear hCC
        refine (hO.calls hcuts).mono ?_
        rintro e w5 ⟨rfl, hb6⟩
        have hS5 : SameBut (fun _ => False) wr w5 := hS0.below hb6
        refine hK _ _ hS5 ?_
        clear hK K hb6 hcuts
        refine plan_one rfl (by rfl) (fun K hK => ?_)
        go_simp
        refine (hO.calls (hfo w5)).mono ?_
        rintro e w6 ⟨rfl, rfl⟩
        refine hK _ _ hS5 ?_
        clear hK K
        have hg := fun w => run_index_cut C hz32 w
        refine plan_take ?_ rfl hS5 (by rfl) ?_ ?_
        rotate_left
        · intro w' hw'
          go_simp
          with_reducible rfl
        simp only [Act.put, List.setIfInBounds_toArray, List.set_cons_zero, List.set_cons_succ]
        unfold planW okN
        have hCh5 : ChAt w5 (w3.heap.size + 1) 82 (chooseU fewerB (fun s => stockCut f s pn z) k) := hCh.same hS5 (fun i => .inl (fun e => e))
        have hsb5 : SameBut (fun i => i = w3.heap.size + 1) V5 w5 := hsb.trans (hS5.mono (fun _ h => h.elim))
        have hCz : (fun s => stockCut f s pn z) k = C z := by rw [hCC'.out]
        have hCz' := Lib.hid hCz
        clear hCz hread hg
        obtain ⟨G, hG⟩ : ∃ G, G = C z := ⟨_, rfl⟩
        rw [← hG]
        rw [← hG] at hCz'
        clear hG
        cases G
        case false =>
          go_wp2_with (fail)
          go_roundw
          case rel => exact ⟨k + 1, by omega, rfl, by rw [chooseU_no (m := fun s => stockCut f s pn z) (k := k) hCz'.out]; exact hCh5, hsb5⟩
          case measure => simp [intOf]; omega
        case true =>
          go_wp2_with (first | (go_at_call 79; refine (listed_any (by omega)).mono ?_; rintro e w7 ⟨oa, on, oc, rfl, hoi, hoc, hof, hb7⟩) | (go_at_call 78; refine (offer_any fewer_ok (hCh5.same (SameBut.of_below (M := fun _ => False) hb7 (Nat.le_refl _)) (fun i => .inl (fun e => e))) ⟨hoi, fun a h => by have h1 := hof a h; have h2 := hsb5.size; omega⟩ hoc).mono ?_; rintro e w8 ⟨rfl, hC8, hs8⟩))
          go_roundw
          case rel => exact ⟨k + 1, by omega, rfl, by rw [chooseU_yes (m := fun s => stockCut f s pn z) (k := k) hCz'.out]; exact hC8, hsb5.trans ((SameBut.of_below hb7 (Nat.le_refl _)).trans hs8)⟩
          case measure => simp [intOf]; omega
      · obtain rfl : k = N := by omega
        have hbwr : Below w.heap.size w wr := hb5.trans ((hsb.mono (fun i (h : i = w3.heap.size + 1) => (by show w.heap.size ≤ i; omega))).toBelow (by omega) (fun _ h => h))
        have hb5' := Lib.hid hbwr
        clear hbwr
        obtain ⟨st, hst⟩ : ∃ st, st = chooseU fewerB (fun s => stockCut f s pn z) k := ⟨_, rfl⟩
        rw [← hst] at hCh hR'
        clear hst ck
        cases st with
        | none =>
          have m3 : wr.cell? ⟨w3.heap.size + 1, 3, none⟩ = some (.bool false) := Blk.cell hCh
          go_wp2_with (fail)
          go_ret2
          rw [hR'.out]
          exact ⟨none, 0, 0, rfl, h'.out.2.2.2.1 _, hb5'.out, Nat.le_refl _⟩
        | some p =>
          obtain ⟨xs, cx⟩ := p
          have m3 : wr.cell? ⟨w3.heap.size + 1, 3, none⟩ = some (.bool true) := by obtain ⟨_, _, _, _, hk, _⟩ := hCh; exact hk.cell
          go_wp2_with (go_at_call 80; refine (told_cap hCh).mono ?_; rintro e w6 ⟨ta, tn, tc, rfl, hti, rfl, htc⟩)
          go_ret2
          rw [hR'.out]
          exact ⟨ta, tn, tc, rfl, hti, hb5'.out, htc⟩
theorem Fewest_any {B : Nat} {pa sa : Option Addr} {pn pc sn sc : Nat} {x : Book} {w : World} (hB : B ≤ w.heap.size) (hx : BookAt B w pa pn sa sn x) :
    Calls Try.prog 28 #[.agg #[.slice pa pn pc, .slice sa sn sc]] w fun e w' => ∃ ra rn rc, e = .returned (.tuple #[.slice ra rn rc, .int .i64 (fewestR x).2]) ∧ IntsAt w'.heap.size w' ra rn (fewestR x).1 ∧ Below w.heap.size w w' :=
  (Fewest_cap hB hx).mono fun _ _ ⟨a, n, c, h1, h2, h3, _⟩ => ⟨a, n, c, h1, h2, h3⟩
end Go.Proofs.Ytbbolibkheelmaa
