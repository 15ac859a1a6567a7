/- Walks: the chapter's books. Walks: the chapter's other books; equal lists. Walks: are two lists equal? Walks: the chapter's examples. -/
import Derived.Test.YtbbolibkheelmaaGa14
namespace Go.Proofs.Ytbbolibkheelmaa
open Go.RowKit Go.Shelf

theorem from_any (a b : Int) (w : World) : Calls Try.prog 56 #[.int .i64 a, .int .i64 b] w fun e w' => e = .returned (.agg #[.int .i64 a, .int .i64 b]) ∧ w' = w.alloc (.cells #[.int .i64 a, .int .i64 b] 60) := by
  go_enter Try.func56, Try.ntmps56
  go_wp2
  refine bodyPost_ret (v := .agg #[.int .i64 a, .int .i64 b]) (by simp [results, Try.results56, go_sem]; try rfl) rfl ⟨rfl, rfl⟩
theorem one_any (a : Int) (w : World) : Calls Try.prog 55 #[.int .i64 a] w fun e w' => e = .returned (.agg #[.int .i64 a, .int .i64 a]) ∧ w' = w.alloc (.cells #[.int .i64 a, .int .i64 a] 60) := by
  go_enter Try.func55, Try.ntmps55
  go_wp2
  refine bodyPost_ret (v := .agg #[.int .i64 a, .int .i64 a]) (by simp [results, Try.results55, go_sem]; try rfl) rfl ⟨rfl, rfl⟩
theorem wood_any (long : Int) (a : Option Addr) (n c : Nat) (w : World) : Calls Try.prog 59 #[.int .i64 long, .slice a n c] w fun e w' => e = .returned (.agg #[.int .i64 long, .slice a n c]) ∧ w' = w.alloc (.cells #[.int .i64 long, .slice a n c] 48) := by
  go_enter Try.func59, Try.ntmps59
  go_wp2
  refine bodyPost_ret (v := .agg #[.int .i64 long, .slice a n c]) (by simp [results, Try.results59, go_sem]; try rfl) rfl ⟨rfl, rfl⟩
theorem shape_any (long : Int) (a : Option Addr) (n c : Nat) (t : Bool) (w : World) : Calls Try.prog 92 #[.int .i64 long, .slice a n c, .bool t] w fun e w' => e = .returned (.agg #[.int .i64 long, .slice a n c, .bool t]) ∧ w' = w.alloc (.cells #[.int .i64 long, .slice a n c, .bool t] 50) := by
  go_enter Try.func92, Try.ntmps92
  go_wp2
  refine bodyPost_ret (v := .agg #[.int .i64 long, .slice a n c, .bool t]) (by simp [results, Try.results92, go_sem]; try rfl) rfl ⟨rfl, rfl⟩

/-- Blocks that are laid one behind the other. -/
def allocs (w : World) : List (Array Value × TypeId) → World
  | [] => w
  | (c, t) :: l => allocs (w.alloc (.cells c t)) l
theorem allocs_same : ∀ (l : List (Array Value × TypeId)) (w : World), SameBut (fun _ => False) w (allocs w l) ∧ (allocs w l).heap.size = w.heap.size + l.length
  | [], w => ⟨SameBut.refl _ w, rfl⟩
  | (c, t) :: l, w => by
    obtain ⟨h1, h2⟩ := allocs_same l (w.alloc (.cells c t))
    refine ⟨((SameBut.refl _ w).alloc _).trans h1, ?_⟩
    show (allocs (w.alloc (.cells c t)) l).heap.size = _
    rw [h2, World.size_alloc]
    simp only [List.length_cons]
    omega
theorem allocs_blk : ∀ (l : List (Array Value × TypeId)) (w : World) (i : Nat) {c : Array Value} {t : TypeId}, l[i]? = some (c, t) → Blk (allocs w l) (w.heap.size + i) c
  | (c, t) :: l, w, 0, _, _, h => by
    cases h
    exact (Blk.new w c t).same (allocs_same l _).1 (fun e => e)
  | (c, t) :: l, w, i + 1, _, _, h => by
    have := allocs_blk l (w.alloc (.cells c t)) i h
    rw [World.size_alloc] at this
    rw [show w.heap.size + (i + 1) = w.heap.size + 1 + i by omega]
    exact this

def ownCells (n : Nat) : List (Array Value × TypeId) := [
  (#[.slice (some ⟨n + 7, 0, none⟩) 2 2, .slice (some ⟨n + 14, 0, none⟩) 3 3], 25),
  (#[.int .i64 3, .int .i64 4], 60),
  (#[.int .i64 3, .int .i64 4], 60),
  (#[.int .i64 12, .slice (some ⟨n + 2, 0, none⟩) 1 1], 48),
  (#[.int .i64 6, .int .i64 6], 60),
  (#[.int .i64 6, .int .i64 6], 60),
  (#[.int .i64 8, .slice (some ⟨n + 5, 0, none⟩) 1 1], 48),
  (#[.int .i64 12, .slice (some ⟨n + 2, 0, none⟩) 1 1, .int .i64 8, .slice (some ⟨n + 5, 0, none⟩) 1 1], 48),
  (#[.int .i64 0, .int .i64 4], 3),
  (#[.int .i64 5, .slice (some ⟨n + 8, 0, none⟩) 2 2, .bool false], 50),
  (#[.int .i64 1], 3),
  (#[.int .i64 4, .slice (some ⟨n + 10, 0, none⟩) 1 1, .bool true], 50),
  (#[.int .i64 0], 3),
  (#[.int .i64 4, .slice (some ⟨n + 12, 0, none⟩) 1 1, .bool true], 50),
  (#[.int .i64 5, .slice (some ⟨n + 8, 0, none⟩) 2 2, .bool false, .int .i64 4, .slice (some ⟨n + 10, 0, none⟩) 1 1, .bool true, .int .i64 4, .slice (some ⟨n + 12, 0, none⟩) 1 1, .bool true], 50)]

set_option maxHeartbeats 1000000 in
theorem own_any (w : World) : Calls Try.prog 54 #[] w fun e w' => e = .returned (.agg #[.slice (some ⟨w.heap.size + 7, 0, none⟩) 2 2, .slice (some ⟨w.heap.size + 14, 0, none⟩) 3 3]) ∧ w' = allocs w (ownCells w.heap.size) := by
  go_enter Try.func54, Try.ntmps54
  go_wp2_with (first | (go_at_call 56; refine (from_any _ _ _).mono ?_; rintro e w' ⟨rfl, rfl⟩) | (go_at_call 55; refine (one_any _ _).mono ?_; rintro e w' ⟨rfl, rfl⟩) | (go_at_call 59; refine (wood_any _ _ _ _ _).mono ?_; rintro e w' ⟨rfl, rfl⟩) | (go_at_call 92; refine (shape_any _ _ _ _ _ _).mono ?_; rintro e w' ⟨rfl, rfl⟩))
  refine bodyPost_ret (v := .agg #[.slice (some ⟨w.heap.size + 7, 0, none⟩) 2 2, .slice (some ⟨w.heap.size + 14, 0, none⟩) 3 3]) ?_ rfl ⟨rfl, rfl⟩
  simp [results, Try.results54, go_sem]
  try rfl

instance (x : Int) : Decidable (I64 x) := by unfold I64; exact inferInstance
theorem ints_blk {w : World} {b n B : Nat} {c : Array Value} {xs : List Int} (h : Blk w b c) (hc : c = (xs.map intV).toArray) (hn : xs.length = n) (h0 : n ≤ 1000) (hI : ∀ i, i < n → I64 (gi xs i)) (hB : b < B) : IntsAt B w (some ⟨b, 0, none⟩) n xs := by
  refine ⟨hn, by omega, fun i hi => ⟨b, 0, rfl, hB, fun i hi => ⟨?_, hI i hi⟩⟩⟩
  rw [h.cell, hc, Nat.zero_add]
  simp [gi_eq (xs := xs) (i := i) (by omega), show i < xs.length by omega]
theorem span1_blk {w : World} {b B : Nat} {lo hi : Int} (h : Blk w b #[.int .i64 lo, .int .i64 hi]) (hl : I64 lo) (hh : I64 hi) (hB : b < B) : SpansAt B w (some ⟨b, 0, none⟩) 1 [(lo, hi)] := by
  refine ⟨rfl, by omega, fun i hi => ⟨b, 0, rfl, hB, fun i hi => ?_⟩⟩
  obtain rfl : i = 0 := by omega
  exact ⟨h.cell, h.cell, hl, hh⟩

/-- What the chapter's book reads. -/
theorem own_parts {M : Nat → Prop} {w w' : World} (h : SameBut M (allocs w (ownCells w.heap.size)) w') (hM : ∀ i, w.heap.size ≤ i → i < w.heap.size + 15 → ¬ M i) : ShapesAt w'.heap.size w' (some ⟨w.heap.size + 14, 0, none⟩) 3 ownB.parts := by
  have hz := (allocs_same (ownCells w.heap.size) w).2
  have hs := h.size
  rw [hz, show (ownCells w.heap.size).length = 15 from rfl] at hs
  have b8 := (allocs_blk (ownCells w.heap.size) w 8 rfl).same h (hM _ (by omega) (by omega))
  have b10 := (allocs_blk (ownCells w.heap.size) w 10 rfl).same h (hM _ (by omega) (by omega))
  have b12 := (allocs_blk (ownCells w.heap.size) w 12 rfl).same h (hM _ (by omega) (by omega))
  have b14 := (allocs_blk (ownCells w.heap.size) w 14 rfl).same h (hM _ (by omega) (by omega))
  refine ⟨rfl, by omega, fun i hi => ⟨w.heap.size + 14, 0, rfl, by omega, fun i hi => ?_⟩⟩
  rcases (by omega : i = 0 ∨ i = 1 ∨ i = 2) with rfl | rfl | rfl
  · refine ⟨_, ⟨some ⟨w.heap.size + 8, 0, none⟩, 2, 2, rfl, ints_blk b8 rfl rfl (by omega) (fun i hi => ?_) (by omega)⟩, b14.cell, b14.cell, b14.cell, by decide⟩
    rcases (by omega : i = 0 ∨ i = 1) with rfl | rfl <;> decide
  · refine ⟨_, ⟨some ⟨w.heap.size + 10, 0, none⟩, 1, 1, rfl, ints_blk b10 rfl rfl (by omega) (fun i hi => ?_) (by omega)⟩, b14.cell, b14.cell, b14.cell, by decide⟩
    obtain rfl : i = 0 := by omega
    decide
  · refine ⟨_, ⟨some ⟨w.heap.size + 12, 0, none⟩, 1, 1, rfl, ints_blk b12 rfl rfl (by omega) (fun i hi => ?_) (by omega)⟩, b14.cell, b14.cell, b14.cell, by decide⟩
    obtain rfl : i = 0 := by omega
    decide
theorem own_book {M : Nat → Prop} {w w' : World} (h : SameBut M (allocs w (ownCells w.heap.size)) w') (hM : ∀ i, w.heap.size ≤ i → i < w.heap.size + 15 → ¬ M i) : BookAt w'.heap.size w' (some ⟨w.heap.size + 7, 0, none⟩) 2 (some ⟨w.heap.size + 14, 0, none⟩) 3 ownB := by
  have hz := (allocs_same (ownCells w.heap.size) w).2
  have hs := h.size
  rw [hz, show (ownCells w.heap.size).length = 15 from rfl] at hs
  have b2 := (allocs_blk (ownCells w.heap.size) w 2 rfl).same h (hM _ (by omega) (by omega))
  have b5 := (allocs_blk (ownCells w.heap.size) w 5 rfl).same h (hM _ (by omega) (by omega))
  have b7 := (allocs_blk (ownCells w.heap.size) w 7 rfl).same h (hM _ (by omega) (by omega))
  refine ⟨⟨rfl, by omega, fun i hi => ⟨w.heap.size + 7, 0, rfl, by omega, fun i hi => ?_⟩⟩, own_parts h hM⟩
  rcases (by omega : i = 0 ∨ i = 1) with rfl | rfl
  · exact ⟨_, ⟨some ⟨w.heap.size + 2, 0, none⟩, 1, 1, rfl, span1_blk b2 (by decide) (by decide) (by omega)⟩, b7.cell, b7.cell, by decide⟩
  · exact ⟨_, ⟨some ⟨w.heap.size + 5, 0, none⟩, 1, 1, rfl, span1_blk b5 (by decide) (by decide) (by omega)⟩, b7.cell, b7.cell, by decide⟩
theorem alone_book {M : Nat → Prop} {w w' : World} (h : SameBut M (allocs w (ownCells w.heap.size)) w') (hM : ∀ i, w.heap.size ≤ i → i < w.heap.size + 15 → ¬ M i) : BookAt w'.heap.size w' (some ⟨w.heap.size + 7, 2, none⟩) 1 (some ⟨w.heap.size + 14, 0, none⟩) 3 aloneB := by
  have hz := (allocs_same (ownCells w.heap.size) w).2
  have hs := h.size
  rw [hz, show (ownCells w.heap.size).length = 15 from rfl] at hs
  have b5 := (allocs_blk (ownCells w.heap.size) w 5 rfl).same h (hM _ (by omega) (by omega))
  have b7 := (allocs_blk (ownCells w.heap.size) w 7 rfl).same h (hM _ (by omega) (by omega))
  refine ⟨⟨rfl, by omega, fun i hi => ⟨w.heap.size + 7, 2, rfl, by omega, fun i hi => ?_⟩⟩, own_parts h hM⟩
  obtain rfl : i = 0 := by omega
  exact ⟨_, ⟨some ⟨w.heap.size + 5, 0, none⟩, 1, 1, rfl, span1_blk b5 (by decide) (by decide) (by omega)⟩, b7.cell, b7.cell, by decide⟩
end Go.Proofs.Ytbbolibkheelmaa
namespace Go.Proofs.Ytbbolibkheelmaa
open Go.RowKit Go.Shelf

/-- A function without arguments returns a book in new memory. -/
def GivesBook (f : Nat) (x : Book) : Prop := ∀ w : World, Calls Try.prog f #[] w fun e w' => ∃ a c1 s c2, e = .returned (.agg #[.slice a x.planks.length c1, .slice s x.parts.length c2]) ∧ BookAt w'.heap.size w' a x.planks.length s x.parts.length x ∧ Below w.heap.size w w'

theorem own_gives : GivesBook 54 ownB := fun w => by
  refine (own_any w).mono ?_
  rintro e w' ⟨rfl, rfl⟩
  have h := (allocs_same (ownCells w.heap.size) w)
  exact ⟨_, _, _, _, rfl, own_book (SameBut.refl (fun _ => False) _) (fun _ _ _ e => e), h.1.toBelow (Nat.le_refl _) (fun _ h => h.elim)⟩

set_option maxHeartbeats 1000000 in
theorem alone_gives : GivesBook 57 aloneB := fun w => by
  obtain ⟨V1, hV1⟩ : ∃ V, V = w.alloc (.cells #[.slice none 0 0, .slice none 0 0] 25) := ⟨_, rfl⟩
  obtain ⟨b1, s1, z1⟩ := alloc_step hV1
  have e1 := hV1.symm
  obtain ⟨V2, hV2⟩ : ∃ V, V = allocs V1 (ownCells V1.heap.size) := ⟨_, rfl⟩
  have s12 := (allocs_same (ownCells V1.heap.size) V1).1
  have z12 := (allocs_same (ownCells V1.heap.size) V1).2
  have hown := own_any V1
  rw [← hV2] at hown s12 z12
  rw [show (ownCells V1.heap.size).length = 15 from rfl] at z12
  rw [z1] at hown
  obtain ⟨V3, hV3⟩ : ∃ V, V = V2.alloc (.cells #[.slice (some ⟨w.heap.size + 1 + 7, 0, none⟩) 2 2, .slice (some ⟨w.heap.size + 1 + 14, 0, none⟩) 3 3] 25) := ⟨_, rfl⟩
  obtain ⟨b3, s3, z3⟩ := alloc_step hV3
  have e3 := hV3.symm
  have b13 := (b1.same s12 (fun e => e)).same s3 (fun e => e)
  have hz3 : V2.heap.size = w.heap.size + 16 := by omega
  rw [hz3] at b3 z3
  have s13 := s12.trans s3
  obtain ⟨V4, e4⟩ : ∃ V, V3.setCell ⟨w.heap.size + 16, 0, none⟩ (.slice (some ⟨w.heap.size + 1 + 7, 2, none⟩) 1 1) = V := ⟨_, rfl⟩
  have b4 : Blk V4 (w.heap.size + 16) #[.slice (some ⟨w.heap.size + 1 + 7, 2, none⟩) 1 1, .slice (some ⟨w.heap.size + 1 + 14, 0, none⟩) 3 3] := by
    rw [← e4]
    exact b3.setAt (i := 0) (.slice (some ⟨w.heap.size + 1 + 7, 2, none⟩) 1 1)
  have s34 : SameBut (fun i => i = w.heap.size + 16) V3 V4 := by rw [← e4]; exact SameBut.setCell (M := fun i => i = w.heap.size + 16) (SameBut.refl _ V3) (.inl rfl) _
  have b14 := b13.same s34 (by omega)
  obtain ⟨V5, e5⟩ : ∃ V, (V4.setCell ⟨w.heap.size, 0, none⟩ (.slice (some ⟨w.heap.size + 1 + 7, 2, none⟩) 1 1)).setCell ⟨w.heap.size, 1, none⟩ (.slice (some ⟨w.heap.size + 1 + 14, 0, none⟩) 3 3) = V := ⟨_, rfl⟩
  have b5 : Blk V5 w.heap.size #[.slice (some ⟨w.heap.size + 1 + 7, 2, none⟩) 1 1, .slice (some ⟨w.heap.size + 1 + 14, 0, none⟩) 3 3] := by
    rw [← e5]
    exact (b14.setAt (i := 0) _).setAt (i := 1) _
  have s45 : SameBut (fun i => i = w.heap.size) V4 V5 := by rw [← e5]; exact SameBut.setCell (M := fun i => i = w.heap.size) (SameBut.setCell (M := fun i => i = w.heap.size) (SameBut.refl _ V4) (.inl rfl) _) (.inl rfl) _
  have c30 : V3.cell? ⟨w.heap.size + 16, 0, none⟩ = some (.slice (some ⟨w.heap.size + 1 + 7, 0, none⟩) 2 2) := b3.cell
  have f30 : V3.frozen? ⟨w.heap.size + 16, 0, none⟩ = false := b3.frozen
  have c40 : V4.cell? ⟨w.heap.size + 16, 0, none⟩ = some (.slice (some ⟨w.heap.size + 1 + 7, 2, none⟩) 1 1) := b4.cell
  have c41 : V4.cell? ⟨w.heap.size + 16, 1, none⟩ = some (.slice (some ⟨w.heap.size + 1 + 14, 0, none⟩) 3 3) := b4.cell
  have d40 : V4.cell? ⟨w.heap.size, 0, none⟩ = some (.slice none 0 0) := b14.cell
  have d41 : V4.cell? ⟨w.heap.size, 1, none⟩ = some (.slice none 0 0) := b14.cell
  have g40 : V4.frozen? ⟨w.heap.size, 0, none⟩ = false := b14.frozen
  have g41 : V4.frozen? ⟨w.heap.size, 1, none⟩ = false := b14.frozen
  have r0 : V5.cell? ⟨w.heap.size, 0, none⟩ = some (.slice (some ⟨w.heap.size + 1 + 7, 2, none⟩) 1 1) := b5.cell
  have r1 : V5.cell? ⟨w.heap.size, 1, none⟩ = some (.slice (some ⟨w.heap.size + 1 + 14, 0, none⟩) 3 3) := b5.cell
  have hfin : BookAt V5.heap.size V5 (some ⟨w.heap.size + 1 + 7, 2, none⟩) 1 (some ⟨w.heap.size + 1 + 14, 0, none⟩) 3 aloneB ∧ Below w.heap.size w V5 := by
    have s35 : SameBut (fun i => i = w.heap.size ∨ i = w.heap.size + 16) V3 V5 := (s34.mono (fun i h => .inr h)).trans (s45.mono (fun i h => .inl h))
    have s25 := SameBut.trans (s3.mono (fun _ h => h.elim)) s35
    have hbl : Below w.heap.size w V5 := SameBut.toBelow (M := fun i => i = w.heap.size ∨ i = w.heap.size + 16) (((s1.trans (s12.trans s3)).mono (fun _ h => h.elim)).trans s35) (Nat.le_refl _) (fun i h => by omega)
    rw [hV2] at s25
    have hb3 := alone_book s25 (fun i h1 h2 => by omega)
    rw [z1] at hb3
    exact ⟨hb3, hbl⟩
  have hfin' := Lib.hid hfin
  clear hV1 hV2 hV3 b1 s1 b3 s3 b13 s13 b4 s34 b14 b5 s45 s12 hfin z3 z12
  go_enter Try.func57, Try.ntmps57
  go_wp2_with (go_at_call 54; refine hown.mono ?_; rintro e w' ⟨rfl, rfl⟩)
  refine bodyPost_ret (v := .agg #[.slice (some ⟨w.heap.size + 1 + 7, 2, none⟩) 1 1, .slice (some ⟨w.heap.size + 1 + 14, 0, none⟩) 3 3]) ?_ rfl ⟨_, _, _, _, rfl, hfin'.out⟩
  simp [results, Try.results57, go_sem, r0, r1]
  try rfl

def hiddenCells (n : Nat) : List (Array Value × TypeId) := [
  (#[.slice (some ⟨n + 4, 0, none⟩) 1 1, .slice (some ⟨n + 9, 0, none⟩) 2 2], 25),
  (#[.int .i64 2, .int .i64 6], 60),
  (#[.int .i64 2, .int .i64 6], 60),
  (#[.int .i64 9, .slice (some ⟨n + 2, 0, none⟩) 1 1], 48),
  (#[.int .i64 9, .slice (some ⟨n + 2, 0, none⟩) 1 1], 48),
  (#[.int .i64 0, .int .i64 4], 3),
  (#[.int .i64 5, .slice (some ⟨n + 5, 0, none⟩) 2 2, .bool false], 50),
  (#[.int .i64 0, .int .i64 3], 3),
  (#[.int .i64 4, .slice (some ⟨n + 7, 0, none⟩) 2 2, .bool false], 50),
  (#[.int .i64 5, .slice (some ⟨n + 5, 0, none⟩) 2 2, .bool false, .int .i64 4, .slice (some ⟨n + 7, 0, none⟩) 2 2, .bool false], 50)]
set_option maxHeartbeats 1000000 in
theorem hidden_any (w : World) : Calls Try.prog 58 #[] w fun e w' => e = .returned (.agg #[.slice (some ⟨w.heap.size + 4, 0, none⟩) 1 1, .slice (some ⟨w.heap.size + 9, 0, none⟩) 2 2]) ∧ w' = allocs w (hiddenCells w.heap.size) := by
  go_enter Try.func58, Try.ntmps58
  go_wp2_with (first | (go_at_call 56; refine (from_any _ _ _).mono ?_; rintro e w' ⟨rfl, rfl⟩) | (go_at_call 59; refine (wood_any _ _ _ _ _).mono ?_; rintro e w' ⟨rfl, rfl⟩) | (go_at_call 92; refine (shape_any _ _ _ _ _ _).mono ?_; rintro e w' ⟨rfl, rfl⟩))
  refine bodyPost_ret (v := .agg #[.slice (some ⟨w.heap.size + 4, 0, none⟩) 1 1, .slice (some ⟨w.heap.size + 9, 0, none⟩) 2 2]) ?_ rfl ⟨rfl, rfl⟩
  simp [results, Try.results58, go_sem]
  try rfl
theorem hidden_gives : GivesBook 58 hiddenB := fun w => by
  refine (hidden_any w).mono ?_
  rintro e w' ⟨rfl, rfl⟩
  obtain ⟨h1, hz⟩ := (allocs_same (hiddenCells w.heap.size) w)
  rw [show (hiddenCells w.heap.size).length = 10 from rfl] at hz
  have b2 := allocs_blk (hiddenCells w.heap.size) w 2 rfl
  have b4 := allocs_blk (hiddenCells w.heap.size) w 4 rfl
  have b5 := allocs_blk (hiddenCells w.heap.size) w 5 rfl
  have b7 := allocs_blk (hiddenCells w.heap.size) w 7 rfl
  have b9 := allocs_blk (hiddenCells w.heap.size) w 9 rfl
  refine ⟨some ⟨w.heap.size + 4, 0, none⟩, 1, some ⟨w.heap.size + 9, 0, none⟩, 2, rfl, ⟨⟨rfl, by decide, fun i hi => ⟨w.heap.size + 4, 0, rfl, by omega, fun i hi => ?_⟩⟩, ⟨rfl, by decide, fun i hi => ⟨w.heap.size + 9, 0, rfl, by omega, fun i hi => ?_⟩⟩⟩, h1.toBelow (Nat.le_refl _) (fun _ h => h.elim)⟩
  · have hi' : i < 1 := hi
    obtain rfl : i = 0 := by omega
    exact ⟨_, ⟨some ⟨w.heap.size + 2, 0, none⟩, 1, 1, rfl, span1_blk b2 (by decide) (by decide) (by omega)⟩, b4.cell, b4.cell, by decide⟩
  · have hi' : i < 2 := hi
    rcases (by omega : i = 0 ∨ i = 1) with rfl | rfl
    · refine ⟨_, ⟨some ⟨w.heap.size + 5, 0, none⟩, 2, 2, rfl, ints_blk b5 rfl rfl (by omega) (fun i hi => ?_) (by omega)⟩, b9.cell, b9.cell, b9.cell, by decide⟩
      rcases (by omega : i = 0 ∨ i = 1) with rfl | rfl <;> decide
    · refine ⟨_, ⟨some ⟨w.heap.size + 7, 0, none⟩, 2, 2, rfl, ints_blk b7 rfl rfl (by omega) (fun i hi => ?_) (by omega)⟩, b9.cell, b9.cell, b9.cell, by decide⟩
      rcases (by omega : i = 0 ∨ i = 1) with rfl | rfl <;> decide
end Go.Proofs.Ytbbolibkheelmaa
namespace Go.Proofs.Ytbbolibkheelmaa
open Go.RowKit Go.Shelf

theorem list_ext_gi {xs ys : List Int} (hl : xs.length = ys.length) (h : ∀ j, j < xs.length → gi xs j = gi ys j) : xs = ys := by
  apply List.ext_getElem hl
  intro i h1 h2
  rw [← gi_eq h1, ← gi_eq h2, h i h1]

set_option maxHeartbeats 1000000 in
theorem Equal_any {B1 B2 : Nat} {a b : Option Addr} {xs ys : List Int} {n m c d : Nat} {w : World} (hx : IntsAt B1 w a n xs) (hy : IntsAt B2 w b m ys) :
    Calls Try.prog 22 #[.slice a n c, .slice b m d] w fun e w' => e = .returned (.bool (decide (xs = ys))) ∧ Quiet w w' := by
  have hx' := Lib.hid hx
  have hy' := Lib.hid hy
  have hL : n ≤ 140737488355328 := hx.small
  have hL2 : m ≤ 140737488355328 := hy.small
  have hnx := Lib.hid hx.len
  have hny := Lib.hid hy.len
  clear hx hy
  obtain ⟨R, hR⟩ : ∃ R, R = decide (xs = ys) := ⟨_, rfl⟩
  rw [← hR]
  have hR' := Lib.hid hR
  clear hR
  obtain ⟨b0, hb0⟩ : ∃ b0, b0 = (n == m) := ⟨_, rfl⟩
  have hcast : ((n : Int) == (m : Int)) = b0 := by rw [hb0, Bool.eq_iff_iff, beq_iff_eq, beq_iff_eq]; omega
  have hb0' := Lib.hid hb0
  clear hb0
  go_enter Try.func22, Try.ntmps22
  go_wp2
  clear hcast
  go_loopw [5, 6] (fun v i wr => ∃ (k : Nat) (bb : Bool), k ≤ n ∧ i = .int .i64 k ∧ v = .bool bb ∧ (bb = true → n = m ∧ ∀ j, j < k → gi xs j = gi ys j) ∧ (bb = false → ¬ xs = ys) ∧ Quiet w wr) (fun _ i _ => (n - intOf i).toNat)
  case atStart =>
    refine ⟨0, b0, by omega, rfl, rfl, fun h => ⟨?_, fun j hj => absurd hj (by omega)⟩, fun h e => ?_, Quiet.refl _⟩
    · rw [hb0'.out] at h; simpa using h
    · rw [hb0'.out] at h
      have h1 := hnx.out
      have h2 := hny.out
      rw [e] at h1
      have : n = m := by omega
      simp [this] at h
  case round =>
    obtain ⟨k, bb, hk, rfl, rfl, hT, hF, hq⟩ := hrel
    cases bb with
    | false =>
      have hne := Lib.hid (hF rfl)
      clear hT hF
      go_wp2
      go_ret
      exact ⟨ret_bool (by rw [hR'.out, decide_eq_false hne.out]), hq⟩
    | true =>
      obtain ⟨hnm, hall⟩ := hT rfl
      have hall' := Lib.hid hall
      subst hnm
      clear hT hF hall
      by_cases hlt : k < n
      · obtain ⟨b1, o1, rfl, hb1, hc1⟩ := hx'.out.get k hlt
        obtain ⟨b2, o2, rfl, hb2, hc2⟩ := hy'.out.get k hlt
        obtain ⟨q, rfl⟩ := hq
        have hq : Quiet w (w.drewN q) := ⟨q, rfl⟩
        have g1 := (hc1 k hlt).1
        have g2 := (hc2 k hlt).1
        have hkn : (k : Int) < n := by omega
        clear hc1 hc2
        obtain ⟨X, hX⟩ : ∃ X, X = gi xs k := ⟨_, rfl⟩
        obtain ⟨Y, hY⟩ : ∃ Y, Y = gi ys k := ⟨_, rfl⟩
        rw [← hX] at g1
        rw [← hY] at g2
        have hXY := Lib.hid (And.intro hX hY)
        clear hX hY
        go_wp2
        go_quiet (fail)
        go_wp2
        go_roundw
        case rel =>
          refine ⟨k + 1, X == Y, by omega, by go_num, rfl, fun h => ⟨by trivial, fun j hj => ?_⟩, fun h e => ?_, ⟨_, rfl⟩⟩
          · by_cases e : j = k
            · subst e; rw [← hXY.out.1, ← hXY.out.2]; simpa using h
            · exact hall'.out j (by omega)
          · have : X = Y := by rw [hXY.out.1, hXY.out.2, e]
            rw [this] at h; simp at h
        case measure => simp [intOf]; omega
      · obtain rfl : k = n := by omega
        go_wp2
        go_ret
        exact ⟨ret_bool (by rw [hR'.out, decide_eq_true (list_ext_gi (by rw [hnx.out, hny.out]) (fun j hj => hall'.out j (by rw [hnx.out] at hj; exact hj)))]), hq⟩
end Go.Proofs.Ytbbolibkheelmaa
namespace Go.Proofs.Ytbbolibkheelmaa
open Go.RowKit Go.Shelf

theorem own_fewest : fewestR ownB = ([0, 1], 0) := by kernel_rfl
theorem alone_lacks : lacksR aloneB = (1, 0) := by kernel_rfl
theorem hidden_look : lookR hiddenB = (0, 0, 0) := by kernel_rfl

theorem IntsAt.below {w w' : World} {a : Option Addr} {n : Nat} {xs : List Int} (h : IntsAt w.heap.size w a n xs) (hb : Below w.heap.size w w') : IntsAt w'.heap.size w' a n xs := h.keep hb.size (fun b o hb' => bcells hb b o hb')

/-- Lists of a few numbers in new memory. -/
theorem lit_ints (w : World) (xs : List Int) (t : TypeId) (h0 : xs.length ≤ 1000) (hI : ∀ i, i < xs.length → I64 (gi xs i)) : IntsAt (w.alloc (.cells (xs.map intV).toArray t)).heap.size (w.alloc (.cells (xs.map intV).toArray t)) (some ⟨w.heap.size, 0, none⟩) xs.length xs :=
  ints_blk (Blk.new w _ t) rfl rfl h0 hI (by simp)

/-- A list against a literal that holds the same numbers. -/
theorem equal_lit {w : World} {a : Option Addr} {n c d : Nat} {xs : List Int} (h : IntsAt w.heap.size w a n xs) (t : TypeId) (h0 : xs.length ≤ 1000) (hI : ∀ i, i < xs.length → I64 (gi xs i)) :
    Calls Try.prog 22 #[.slice a n c, .slice (some ⟨w.heap.size, 0, none⟩) xs.length d] (w.alloc (.cells (xs.map intV).toArray t)) fun e w' => e = .returned (.bool true) ∧ Below w.heap.size w w' := by
  have hb : Below w.heap.size w (w.alloc (.cells (xs.map intV).toArray t)) := ((SameBut.refl (fun _ => False) w).alloc _).toBelow (Nat.le_refl _) (fun _ h => h.elim)
  refine (Equal_any (c := c) (d := d) (h.below hb) (lit_ints w xs t h0 hI)).mono ?_
  rintro e w' ⟨rfl, hq⟩
  rw [decide_eq_true rfl]
  exact ⟨rfl, hb.trans (hq.below _)⟩

set_option maxRecDepth 100000 in
set_option maxHeartbeats 4000000 in
theorem sawn_any (w : World) : Calls Try.prog 23 #[] w fun e w' => e = .returned (.bool true) ∧ Below w.heap.size w w' := by
  go_enter Try.func23, Try.ntmps23
  go_wp2_with (fail)
  refine (own_gives w).mono ?_
  rintro e w1 ⟨a1, c1, s1, d1, rfl, hx1, hb1⟩
  go_wp2_with (fail)
  have hcan := Can_any (pc := c1) (sc := d1) (i := 0) (j := 0) (t := 4) (Nat.le_refl _) hx1 (by decide)
  rw [own_can] at hcan
  refine hcan.mono ?_
  rintro e w2 ⟨rfl, hb2⟩
  have k2 := hb1.trans (hb2.mono hb1.size)
  clear hb1 hb2 hx1 hcan
  go_wp2_with (fail)
  refine (own_gives w2).mono ?_
  rintro e w3 ⟨a3, c3, s3, d3, rfl, hx3, hb3⟩
  go_wp2_with (fail)
  have hspots := Spots_any (pc := c3) (sc := d3) (i := 0) (j := 0) (Nat.le_refl _) hx3 (by decide)
  rw [own_spots.1, own_spots.2] at hspots
  refine hspots.mono ?_
  rintro e w4 ⟨_, rfl, ⟨va, vn, vc, rfl, hv4⟩, hb4⟩
  have k4 := (k2.trans (hb3.mono k2.size)).trans (hb4.mono (Nat.le_trans k2.size hb3.size))
  clear hb3 hb4 hx3 hspots k2
  go_wp2_with (fail)
  refine (own_gives w4).mono ?_
  rintro e w5 ⟨a5, c5, s5, d5, rfl, hx5, hb5⟩
  have hv5 := hv4.below hb5
  have k5 := k4.trans (hb5.mono k4.size)
  clear hv4 k4 hb5
  go_wp2_with (fail)
  have hl5 := lit_ints w5 [0, 1] 3 (by decide) (by decide)
  have hb6 : Below w5.heap.size w5 (w5.alloc (.cells ([0, 1].map intV).toArray 3)) := ((SameBut.refl (fun _ => False) w5).alloc _).toBelow (Nat.le_refl _) (fun _ h => h.elim)
  have hx6 := hx5.keep hb6.size (fun b o hb' => bcells hb6 b o hb')
  have hlay := Lay_any (pc := c5) (sc := d5) (i := 0) (lc := 2) (Nat.le_refl _) hx6 hl5
  rw [own_lay] at hlay
  have hv6 := hv5.below hb6
  have k6 := k5.trans (hb6.mono k5.size)
  clear hv5 k5 hb6 hx6 hl5
  refine hlay.mono ?_
  rintro e w7 ⟨la, ln, lc, rfl, hl7, hb7⟩
  have hv7 := hv6.below hb7
  have k7 := k6.trans (hb7.mono k6.size)
  clear hv6 k6 hb7 hlay hx5
  go_wp2_with (fail)
  refine (own_gives w7).mono ?_
  rintro e w8 ⟨a8, c8, s8, d8, rfl, hx8, hb8⟩
  have hv8 := hv7.below hb8
  have hl8 := hl7.below hb8
  have k8 := k7.trans (hb8.mono k7.size)
  clear hv7 hl7 k7 hb8
  go_wp2_with (fail)
  have hfew := Fewest_any (pc := c8) (sc := d8) (Nat.le_refl _) hx8
  rw [own_fewest] at hfew
  refine hfew.mono ?_
  rintro e w9 ⟨fa, fn, fc, rfl, hf9, hb9⟩
  have hv9 := hv8.below hb9
  have hl9 := hl8.below hb9
  have k9 := k8.trans (hb9.mono k8.size)
  clear hv8 hl8 k8 hb9 hx8 hfew
  go_wp2_with (fail)
  refine (alone_gives w9).mono ?_
  rintro e w10 ⟨a10, c10, s10, d10, rfl, hx10, hb10⟩
  have hv10 := hv9.below hb10
  have hl10 := hl9.below hb10
  have hf10 := hf9.below hb10
  have k10 := k9.trans (hb10.mono k9.size)
  clear hv9 hl9 hf9 k9 hb10
  go_wp2_with (fail)
  have hmost := Most_any (pc := c10) (sc := d10) (Nat.le_refl _) hx10
  rw [alone_most] at hmost
  refine hmost.mono ?_
  rintro e w11 ⟨ma, mn, mc, rfl, hm11, hb11⟩
  have hv11 := hv10.below hb11
  have hl11 := hl10.below hb11
  have hf11 := hf10.below hb11
  have k11 := k10.trans (hb11.mono k10.size)
  clear hv10 hl10 hf10 k10 hb11 hx10 hmost
  go_wp2_with (fail)
  refine (equal_lit (xs := [1, 2, 5, 6, 7]) hv11 3 (by decide) (by decide)).mono ?_
  rintro e w12 ⟨rfl, hb12⟩
  have hl12 := hl11.below hb12
  have hf12 := hf11.below hb12
  have hm12 := hm11.below hb12
  have k12 := k11.trans (hb12.mono k11.size)
  clear hv11 hl11 hf11 hm11 k11 hb12
  go_wp2_with (fail)
  refine (equal_lit (xs := [1, 6]) hl12 3 (by decide) (by decide)).mono ?_
  rintro e w13 ⟨rfl, hb13⟩
  have hf13 := hf12.below hb13
  have hm13 := hm12.below hb13
  have k13 := k12.trans (hb13.mono k12.size)
  clear hl12 hf12 hm12 k12 hb13
  go_wp2_with (fail)
  refine (equal_lit (xs := [0, 1]) hf13 3 (by decide) (by decide)).mono ?_
  rintro e w14 ⟨rfl, hb14⟩
  have hm14 := hm13.below hb14
  have k14 := k13.trans (hb14.mono k13.size)
  clear hf13 hm13 k13 hb14
  go_wp2_with (fail)
  refine (equal_lit (xs := [1, 2]) hm14 3 (by decide) (by decide)).mono ?_
  rintro e w15 ⟨rfl, hb15⟩
  have k15 := k14.trans (hb15.mono k14.size)
  clear hm14  k14 hb15
  go_wp2_with (fail)
  refine (alone_gives w15).mono ?_
  rintro e w16 ⟨a16, c16, s16, d16, rfl, hx16, hb16⟩
  have k16 := k15.trans (hb16.mono k15.size)
  clear k15 hb16
  go_wp2_with (fail)
  have hlk := Lacks_any (pc := c16) (sc := d16) (Nat.le_refl _) hx16
  rw [alone_lacks] at hlk
  refine hlk.mono ?_
  rintro e w17 ⟨rfl, hb17⟩
  have k17 := k16.trans (hb17.mono k16.size)
  clear k16 hb17 hx16 hlk
  go_wp2_with (fail)
  refine (hidden_gives w17).mono ?_
  rintro e w18 ⟨a18, c18, s18, d18, rfl, hx18, hb18⟩
  have k18 := k17.trans (hb18.mono k17.size)
  clear k17 hb18
  go_wp2_with (fail)
  have hlo := Look_any (pc := c18) (sc := d18) (Nat.le_refl _) hx18
  rw [hidden_look] at hlo
  refine hlo.mono ?_
  rintro e w19 ⟨rfl, hb19⟩
  have k19 := k18.trans (hb19.mono k18.size)
  clear k18 hb19 hx18 hlo
  go_wp2_with (fail)
  exact bodyPost_ret (v := .bool true) (by simp [results, Try.results23, go_sem]; try rfl) rfl ⟨rfl, k19⟩
end Go.Proofs.Ytbbolibkheelmaa
