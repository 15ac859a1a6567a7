/- Mathematics of stand: truths. Mathematics of stand: lead, wider feet, margins. Mathematics of stand: turned around, rooms, one trial more. Mathematics of stand: trials that must be wrong. Contracts of stand: lists compared. -/
import Derived.Test.YtaejmbmkkdkliaaGa19
namespace Go.Proofs.Ytaejmbmkkdkliaa
open Go.RowKit
/-- All weights of the parts, whatever was tried. -/
def allF (los his : List Int) : Nat → Nat → List Int → List (List Int)
  | 0, _, _ => []
  | r + 1, j, ws => (spanL (los.getD j 0) (his.getD j 0)).flatMap fun w => if j + 1 < los.length then allF los his r (j + 1) (ws.set j w) else [ws.set j w]
theorem allF_succ (los his : List Int) (r j : Nat) (ws : List Int) : allF los his (r + 1) j ws = (spanL (los.getD j 0) (his.getD j 0)).flatMap fun w => if j + 1 < los.length then allF los his r (j + 1) (ws.set j w) else [ws.set j w] := rfl
def allW (b : SBook) : List (List Int) := allF (b.parts.map (·.lo)) (b.parts.map (·.hi)) 4 0 [0, 0, 0, 0]
theorem truthsF_filter (b : SBook) : ∀ (r j : Nat) (ws : List Int), truthsF b r j ws = (allF (b.parts.map (·.lo)) (b.parts.map (·.hi)) r j ws).filter fun ws => b.trials.all (rightI b ws)
  | 0, _, _ => rfl
  | r + 1, j, ws => by
    rw [truthsF_succ, allF_succ, List.filter_flatMap]
    congr 1
    funext w
    unfold tailF
    rw [List.length_map]
    split
    · exact truthsF_filter b r (j + 1) _
    · simp only [List.filter_cons, List.filter_nil]
theorem truthL_filter (b : SBook) : truthL b = (allW b).filter fun ws => b.trials.all (rightI b ws) := truthsF_filter b 4 0 _
theorem mem_spanL {lo hi w : Int} : w ∈ spanL lo hi ↔ lo ≤ w ∧ w ≤ hi := by
  unfold spanL
  rw [List.mem_map]
  constructor
  · rintro ⟨q, hq, rfl⟩
    have := List.mem_range.1 hq
    omega
  · rintro ⟨h1, h2⟩
    exact ⟨(w - lo).toNat, List.mem_range.2 (by omega), by omega⟩
theorem mem_allF {los his : List Int} : ∀ (r j : Nat) (ws ws' : List Int), j < los.length → los.length ≤ j + r → los.length ≤ ws.length → (ws' ∈ allF los his r j ws ↔
    ws'.length = ws.length ∧ (∀ i, i < j ∨ los.length ≤ i → ws'[i]? = ws[i]?) ∧ ∀ i, j ≤ i → i < los.length → ∃ w, ws'[i]? = some w ∧ los.getD i 0 ≤ w ∧ w ≤ his.getD i 0)
  | 0, j, ws, ws', h1, h2, _ => by omega
  | r + 1, j, ws, ws', h1, h2, h3 => by
    rw [allF_succ, List.mem_flatMap]
    constructor
    · rintro ⟨w, hw, h⟩
      rw [mem_spanL] at hw
      split at h
      · rename_i hj
        obtain ⟨k1, k2, k3⟩ := (mem_allF r (j + 1) _ ws' hj (by omega) (by simpa using h3)).1 h
        refine ⟨by simpa using k1, fun i hi => ?_, fun i hi hi2 => ?_⟩
        · rw [k2 i (by omega), List.getElem?_set_ne (by omega)]
        · rcases Nat.lt_or_ge j i with h4 | h4
          · exact k3 i h4 hi2
          · have : i = j := by omega
            subst this
            exact ⟨w, by rw [k2 i (by omega), List.getElem?_set_self (by omega)], hw⟩
      · rename_i hj
        rw [List.mem_singleton] at h
        subst h
        refine ⟨by simp, fun i hi => by rw [List.getElem?_set_ne (by omega)], fun i hi hi2 => ?_⟩
        have : i = j := by omega
        subst this
        exact ⟨w, by rw [List.getElem?_set_self (by omega)], hw⟩
    · rintro ⟨k1, k2, k3⟩
      obtain ⟨w, e, hw⟩ := k3 j (Nat.le_refl _) h1
      refine ⟨w, mem_spanL.2 hw, ?_⟩
      split
      · rename_i hj
        refine (mem_allF r (j + 1) _ ws' hj (by omega) (by simpa using h3)).2 ⟨by simpa using k1, fun i hi => ?_, fun i hi hi2 => k3 i (by omega) hi2⟩
        rcases Nat.lt_or_ge i j with h4 | h4
        · rw [k2 i (.inl h4), List.getElem?_set_ne (by omega)]
        · rcases hi with hi | hi
          · have : i = j := by omega
            subst this
            rw [e, List.getElem?_set_self (by omega)]
          · rw [k2 i (.inr hi), List.getElem?_set_ne (by omega)]
      · rename_i hj
        rw [List.mem_singleton]
        refine List.ext_getElem? fun i => ?_
        rcases Nat.lt_trichotomy i j with h4 | h4 | h4
        · rw [k2 i (.inl h4), List.getElem?_set_ne (by omega)]
        · subst h4; rw [e, List.getElem?_set_self (by omega)]
        · rw [k2 i (.inr (by omega)), List.getElem?_set_ne (by omega)]
theorem allF_fuel {los his : List Int} : ∀ (r j : Nat) (ws : List Int), j < los.length → los.length ≤ j + r → allF los his (r + 1) j ws = allF los his r j ws
  | 0, j, ws, h1, h2 => by omega
  | r + 1, j, ws, h1, h2 => by
    rw [allF_succ los his (r + 1), allF_succ los his r]
    congr 1
    funext w
    split
    · rename_i hj; exact allF_fuel r (j + 1) _ hj (by omega)
    · rfl
theorem spanL_one (x : Int) : spanL x x = [x] := by
  unfold spanL
  rw [show (x - x + 1).toNat = 1 by omega]
  simp
theorem allF_more {los his : List Int} (hh : los.length = his.length) (x : Int) : ∀ (r j : Nat) (ws : List Int), j < los.length → los.length ≤ j + r → allF (los ++ [x]) (his ++ [x]) (r + 1) j ws = (allF los his r j ws).map fun w => w.set los.length x
  | 0, j, ws, h1, h2 => by omega
  | r + 1, j, ws, h1, h2 => by
    rw [allF_succ (los ++ [x]), allF_succ los, List.map_flatMap]
    have g1 : (los ++ [x]).getD j 0 = los.getD j 0 := by simp [List.getD_eq_getElem?_getD, List.getElem?_append_left h1]
    have g2 : (his ++ [x]).getD j 0 = his.getD j 0 := by simp [List.getD_eq_getElem?_getD, List.getElem?_append_left (by omega : j < his.length)]
    rw [g1, g2]
    congr 1
    funext w
    rw [if_pos (by simp; omega)]
    split
    · rename_i hj; exact allF_more hh x r (j + 1) _ hj (by omega)
    · rename_i hj
      have hjn : j + 1 = los.length := by omega
      rw [allF_succ]
      have g3 : (los ++ [x]).getD (j + 1) 0 = x := by simp [List.getD_eq_getElem?_getD, hjn]
      have g4 : (his ++ [x]).getD (j + 1) 0 = x := by simp [List.getD_eq_getElem?_getD, hjn, hh]
      rw [g3, g4, spanL_one]
      simp [hjn]
/-- The weights of a truth: four of them, those of no part are 0. -/
theorem mem_allW {b : SBook} (hp : 0 < b.parts.length) (hf : b.parts.length ≤ 4) {ws : List Int} : ws ∈ allW b ↔
    ws.length = 4 ∧ (∀ i, b.parts.length ≤ i → i < 4 → ws[i]? = some 0) ∧ ∀ (i : Nat) (p : SPart), b.parts[i]? = some p → ∃ w, ws[i]? = some w ∧ p.lo ≤ w ∧ w ≤ p.hi := by
  unfold allW
  rw [mem_allF _ _ _ _ (by simpa using hp) (by simpa using hf) (by simpa using hf)]
  simp only [List.length_map, List.length_cons, List.length_nil, Nat.zero_add, Nat.reduceAdd]
  have z : ∀ i, i < 4 → ([0, 0, 0, 0] : List Int)[i]? = some 0 := fun i hi => by
    have : i = 0 ∨ i = 1 ∨ i = 2 ∨ i = 3 := by omega
    rcases this with rfl | rfl | rfl | rfl <;> rfl
  constructor
  · rintro ⟨h1, h2, h3⟩
    refine ⟨h1, fun i hi hi2 => by rw [h2 i (.inr hi), z i hi2], fun i p hp => ?_⟩
    have hi := (List.getElem?_eq_some_iff.1 hp).1
    have := h3 i (by omega) hi
    simpa [List.getD_eq_getElem?_getD, hp] using this
  · rintro ⟨h1, h2, h3⟩
    refine ⟨h1, fun i hi => ?_, fun i _ hi => ?_⟩
    · rcases Nat.lt_or_ge i 4 with h4 | h4
      · rw [h2 i (by omega) h4, z i h4]
      · rw [List.getElem?_eq_none (by omega), List.getElem?_eq_none (by simpa using h4)]
    · have hp := List.getElem?_eq_getElem hi
      have := h3 i _ hp
      simpa [List.getD_eq_getElem?_getD, hp] using this
theorem mem_truthL {b : SBook} {ws : List Int} : ws ∈ truthL b ↔ ws ∈ allW b ∧ ∀ t ∈ b.trials, rightI b ws t = true := by
  rw [truthL_filter, List.mem_filter, List.all_eq_true]
theorem mem_loadsI {b : SBook} {l : SLoad} : l ∈ loadsI b ↔ ∃ ws ∈ truthL b, loadW b.parts ws = l := by
  unfold loadsI
  rw [List.mem_map]
end Go.Proofs.Ytaejmbmkkdkliaa
namespace Go.Proofs.Ytaejmbmkkdkliaa
open Go.RowKit
theorem all_nil (b : SBook) (ht : b.trials = []) : truthL b = allW b := by
  rw [truthL_filter, ht]
  simp
theorem loads_nil {b : SBook} (ht : b.trials = []) : loadsI b = (allW b).map (loadW b.parts) := by
  unfold loadsI
  rw [all_nil b ht]
theorem zip_more {α β : Type} (q : α) (x : β) : ∀ (ps : List α) (ws : List β), ps.length < ws.length → (ps ++ [q]).zip (ws.set ps.length x) = ps.zip ws ++ [(q, x)]
  | [], [], h => by simp at h
  | [], w :: ws, _ => by simp
  | p :: ps, [], h => by simp at h
  | p :: ps, w :: ws, h => by
    simp only [List.cons_append, List.length_cons, List.set_cons_succ, List.zip_cons_cons, List.cons.injEq, true_and]
    exact zip_more q x ps ws (by simpa using h)
theorem loadW_more (ps : List SPart) (q : SPart) (ws : List Int) (x : Int) (h : ps.length < ws.length) : loadW (ps ++ [q]) (ws.set ps.length x) = (loadW ps ws).add x q.along q.high := by
  unfold loadW
  rw [zip_more q x ps ws h, List.foldl_append]
  rfl
/-- A book with lead as a part more, and no trials. -/
def leadB (b : SBook) (lead along : Int) : SBook := { b with trials := [], parts := b.parts ++ [⟨lead, lead, along, 0⟩] }
def plainB (b : SBook) : SBook := { b with trials := [] }
theorem allW_len {b : SBook} (hp : 0 < b.parts.length) (hf : b.parts.length ≤ 4) {ws : List Int} (h : ws ∈ allW b) : ws.length = 4 := ((mem_allW hp hf).1 h).1
theorem allW_lead {b : SBook} (hp : 0 < b.parts.length) (hf : b.parts.length ≤ 3) (lead along : Int) : allW (leadB b lead along) = (allW b).map fun ws => ws.set b.parts.length lead := by
  unfold allW leadB
  simp only [List.map_append, List.map_cons, List.map_nil]
  rw [allF_more (by simp) lead 3 0 _ (by simpa using hp) (by simpa using hf), allF_fuel 3 0 _ (by simpa using hp) (by simpa using hf), List.length_map]
theorem loads_lead {b : SBook} (hp : 0 < b.parts.length) (hf : b.parts.length ≤ 3) (lead along : Int) : loadsI (leadB b lead along) = leadL (loadsI (plainB b)) lead along := by
  rw [loads_nil (b := leadB b lead along) rfl, loads_nil (b := plainB b) rfl, allW_lead hp hf]
  unfold leadL
  rw [List.map_map, List.map_map]
  refine List.map_congr_left fun ws hws => ?_
  have hl : ws.length = 4 := allW_len hp (by omega) hws
  exact loadW_more b.parts ⟨lead, lead, along, 0⟩ ws lead (by omega)
theorem leadL_zero (ls : List SLoad) (along : Int) : leadL ls 0 along = ls := by
  unfold leadL SLoad.add
  simp
theorem loads_wide (b : SBook) (more : Int) (ht : b.trials = []) : loadsI (wideB b more) = loadsI b := by
  rw [loads_nil (b := wideB b more) ht, loads_nil ht]
  rfl
/-- Tips does not ask for what a book's parts or trials are. -/
theorem holds_lead (b : SBook) (lead along : Int) (ls : List SLoad) (w n : Int) : holdsI (leadB b lead along) ls w n ↔ holdsI b ls w n := Iff.rfl
theorem safeAll_lead (b : SBook) (lead along : Int) (ls : List SLoad) : safeAllI (leadB b lead along) ls = safeAllI b ls := rfl
theorem safeAll_plain (b : SBook) (ls : List SLoad) : safeAllI (plainB b) ls = safeAllI b ls := rfl
theorem wide_tips {b : SBook} {l : SLoad} {w n : Int} (hk : b.kind = 0 ∨ b.kind = 1) (hr : b.kind = 1 → 1 ≤ b.radius) (hf : 1 ≤ b.front) (hb : 1 ≤ b.back) (hl : 0 ≤ (seatB b l w n).w) {m : Int} (hm : 0 ≤ m) (h : ¬ tipsI b l w n) : ¬ tipsI (wideB b m) l w n := by
  have e : seatB (wideB b m) l w n = seatB b l w n := rfl
  unfold tipsI at *
  rw [topI_side] at *
  rw [e]
  generalize seatB b l w n = s at *
  rcases hk with hk | hk
  · unfold sideT wideB at *
    simp only [hk, if_true, Bool.false_eq_true, if_false, Int.add_mul] at *
    have := Int.mul_nonneg hm hl
    omega
  · have hr := hr hk
    unfold sideT wideB at *
    simp only [hk, if_true, Bool.false_eq_true, if_false, Int.add_mul] at *
    rw [if_neg (by omega), if_neg (by omega)] at *
    generalize b.radius * s.w - s.h = d at *
    have hd : 0 ≤ d := by
      rcases Int.lt_or_le d 0 with h0 | h0
      · have k1 : b.back * d ≤ 1 * d := Int.mul_le_mul_of_nonpos_right hb (by omega)
        have k2 : b.front * d ≤ 1 * d := Int.mul_le_mul_of_nonpos_right hf (by omega)
        omega
      · exact h0
    have := Int.mul_nonneg hm hd
    omega
theorem leadI_some {b : SBook} {ls : List SLoad} {along : Int} {j : Nat} : leadI b ls along = some j ↔ j < 100 ∧ safeAllI b (leadL ls j along) = true ∧ ∀ q : Nat, q < j → safeAllI b (leadL ls q along) = false := by
  unfold leadI
  rw [List.find?_range_eq_some, List.mem_range]
  constructor
  · rintro ⟨h1, h2, h3⟩; exact ⟨h2, h1, fun q hq => by simpa using h3 q hq⟩
  · rintro ⟨h1, h2, h3⟩; exact ⟨h2, h1, fun q hq => by simpa using h3 q hq⟩
theorem leadI_none {b : SBook} {ls : List SLoad} {along : Int} : leadI b ls along = none ↔ ∀ q : Nat, q < 100 → safeAllI b (leadL ls q along) = false := by
  unfold leadI
  rw [List.find?_eq_none]
  simp
def widerJ (b : SBook) (ls : List SLoad) : Option Nat := (List.range 21).find? fun j => safeAllI (wideB b j) ls
theorem widerJ_some {b : SBook} {ls : List SLoad} {j : Nat} : widerJ b ls = some j ↔ j < 21 ∧ safeAllI (wideB b j) ls = true ∧ ∀ q : Nat, q < j → safeAllI (wideB b q) ls = false := by
  unfold widerJ
  rw [List.find?_range_eq_some, List.mem_range]
  constructor
  · rintro ⟨h1, h2, h3⟩; exact ⟨h2, h1, fun q hq => by simpa using h3 q hq⟩
  · rintro ⟨h1, h2, h3⟩; exact ⟨h2, h1, fun q hq => by simpa using h3 q hq⟩
theorem widerJ_none {b : SBook} {ls : List SLoad} : widerJ b ls = none ↔ ∀ q : Nat, q < 21 → safeAllI (wideB b q) ls = false := by
  unfold widerJ
  rw [List.find?_eq_none]
  simp
/- Margins. -/
theorem tdiv_exact {a : Int} {g : Nat} (hg : (g : Int) ∣ a) : a.tdiv g * g = a := Int.tdiv_mul_cancel hg
theorem margin_facts (b : SBook) (l : SLoad) (w n : Int) (hs : 1 ≤ (seatB b l w n).w) : ∃ g : Int, 1 ≤ g ∧ (marginI b l w n).1 * g = topI b (seatB b l w n) ∧ (marginI b l w n).2 * g = (seatB b l w n).w ∧ 1 ≤ (marginI b l w n).2 ∧ Int.gcd (marginI b l w n).1 (marginI b l w n).2 = 1 := by
  generalize hS : (seatB b l w n) = S at hs
  have e : marginI b l w n = ((topI b S).tdiv (Int.gcd (topI b S) S.w), S.w.tdiv (Int.gcd (topI b S) S.w)) := by unfold marginI; rw [hS]
  rw [e]
  have hg : 0 < Int.gcd (topI b S) S.w := Int.gcd_pos_of_ne_zero_right _ (by omega)
  have d1 : ((Int.gcd (topI b S) S.w : Nat) : Int) ∣ topI b S := Int.gcd_dvd_left ..
  have d2 : ((Int.gcd (topI b S) S.w : Nat) : Int) ∣ S.w := Int.gcd_dvd_right ..
  refine ⟨(Int.gcd (topI b S) S.w : Int), by omega, tdiv_exact d1, tdiv_exact d2, ?_, ?_⟩
  · have := tdiv_exact d2
    simp only at this ⊢
    rcases Int.lt_or_le (S.w.tdiv ↑(Int.gcd (topI b S) S.w)) 1 with h | h
    · have : S.w.tdiv ↑(Int.gcd (topI b S) S.w) * ↑(Int.gcd (topI b S) S.w) ≤ 0 := Int.mul_nonpos_of_nonpos_of_nonneg (by omega) (by omega)
      omega
    · exact h
  · simp only
    rw [Int.tdiv_eq_ediv_of_dvd d1, Int.tdiv_eq_ediv_of_dvd d2]
    exact Int.gcd_ediv_gcd_ediv_gcd hg
theorem sign_mul {a g : Int} (hg : 1 ≤ g) : a * g < 0 ↔ a < 0 := by
  constructor
  · intro h
    rcases Int.lt_or_le a 0 with h1 | h1
    · exact h1
    · have := Int.mul_nonneg h1 (by omega : 0 ≤ g); omega
  · intro h; exact Int.mul_neg_of_neg_of_pos h (by omega)
theorem margin_neg {b : SBook} {l : SLoad} {w n : Int} (hs : 1 ≤ (seatB b l w n).w) : (marginI b l w n).1 < 0 ↔ tipsI b l w n := by
  obtain ⟨g, h1, h2, -⟩ := margin_facts b l w n hs
  unfold tipsI
  rw [← h2, sign_mul h1]
/-- No margin is less than the least one. -/
theorem lmI_least {b : SBook} {w n : Int} : ∀ {ls : List SLoad}, (∀ l ∈ ls, 1 ≤ (seatB b l w n).w) → ls ≠ [] → (lmI b w n ls).1 = true ∧ (∃ l ∈ ls, (lmI b w n ls).2 = marginI b l w n) ∧ ∀ l ∈ ls, (lmI b w n ls).2.1 * (marginI b l w n).2 ≤ (marginI b l w n).1 * (lmI b w n ls).2.2 := by
  suffices H : ∀ (r : List SLoad) (ls : List SLoad), (∀ l ∈ ls ++ r, 1 ≤ (seatB b l w n).w) → ls ≠ [] → ∀ s : Bool × (Int × Int), s.1 = true → (∃ l ∈ ls, s.2 = marginI b l w n) → (∀ l ∈ ls, s.2.1 * (marginI b l w n).2 ≤ (marginI b l w n).1 * s.2.2) →
      (r.foldl (fun s l => (true, offI s.1 s.2 (marginI b l w n))) s).1 = true ∧ (∃ l ∈ ls ++ r, (r.foldl (fun s l => (true, offI s.1 s.2 (marginI b l w n))) s).2 = marginI b l w n) ∧
      ∀ l ∈ ls ++ r, (r.foldl (fun s l => (true, offI s.1 s.2 (marginI b l w n))) s).2.1 * (marginI b l w n).2 ≤ (marginI b l w n).1 * (r.foldl (fun s l => (true, offI s.1 s.2 (marginI b l w n))) s).2.2 by
    intro ls hw hne
    match ls, hne with
    | l :: r, _ =>
      have := H r [l] (by simpa using hw) (by simp) (true, marginI b l w n) rfl ⟨l, by simp, rfl⟩ (by simp)
      exact this
  intro r
  induction r with
  | nil => intro ls _ _ s h1 h2 h3; exact ⟨h1, by simpa using h2, by simpa using h3⟩
  | cons l r ih =>
    intro ls hw hne s h1 ⟨l0, h20, h2⟩ h3
    have hw' : ∀ x ∈ (ls ++ [l]) ++ r, 1 ≤ (seatB b x w n).w := fun x hx => hw x (by simpa [List.append_assoc] using hx)
    have hl := hw l (by simp)
    obtain ⟨g, g1, g2, g3, g4, g5⟩ := margin_facts b l w n hl
    have hl0 := hw l0 (List.mem_append_left _ h20)
    obtain ⟨g0, p1, p2, p3, p4, p5⟩ := margin_facts b l0 w n hl0
    rw [← h2] at p4
    have := ih (ls ++ [l]) hw' (by simp) (true, offI s.1 s.2 (marginI b l w n)) rfl
    simp only [List.foldl_cons]
    rw [show ls ++ l :: r = (ls ++ [l]) ++ r by simp]
    refine this ?_ ?_
    · unfold offI
      split
      · exact ⟨l, by simp, rfl⟩
      · exact ⟨l0, by simp [h20], h2⟩
    · intro x hx
      unfold offI
      rw [h1]
      simp only [Bool.true_eq_false, false_or]
      rcases List.mem_append.1 hx with hx | hx
      · obtain ⟨gx, x1, x2, x3, x4, x5⟩ := margin_facts b x w n (hw x (List.mem_append_left _ hx))
        split
        · rename_i h
          unfold lessI at h
          rw [decide_eq_true_eq] at h
          have h4 := h3 x hx
          -- m < s ≤ x
          have e1 : (marginI b l w n).1 * s.2.2 * (marginI b x w n).2 < s.2.1 * (marginI b l w n).2 * (marginI b x w n).2 := Int.mul_lt_mul_of_pos_right h (by omega)
          have e2 : s.2.1 * (marginI b x w n).2 * (marginI b l w n).2 ≤ (marginI b x w n).1 * s.2.2 * (marginI b l w n).2 := Int.mul_le_mul_of_nonneg_right h4 (by omega)
          have e3 : (marginI b l w n).1 * (marginI b x w n).2 * s.2.2 < (marginI b x w n).1 * (marginI b l w n).2 * s.2.2 := by
            rw [Int.mul_right_comm, Int.mul_right_comm _ _ s.2.2]
            rw [Int.mul_right_comm] at e2
            omega
          exact Int.le_of_lt (Int.lt_of_mul_lt_mul_right e3 (by omega))
        · exact h3 x hx
      · rw [List.mem_singleton] at hx
        subst hx
        split
        · exact Int.le_refl _
        · rename_i h
          unfold lessI at h
          rw [decide_eq_true_eq] at h
          omega
end Go.Proofs.Ytaejmbmkkdkliaa
namespace Go.Proofs.Ytaejmbmkkdkliaa
open Go.RowKit
def turnP (p : SPart) : SPart := ⟨p.lo, p.hi, -p.along, p.high⟩
def turnTr (t : STrial) : STrial := ⟨t.weight, -t.lean, t.tipped⟩
def turnB (b : SBook) : SBook := ⟨b.kind, b.back, b.front, b.radius, b.parts.map turnP, -b.along, b.high, b.lean, b.limit, b.trials.map turnTr⟩
def turnL (l : SLoad) : SLoad := ⟨l.w, -l.a, l.h⟩
theorem turn_add (l : SLoad) (w a h : Int) : turnL (l.add w a h) = (turnL l).add w (-a) h := by
  unfold turnL SLoad.add
  simp only [Int.mul_neg, SLoad.mk.injEq, true_and, and_true]
  omega
theorem turn_top (b : SBook) (l : SLoad) : topI (turnB b) (turnL l) = topI b l := by
  rw [topI_side, topI_side]
  unfold sideT turnB turnL
  simp only [Bool.false_eq_true, if_false, if_true, Int.mul_neg]
  split <;> omega
theorem turn_seat (b : SBook) (l : SLoad) (w n : Int) : seatB (turnB b) (turnL l) w (-n) = turnL (seatB b l w n) := by
  unfold seatB
  rw [turn_add]
  show (turnL l).add w (-b.along + -n) b.high = _
  rw [show -b.along + -n = -(b.along + n) by omega]
theorem turn_tips (b : SBook) (l : SLoad) (w n : Int) : tipsI (turnB b) (turnL l) w (-n) ↔ tipsI b l w n := by
  unfold tipsI
  rw [turn_seat, turn_top]
theorem turn_loadW (ps : List SPart) (ws : List Int) : loadW (ps.map turnP) ws = turnL (loadW ps ws) := by
  unfold loadW
  suffices H : ∀ (ps : List SPart) (ws : List Int) (l : SLoad), ((ps.map turnP).zip ws).foldl (fun l x => l.add x.2 x.1.along x.1.high) (turnL l) = turnL ((ps.zip ws).foldl (fun l x => l.add x.2 x.1.along x.1.high) l) from H ps ws ⟨0, 0, 0⟩
  intro ps
  induction ps with
  | nil => intro ws l; rfl
  | cons p ps ih =>
    intro ws l
    cases ws with
    | nil => rfl
    | cons w ws =>
      simp only [List.map_cons, List.zip_cons_cons, List.foldl_cons]
      have e : (turnL l).add w (turnP p).along (turnP p).high = turnL (l.add w p.along p.high) := (turn_add l w p.along p.high).symm
      rw [e]
      exact ih ws _
theorem turn_right (b : SBook) (ws : List Int) (t : STrial) : rightI (turnB b) ws (turnTr t) = rightI b ws t := by
  unfold rightI
  have e : loadW (turnB b).parts ws = turnL (loadW b.parts ws) := turn_loadW b.parts ws
  rw [e]
  have : tipsI (turnB b) (turnL (loadW b.parts ws)) (turnTr t).weight (turnTr t).lean ↔ tipsI b (loadW b.parts ws) t.weight t.lean := turn_tips b _ t.weight t.lean
  simp only [this]
  rfl
theorem turn_allW (b : SBook) : allW (turnB b) = allW b := by
  unfold allW turnB
  simp only [List.map_map]
  rfl
theorem turn_truthL (b : SBook) : truthL (turnB b) = truthL b := by
  rw [truthL_filter, truthL_filter, turn_allW]
  congr 1
  funext ws
  show (b.trials.map turnTr).all (rightI (turnB b) ws) = _
  rw [List.all_map]
  congr 1
  funext t
  exact turn_right b ws t
theorem turn_loads (b : SBook) : loadsI (turnB b) = (loadsI b).map turnL := by
  unfold loadsI
  rw [turn_truthL, List.map_map]
  congr 1
  funext ws
  exact turn_loadW b.parts ws
theorem turn_count (b : SBook) (ls : List SLoad) (w n : Int) : countI (turnB b) (ls.map turnL) w (-n) = countI b ls w n := by
  unfold countI
  rw [List.countP_map]
  congr 1
  funext l
  exact decide_eq_decide.2 (turn_tips b l w n)
theorem turn_margin (b : SBook) (l : SLoad) (w n : Int) : marginI (turnB b) (turnL l) w (-n) = marginI b l w n := by
  unfold marginI
  rw [turn_seat, turn_top]
  rfl
theorem turn_lm (b : SBook) (w n : Int) (ls : List SLoad) : lmI (turnB b) w (-n) (ls.map turnL) = lmI b w n ls := by
  unfold lmI
  rw [List.foldl_map]
  simp only [turn_margin]
theorem turn_far (b : SBook) (ls : List SLoad) (w s : Int) : ∀ (q : Nat) (n : Int), farI (turnB b) (ls.map turnL) w (-s) q (-n) = -farI b ls w s q n
  | 0, n => rfl
  | q + 1, n => by
    unfold farI
    rw [show -n + -s = -(n + s) by omega, turn_count, turn_far b ls w s q (n + s)]
    split <;> rfl
theorem turn_ends (b : SBook) (ls : List SLoad) (w : Int) : endsI (turnB b) (ls.map turnL) w = endsI b ls w := by
  unfold endsI
  have e1 : countI (turnB b) (ls.map turnL) w (-(turnB b).lean) = countI b ls w b.lean := turn_count b ls w b.lean
  have e2 : countI (turnB b) (ls.map turnL) w (turnB b).lean = countI b ls w (-b.lean) := by
    have := turn_count b ls w (-b.lean)
    rwa [Int.neg_neg] at this
  rw [e1, e2]
  exact decide_eq_decide.2 And.comm
theorem turn_safeAll (b : SBook) (ls : List SLoad) : safeAllI (turnB b) (ls.map turnL) = safeAllI b ls := by
  unfold safeAllI
  rw [turn_ends]
  show (_ && endsI (turnB b) (ls.map turnL) b.limit) = _
  rw [turn_ends]
theorem turn_leadL (ls : List SLoad) (lead along : Int) : leadL (ls.map turnL) lead (-along) = (leadL ls lead along).map turnL := by
  unfold leadL
  rw [List.map_map, List.map_map]
  congr 1
  funext l
  exact (turn_add l lead along 0).symm
theorem turn_lead (b : SBook) (ls : List SLoad) (along : Int) : leadI (turnB b) (ls.map turnL) (-along) = leadI b ls along := by
  unfold leadI
  congr 1
  funext j
  rw [turn_leadL, turn_safeAll]
theorem turn_wider (b : SBook) (ls : List SLoad) : widerJ (turnB b) (ls.map turnL) = widerJ b ls := by
  unfold widerJ
  congr 1
  funext j
  exact turn_safeAll (wideB b j) ls
theorem okP_turn (p : SPart) : okPart (turnP p) ↔ okPart p := by
  unfold okPart turnP
  simp only
  omega
theorem turn_ok (b : SBook) : okBook (turnB b) ↔ okBook b := by
  unfold okBook okBase okSeat turnB
  simp only [List.length_map, List.forall_mem_map, okP_turn]
  have : ∀ t, okTrial ⟨b.kind, b.back, b.front, b.radius, b.parts.map turnP, -b.along, b.high, b.lean, b.limit, b.trials.map turnTr⟩ (turnTr t) ↔ okTrial b t := fun t => by
    unfold okTrial turnTr
    simp only
    omega
  simp only [this]
  constructor
  · rintro ⟨⟨h1, h2, h3⟩, ⟨⟨h4, h5⟩, h6⟩, h7⟩
    exact ⟨⟨h2, h1, h3⟩, ⟨⟨by omega, h5⟩, h6⟩, h7⟩
  · rintro ⟨⟨h1, h2, h3⟩, ⟨⟨h4, h5⟩, h6⟩, h7⟩
    exact ⟨⟨h2, h1, h3⟩, ⟨⟨by omega, h5⟩, h6⟩, h7⟩
theorem turn_err (b : SBook) (known : Bool) : errI (turnB b) known = errI b known := by
  unfold errI
  rw [turn_truthL]
  simp only [turn_ok]
/- How far a child can lean. -/
theorem far_facts (b : SBook) (ls : List SLoad) (w s : Int) (hs : s = 1 ∨ s = -1) : ∀ (q : Nat) (n : Int), ∃ k : Nat, k ≤ q ∧ farI b ls w s q n = n + s * k ∧ (∀ i : Nat, 1 ≤ i → i ≤ k → holdsI b ls w (n + s * i)) ∧ (k < q → ¬ holdsI b ls w (n + s * (k + 1)))
  | 0, n => ⟨0, Nat.le_refl _, by simp [farI], fun i h1 h2 => by omega, fun h => by omega⟩
  | q + 1, n => by
    unfold farI
    split
    · rename_i h
      rw [count_pos] at h
      refine ⟨0, by omega, by simp, fun i h1 h2 => by omega, fun _ => ?_⟩
      rw [show n + s * (((0 : Nat) : Int) + 1) = n + s by simp]
      exact h
    · rename_i h
      rw [count_pos, Classical.not_not] at h
      obtain ⟨k, h1, h2, h3, h4⟩ := far_facts b ls w s hs q (n + s)
      have e : ∀ i : Nat, n + s + s * (i : Int) = n + s * ((i + 1 : Nat) : Int) := fun i => by rcases hs with rfl | rfl <;> omega
      refine ⟨k + 1, by omega, by rw [h2, e], fun i hi hi2 => ?_, fun hk => ?_⟩
      · rcases Nat.lt_or_ge 1 i with h5 | h5
        · have := h3 (i - 1) (by omega) (by omega)
          rwa [e, Nat.sub_add_cancel hi] at this
        · have : i = 1 := by omega
          subst this
          simpa using h
      · have := h4 (by omega)
        rw [show n + s * (((k + 1 : Nat) : Int) + 1) = n + s + s * ((k : Int) + 1) by rcases hs with rfl | rfl <;> omega]
        exact this
/- One trial more. -/
def moreB (b : SBook) (t : STrial) : SBook := { b with trials := b.trials ++ [t] }
theorem more_truthL (b : SBook) (t : STrial) : truthL (moreB b t) = (truthL b).filter fun ws => rightI b ws t := by
  rw [truthL_filter, truthL_filter, List.filter_filter]
  show (allW b).filter (fun ws => (b.trials ++ [t]).all (rightI b ws)) = _
  congr 1
  funext ws
  rw [List.all_append]
  simp [Bool.and_comm]
theorem more_loads (b : SBook) (t : STrial) : ∀ l ∈ loadsI (moreB b t), l ∈ loadsI b := by
  intro l hl
  obtain ⟨ws, h1, h2⟩ := mem_loadsI.1 hl
  rw [more_truthL, List.mem_filter] at h1
  exact mem_loadsI.2 ⟨ws, h1.1, h2⟩
end Go.Proofs.Ytaejmbmkkdkliaa
namespace Go.Proofs.Ytaejmbmkkdkliaa
open Go.RowKit
/-- Lists of numbers, the shorter first, then by their elements. -/
def lexB : List Int → List Int → Bool
  | _, [] => false
  | [], _ :: _ => true
  | x :: l, y :: m => if x = y then lexB l m else decide (x < y)
def shortB (l m : List Int) : Bool := if l.length = m.length then lexB l m else decide (l.length < m.length)
theorem lexB_irr : ∀ l, lexB l l = false
  | [] => rfl
  | x :: l => by simp [lexB, lexB_irr l]
theorem lexB_trans : ∀ {a b c : List Int}, lexB a b = true → lexB b c = true → lexB a c = true
  | [], [], _, h, _ => by simp [lexB] at h
  | _ :: _, [], _, h, _ => by simp [lexB] at h
  | _, _ :: _, [], _, k => by simp [lexB] at k
  | [], _ :: _, _ :: _, _, _ => rfl
  | x :: a, y :: b, z :: c, h, k => by
    simp only [lexB] at *
    split at h
    · rename_i e; subst e
      split at k
      · rename_i e; subst e; rw [if_pos rfl]; exact lexB_trans h k
      · rename_i e; rw [if_neg e]; exact k
    · rename_i e
      simp only [decide_eq_true_eq] at h
      split at k
      · rename_i e2; subst e2; rw [if_neg e]; simpa using h
      · rename_i e2
        simp only [decide_eq_true_eq] at k
        rw [if_neg (by omega)]
        simp; omega
theorem lexB_total : ∀ {a b : List Int}, lexB a b = false → lexB b a = false → a = b
  | [], [], _, _ => rfl
  | [], _ :: _, h, _ => by simp [lexB] at h
  | _ :: _, [], _, h => by simp [lexB] at h
  | x :: a, y :: b, h, k => by
    simp only [lexB] at *
    split at h
    · rename_i e; subst e
      rw [if_pos rfl] at k
      rw [lexB_total h k]
    · rename_i e
      rw [if_neg (by omega)] at k
      simp at h k
      omega
theorem shortB_irr (l : List Int) : shortB l l = false := by simp [shortB, lexB_irr]
theorem shortB_trans {a b c : List Int} (h : shortB a b = true) (k : shortB b c = true) : shortB a c = true := by
  unfold shortB at *
  split at h
  · rename_i e
    split at k
    · rename_i e2; rw [if_pos (by omega)]; exact lexB_trans h k
    · rename_i e2; rw [if_neg (by omega)]; simp at k ⊢; omega
  · rename_i e
    simp only [decide_eq_true_eq] at h
    split at k
    · rename_i e2; rw [if_neg (by omega)]; simp; omega
    · rename_i e2; simp only [decide_eq_true_eq] at k; rw [if_neg (by omega)]; simp; omega
theorem shortB_total {a b : List Int} (h : shortB a b = false) (k : shortB b a = false) : a = b := by
  unfold shortB at *
  split at h
  · rename_i e; rw [if_pos e.symm] at k; exact lexB_total h k
  · rename_i e; rw [if_neg (by omega)] at k; simp at h k; omega
/-- The best of lists. -/
def bestL : List (List Int) → List Int → List Int := fun ls b => ls.foldl (fun b l => if shortB l b then l else b) b
theorem bestL_facts : ∀ (ls : List (List Int)) (b : List Int), (bestL ls b = b ∨ bestL ls b ∈ ls) ∧ shortB b (bestL ls b) = false ∧ ∀ l ∈ ls, shortB l (bestL ls b) = false
  | [], b => ⟨.inl rfl, shortB_irr b, fun l h => by simp at h⟩
  | l :: ls, b => by
    have ih := bestL_facts ls (if shortB l b then l else b)
    have e : bestL (l :: ls) b = bestL ls (if shortB l b then l else b) := rfl
    rw [e]
    obtain ⟨h1, h2, h3⟩ := ih
    have key : shortB b (bestL ls (if shortB l b then l else b)) = false ∧ shortB l (bestL ls (if shortB l b then l else b)) = false := by
      generalize hR : bestL ls (if shortB l b then l else b) = R at *
      cases hlb : shortB l b
      · rw [hlb] at h2
        simp only [Bool.false_eq_true, if_false] at h2
        refine ⟨h2, ?_⟩
        cases hx : shortB l R
        · rfl
        · -- l < R, R <= b : l < b
          cases hy : shortB R b
          · have := shortB_total h2 hy
            subst this
            rw [hlb] at hx; cases hx
          · have := shortB_trans hx hy
            rw [hlb] at this; cases this
      · rw [hlb] at h2
        simp only [if_true] at h2
        refine ⟨?_, h2⟩
        cases hx : shortB b R
        · rfl
        · have := shortB_trans hlb hx
          rw [h2] at this; cases this
    refine ⟨?_, key.1, fun x hx => ?_⟩
    · rcases h1 with h1 | h1
      · rw [h1]
        split
        · exact .inr (List.mem_cons_self ..)
        · exact .inl rfl
      · exact .inr (List.mem_cons_of_mem _ h1)
    · rcases List.mem_cons.1 hx with rfl | hx
      · exact key.2
      · exact h3 x hx
/-- The trials that are wrong, if the parts weigh so much. -/
def wrongI (b : SBook) (ws : List Int) : List Int := ((List.range b.trials.length).filter fun i => !(b.trials[i]?.elim true (rightI b ws))).map fun (i : Nat) => (i : Int)
theorem mem_wrongI {b : SBook} {ws : List Int} {n : Int} : n ∈ wrongI b ws ↔ ∃ (i : Nat) (t : STrial), n = i ∧ b.trials[i]? = some t ∧ rightI b ws t = false := by
  unfold wrongI
  rw [List.mem_map]
  constructor
  · rintro ⟨i, hi, rfl⟩
    rw [List.mem_filter, List.mem_range] at hi
    obtain ⟨h1, h2⟩ := hi
    rw [List.getElem?_eq_getElem h1] at h2
    exact ⟨i, _, rfl, List.getElem?_eq_getElem h1, by simpa using h2⟩
  · rintro ⟨i, t, rfl, h1, h2⟩
    refine ⟨i, ?_, rfl⟩
    rw [List.mem_filter, List.mem_range]
    refine ⟨(List.getElem?_eq_some_iff.1 h1).1, ?_⟩
    rw [h1]
    simp [h2]
/-- Strictly increasing. -/
def incL (l : List Int) : Prop := l.Pairwise (· < ·)
theorem wrongI_inc (b : SBook) (ws : List Int) : incL (wrongI b ws) := by
  unfold wrongI incL
  rw [List.pairwise_map]
  refine List.Pairwise.imp ?_ ((List.pairwise_lt_range (n := b.trials.length)).filter _)
  intro a c h; omega
/-- A book without some trials. -/
def withoutB (b : SBook) (l : List Int) : SBook := { b with trials := ((List.range b.trials.length).filter fun (i : Nat) => decide ((i : Int) ∉ l)).filterMap fun i => b.trials[i]? }
theorem without_true {b : SBook} {l : List Int} : truthL (withoutB b l) ≠ [] ↔ ∃ ws ∈ allW b, ∀ n ∈ wrongI b ws, n ∈ l := by
  constructor
  · intro hne
    obtain ⟨ws, h⟩ := List.exists_mem_of_ne_nil _ hne
    obtain ⟨h1, h2⟩ := mem_truthL.1 h
    refine ⟨ws, h1, fun n hn => ?_⟩
    obtain ⟨i, t, rfl, h3, h4⟩ := mem_wrongI.1 hn
    rcases Classical.em ((i : Int) ∈ l) with h5 | h5
    · exact h5
    · have : t ∈ (withoutB b l).trials := by
        unfold withoutB
        simp only [List.mem_filterMap, List.mem_filter, List.mem_range]
        exact ⟨i, ⟨(List.getElem?_eq_some_iff.1 h3).1, by simpa using h5⟩, h3⟩
      have := h2 t this
      rw [show rightI (withoutB b l) ws t = rightI b ws t from rfl, h4] at this
      cases this
  · rintro ⟨ws, h1, h2⟩
    refine List.ne_nil_of_mem (a := ws) (mem_truthL.2 ⟨h1, fun t ht => ?_⟩)
    unfold withoutB at ht
    simp only [List.mem_filterMap, List.mem_filter, List.mem_range] at ht
    obtain ⟨i, ⟨h3, h4⟩, h5⟩ := ht
    cases h6 : rightI b ws t
    · have := h2 i (mem_wrongI.2 ⟨i, t, rfl, h5, h6⟩)
      simp at h4
      exact absurd this h4
    · exact h6
/-- Of increasing lists, one whose elements another one has is not behind it. -/
theorem inc_sub : ∀ {l m : List Int}, incL l → incL m → (∀ n ∈ l, n ∈ m) → l.length ≤ m.length ∧ (l.length = m.length → l = m)
  | [], [], _, _, _ => ⟨Nat.le_refl _, fun _ => rfl⟩
  | [], _ :: _, _, _, _ => ⟨Nat.zero_le _, fun h => by simp at h⟩
  | x :: l, [], _, _, h => by have := h x (List.mem_cons_self ..); simp at this
  | x :: l, y :: m, h1, h2, h => by
    unfold incL at h1 h2
    rw [List.pairwise_cons] at h1 h2
    have hx := h x (List.mem_cons_self ..)
    have lm : ∀ n ∈ l, n ∈ m := fun n hn => by
      have h3 := h1.1 n hn
      rcases List.mem_cons.1 (h n (List.mem_cons_of_mem _ hn)) with rfl | h4
      · rcases List.mem_cons.1 hx with rfl | h5
        · omega
        · have := h2.1 x h5; omega
      · exact h4
    obtain ⟨k1, k2⟩ := inc_sub (l := l) (m := m) h1.2 h2.2 lm
    refine ⟨by simpa using k1, fun he => ?_⟩
    have he2 : l.length = m.length := by simpa using he
    have hlm := k2 he2
    subst hlm
    rcases List.mem_cons.1 hx with rfl | h5
    · rfl
    · have := h1.1 x h5; omega
theorem inc_short {l m : List Int} (h1 : incL l) (h2 : incL m) (h : ∀ n ∈ l, n ∈ m) : shortB m l = false := by
  obtain ⟨k1, k2⟩ := inc_sub h1 h2 h
  unfold shortB
  split
  · rename_i e; rw [k2 e.symm]; exact lexB_irr m
  · simp; omega
end Go.Proofs.Ytaejmbmkkdkliaa
namespace Go.Proofs.Ytaejmbmkkdkliaa
open Go.RowKit
def ac134 : AC := (AC.seq (AC.ops [(AOp.mk (some 2) (AK.mv (AX.c (PV.val (Value.bool false)))) none 0 false true)]) (AC.seq (AC.ops [(AOp.mk (some 3) (AK.mv (AX.t 0)) none 0 false true), (AOp.mk (some 4) (AK.mv (AX.t 0)) none 1 false true), (AOp.mk (some 5) (AK.bin false BinOp.neq (AX.t 3) (AX.t 4)) none 2 false true), (AOp.mk (some 2) (AK.mv (AX.t 5)) none 3 false true)]) AC.ret))
theorem ac134_ok : cCode Try.prog (fun _ => false) Try.f134.ntmps (Try.f134.body.getD .skip) = some ac134 := by kernel_rfl
def ac133 : AC := (AC.seq (AC.ops [(AOp.mk (some 4) (AK.mv (AX.c (PV.val (Value.int IntKind.i64 0)))) none 0 false true)]) (AC.seq (AC.ops [(AOp.mk (some 7) (AK.mv (AX.t 0)) none 0 false true), (AOp.mk (some 8) (AK.call 134 [(AX.t 7)]) none 1 false true), (AOp.mk (some 5) (AK.mv (AX.t 8)) none 2 false true)]) (AC.seq (AC.ops [(AOp.mk (some 9) (AK.mv (AX.t 1)) none 0 false true), (AOp.mk (some 10) (AK.call 134 [(AX.t 9)]) none 1 false true), (AOp.mk (some 6) (AK.mv (AX.t 10)) none 2 false true)]) (AC.seq (AC.seq (AC.ops [(AOp.mk (some 11) (AK.mv (AX.t 5)) none 0 false true)]) (AC.cond (AX.t 11) (AC.seq (AC.seq (AC.ops [(AOp.mk (some 12) (AK.mv (AX.t 6)) none 0 false true)]) (AC.cond (AX.t 12) (AC.seq (AC.ops [(AOp.mk (some 4) (AK.mv (AX.c (PV.val (Value.int IntKind.i64 0)))) none 0 false true)]) AC.ret) AC.skip)) (AC.seq (AC.ops [(AOp.mk (some 4) (AK.mv (AX.c (PV.val (Value.int IntKind.i64 (-1))))) none 0 false true)]) AC.ret)) AC.skip)) (AC.seq (AC.seq (AC.ops [(AOp.mk (some 13) (AK.mv (AX.t 6)) none 0 false true)]) (AC.cond (AX.t 13) (AC.seq (AC.ops [(AOp.mk (some 4) (AK.mv (AX.c (PV.val (Value.int IntKind.i64 1)))) none 0 false true)]) AC.ret) AC.skip)) (AC.seq (AC.seq (AC.ops [(AOp.mk (some 14) (AK.mv (AX.t 0)) none 0 false true), (AOp.mk (some 15) (AK.mv (AX.t 1)) none 1 false true), (AOp.mk (some 16) (AK.bin false BinOp.lss (AX.t 14) (AX.t 15)) none 2 false true)]) (AC.cond (AX.t 16) (AC.seq (AC.ops [(AOp.mk (some 4) (AK.mv (AX.c (PV.val (Value.int IntKind.i64 (-1))))) none 0 false true)]) AC.ret) AC.skip)) (AC.seq (AC.seq (AC.ops [(AOp.mk (some 17) (AK.mv (AX.t 0)) none 0 false true), (AOp.mk (some 18) (AK.mv (AX.t 1)) none 1 false true), (AOp.mk (some 19) (AK.bin false BinOp.gtr (AX.t 17) (AX.t 18)) none 2 false true)]) (AC.cond (AX.t 19) (AC.seq (AC.ops [(AOp.mk (some 4) (AK.mv (AX.c (PV.val (Value.int IntKind.i64 1)))) none 0 false true)]) AC.ret) AC.skip)) (AC.seq (AC.ops [(AOp.mk (some 4) (AK.mv (AX.c (PV.val (Value.int IntKind.i64 0)))) none 0 false true)]) AC.ret))))))))
theorem ac133_ok : cCode Try.prog (fun _ => false) Try.f133.ntmps (Try.f133.body.getD .skip) = some ac133 := by kernel_rfl
def ac129 : AC := (AC.seq (AC.ops [(AOp.mk (some 4) (AK.mv (AX.c (PV.val (Value.int IntKind.i64 0)))) none 0 false true)]) (AC.seq (AC.seq (AC.ops [(AOp.mk (some 9) (AK.mv (AX.t 0)) none 0 false true), (AOp.mk (some 10) (AK.len (AX.t 9)) none 1 false true), (AOp.mk (some 11) (AK.mv (AX.c (PV.val (Value.int IntKind.i64 0)))) none 2 false true)]) (AC.block 0 (AC.loop (AC.seq (AC.ops [(AOp.mk (some 12) (AK.bin false BinOp.lss (AX.t 11) (AX.t 10)) none 0 false true)]) (AC.seq (AC.cond (AX.t 12) AC.skip (AC.exit 0)) (AC.seq (AC.block 1 (AC.seq (AC.ops [(AOp.mk (some 13) (AK.mv (AX.t 11)) none 0 false true), (AOp.mk (some 14) (AK.iadrS 1 (AX.t 9) (AX.t 11)) none 1 false true), (AOp.mk (some 15) (AK.ld none (AX.t 14)) none 2 false true), (AOp.mk (some 5) (AK.mv (AX.t 13)) none 3 false true), (AOp.mk (some 6) (AK.mv (AX.t 15)) none 4 false true)]) (AC.seq (AC.seq (AC.ops [(AOp.mk (some 16) (AK.mv (AX.t 5)) none 0 false true), (AOp.mk (some 17) (AK.mv (AX.t 1)) none 1 false true), (AOp.mk (some 18) (AK.len (AX.t 17)) none 2 false true), (AOp.mk (some 19) (AK.bin false BinOp.geq (AX.t 16) (AX.t 18)) none 3 false true)]) (AC.cond (AX.t 19) (AC.seq (AC.ops [(AOp.mk (some 4) (AK.mv (AX.c (PV.val (Value.int IntKind.i64 1)))) none 0 false true)]) AC.ret) AC.skip)) (AC.seq (AC.ops [(AOp.mk (some 20) (AK.mv (AX.t 1)) none 0 false true), (AOp.mk (some 21) (AK.mv (AX.t 5)) none 1 false true), (AOp.mk (some 22) (AK.iadrS 1 (AX.t 20) (AX.t 21)) none 2 false true), (AOp.mk (some 23) (AK.ld none (AX.t 22)) none 3 false true), (AOp.mk (some 7) (AK.mv (AX.t 23)) none 4 false true)]) (AC.seq (AC.ops [(AOp.mk (some 24) (AK.mv (AX.t 6)) none 0 false true), (AOp.mk (some 25) (AK.mv (AX.t 7)) none 1 false true), (AOp.mk (some 26) (AK.call 133 [(AX.t 24), (AX.t 25)]) none 2 false true), (AOp.mk (some 8) (AK.mv (AX.t 26)) none 3 false true)]) (AC.seq (AC.ops [(AOp.mk (some 27) (AK.mv (AX.t 8)) none 0 false true), (AOp.mk (some 28) (AK.bin false BinOp.neq (AX.t 27) (AX.c (PV.val (Value.int IntKind.i64 0)))) none 1 false true)]) (AC.cond (AX.t 28) (AC.seq (AC.ops [(AOp.mk (some 29) (AK.mv (AX.t 8)) none 0 false true), (AOp.mk (some 4) (AK.mv (AX.t 29)) none 1 false true)]) AC.ret) AC.skip))))))) (AC.ops [(AOp.mk (some 30) (AK.bin false BinOp.add (AX.t 11) (AX.c (PV.val (Value.int IntKind.i64 1)))) none 0 false true), (AOp.mk (some 11) (AK.mv (AX.t 30)) none 1 false true)]))))))) (AC.seq (AC.seq (AC.ops [(AOp.mk (some 31) (AK.mv (AX.t 0)) none 0 false true), (AOp.mk (some 32) (AK.len (AX.t 31)) none 1 false true), (AOp.mk (some 33) (AK.mv (AX.t 1)) none 2 false true), (AOp.mk (some 34) (AK.len (AX.t 33)) none 3 false true), (AOp.mk (some 35) (AK.bin false BinOp.lss (AX.t 32) (AX.t 34)) none 4 false true)]) (AC.cond (AX.t 35) (AC.seq (AC.ops [(AOp.mk (some 4) (AK.mv (AX.c (PV.val (Value.int IntKind.i64 (-1))))) none 0 false true)]) AC.ret) AC.skip)) (AC.seq (AC.ops [(AOp.mk (some 4) (AK.mv (AX.c (PV.val (Value.int IntKind.i64 0)))) none 0 false true)]) AC.ret))))
theorem ac129_ok : cCode Try.prog (fun _ => false) Try.f129.ntmps (Try.f129.body.getD .skip) = some ac129 := by kernel_rfl
def ac113 : AC := (AC.seq (AC.ops [(AOp.mk (some 4) (AK.mv (AX.c (PV.val (Value.bool false)))) none 0 false true)]) (AC.seq (AC.seq (AC.ops [(AOp.mk (some 5) (AK.mv (AX.t 0)) none 0 false true), (AOp.mk (some 6) (AK.len (AX.t 5)) none 1 false true), (AOp.mk (some 7) (AK.mv (AX.t 1)) none 2 false true), (AOp.mk (some 8) (AK.len (AX.t 7)) none 3 false true), (AOp.mk (some 9) (AK.bin false BinOp.neq (AX.t 6) (AX.t 8)) none 4 false true)]) (AC.cond (AX.t 9) (AC.seq (AC.ops [(AOp.mk (some 10) (AK.mv (AX.t 0)) none 0 false true), (AOp.mk (some 11) (AK.len (AX.t 10)) none 1 false true), (AOp.mk (some 12) (AK.mv (AX.t 1)) none 2 false true), (AOp.mk (some 13) (AK.len (AX.t 12)) none 3 false true), (AOp.mk (some 14) (AK.bin false BinOp.lss (AX.t 11) (AX.t 13)) none 4 false true), (AOp.mk (some 4) (AK.mv (AX.t 14)) none 5 false true)]) AC.ret) AC.skip)) (AC.seq (AC.ops [(AOp.mk (some 15) (AK.mv (AX.t 0)) none 0 false true), (AOp.mk (some 16) (AK.mv (AX.t 1)) none 1 false true), (AOp.mk (some 17) (AK.call 129 [(AX.t 15), (AX.t 16)]) none 2 false true), (AOp.mk (some 18) (AK.bin false BinOp.lss (AX.t 17) (AX.c (PV.val (Value.int IntKind.i64 0)))) none 3 false true), (AOp.mk (some 4) (AK.mv (AX.t 18)) none 4 false true)]) AC.ret)))
theorem ac113_ok : cCode Try.prog (fun _ => false) Try.f113.ntmps (Try.f113.body.getD .skip) = some ac113 := by kernel_rfl
theorem isNaN_sem (x : Int) : Sem1 134 [pi x] (pb false) := by
  refine semC_of_exec' mixed Try.func134 (by kernel_rfl) (by kernel_rfl) ac134_ok 1 rfl (by decide) [(.tmp 2)] (by kernel_rfl) ?_
  intro hr C hC hI
  unfold ac134
  simp only [go_sem, Nat.reduceBEq]
  exact retQ_one rfl (by simp)
def cmpN (x y : Int) : Int := if x < y then -1 else if y < x then 1 else 0
theorem cmpN_sem (x y : Int) : Sem1 133 [pi x, pi y] (pi (cmpN x y)) := by
  refine semC_of_exec' mixed Try.func133 (by kernel_rfl) (by kernel_rfl) ac133_ok 2 rfl (by decide) [(.tmp 4)] (by kernel_rfl) ?_
  intro hr C hC hI
  unfold ac133
  simp only [go_sem, Nat.reduceBEq]
  refine call_pure2 hC (isNaN_sem x) rfl (PVleL_refl _) ?_
  rintro r rfl
  simp only [go_sem, Nat.reduceBEq]
  refine call_pure2 hC (isNaN_sem y) rfl (PVleL_refl _) ?_
  rintro r rfl
  simp only [go_sem, Nat.reduceBEq]
  unfold cmpN
  refine ⟨fun h => retQ_one rfl (by rw [if_pos h]), fun h => ⟨fun h2 => retQ_one rfl (by rw [if_neg h, if_pos h2]), fun h2 => retQ_one rfl (by rw [if_neg h, if_neg h2])⟩⟩
def cmpI : List Int → List Int → Int
  | [], [] => 0
  | [], _ :: _ => -1
  | _ :: _, [] => 1
  | x :: l, y :: m => if cmpN x y = 0 then cmpI l m else cmpN x y
theorem cmpI_sem (l m : List Int) : Sem1 129 [pis l, pis m] (pi (cmpI l m)) := by
  refine semC_of_exec' mixed Try.func129 (by kernel_rfl) (by kernel_rfl) ac129_ok 2 rfl (by decide) [(.tmp 4)] (by kernel_rfl) ?_
  intro hr C hC hI
  unfold ac129
  simp only [go_sem, Nat.reduceBEq, List.length_map]
  have hl := real_len (i := 0) hr rfl
  have hm := real_len (i := 1) hr rfl
  rw [List.length_map] at hl hm
  refine loop_nat l.length (fun j => j ≤ m.length ∧ cmpI (l.drop j) (m.drop j) = cmpI l m) (fun (j : Nat) => ⟨[(11, .p (pi j)), (10, .p (pi l.length)), (9, .p (pis l)), (0, .p (pis l)), (1, .p (pis m))], [], [], some [], 0⟩) ⟨by omega, rfl⟩ (by simp [Wk, wkT, wkL, look, AV.lo]) ?_
  rintro j ⟨hj, hjm, hok⟩
  simp only [go_sem, Nat.reduceBEq]
  refine ⟨fun h5 => ?_, fun h5 => ?_⟩
  · have hj2 : j < l.length := by omega
    simp only [go_sem, Nat.reduceBEq, iadr_pis hj2, List.length_map]
    rw [List.drop_eq_getElem_cons hj2] at hok
    refine ⟨fun h6 => ?_, fun h6 => ?_⟩
    · refine retQ_one rfl ?_
      rw [← hok, show m.drop j = [] from List.drop_eq_nil_of_le (by omega)]; rfl
    · have hjm2 : j < m.length := by omega
      rw [List.drop_eq_getElem_cons hjm2] at hok
      simp only [go_sem, Nat.reduceBEq, iadr_pis hjm2]
      refine call_pure2 hC (cmpN_sem l[j] m[j]) rfl (PVleL_refl _) ?_
      rintro r rfl
      simp only [go_sem, Nat.reduceBEq, wrap_succ (k := j) (by omega)]
      simp only [cmpI] at hok
      refine ⟨fun h7 => ?_, fun h7 => ?_⟩
      · exact retQ_one rfl (by rw [← hok, if_neg h7])
      · rw [if_pos h7] at hok
        exact ⟨⟨j + 1, hj2, by omega, hok⟩, by simp only; omega, by simp [Wk, wkT, wkL, look, AV.lo]⟩
  · have hjn : j = l.length := by omega
    subst hjn
    simp only [go_sem, List.length_map]
    rw [List.drop_length] at hok
    refine ⟨fun h6 => retQ_one rfl ?_, fun h6 => retQ_one rfl ?_⟩
    · rw [← hok, List.drop_eq_getElem_cons (by omega)]; rfl
    · rw [← hok, show m.drop l.length = [] from List.drop_eq_nil_of_le (by omega)]; rfl
theorem cmpI_lex : ∀ {l m : List Int}, l.length = m.length → (cmpI l m < 0 ↔ lexB l m = true)
  | [], [], _ => by simp [cmpI, lexB]
  | [], _ :: _, h => by simp at h
  | _ :: _, [], h => by simp at h
  | x :: l, y :: m, h => by
    have ih := cmpI_lex (l := l) (m := m) (by simpa using h)
    simp only [cmpI, lexB]
    unfold cmpN
    by_cases h1 : x < y
    · rw [if_pos h1, if_neg (by omega), if_neg (by omega)]; simp [h1]
    · by_cases h2 : y < x
      · rw [if_neg h1, if_pos h2, if_neg (by omega), if_neg (by omega)]; simp [h1]
      · rw [if_neg h1, if_neg h2, if_pos rfl, if_pos (by omega)]; exact ih
theorem comesBefore_sem (l m : List Int) : Sem1 113 [pis l, pis m] (pb (shortB l m)) := by
  refine semC_of_exec' mixed Try.func113 (by kernel_rfl) (by kernel_rfl) ac113_ok 2 rfl (by decide) [(.tmp 4)] (by kernel_rfl) ?_
  intro hr C hC hI
  unfold ac113
  simp only [go_sem, Nat.reduceBEq, List.length_map]
  unfold shortB
  refine ⟨fun h => retQ_one rfl ?_, fun h => ?_⟩
  · rw [if_neg (by omega)]
    exact congrArg pb (decide_eq_decide.2 (by omega))
  · have hlm : l.length = m.length := by omega
    refine call_pure2 hC (cmpI_sem l m) rfl (PVleL_refl _) ?_
    rintro r rfl
    simp only [go_sem, Nat.reduceBEq]
    refine retQ_one rfl ?_
    rw [if_pos hlm]
    have := cmpI_lex hlm
    cases hb : lexB l m
    · rw [hb] at this; simp at this; simp; omega
    · rw [hb] at this; simp at this; simp; omega
def ac112 : AC := (AC.seq (AC.ops [(AOp.mk (some 3) (AK.box 4 (AX.t 1)) none 0 false true), (AOp.mk (some 4) (AK.mv (AX.c (PV.sl SK.full 0 []))) none 1 false true)]) (AC.seq (AC.ops [(AOp.mk (some 5) (AK.mv (AX.c (PV.sl SK.full 0 []))) none 0 false true)]) (AC.seq (AC.seq (AC.ops [(AOp.mk (some 9) (AK.mv (AX.t 0)) none 0 false true), (AOp.mk (some 10) (AK.nilc (AX.t 9)) none 1 false true), (AOp.mk (some 11) (AK.fadr 0 (AX.t 10)) none 2 false true), (AOp.mk (some 12) (AK.fadr 9 (AX.t 11)) none 3 false true), (AOp.mk (some 13) (AK.ld none (AX.t 12)) none 4 false true), (AOp.mk (some 14) (AK.len (AX.t 13)) none 5 false true), (AOp.mk (some 15) (AK.mv (AX.c (PV.val (Value.int IntKind.i64 0)))) none 6 false true)]) (AC.block 0 (AC.loop (AC.seq (AC.ops [(AOp.mk (some 16) (AK.bin false BinOp.lss (AX.t 15) (AX.t 14)) none 0 false true)]) (AC.seq (AC.cond (AX.t 16) AC.skip (AC.exit 0)) (AC.seq (AC.block 1 (AC.seq (AC.ops [(AOp.mk (some 17) (AK.mv (AX.t 15)) none 0 false true), (AOp.mk (some 18) (AK.iadrS 3 (AX.t 13) (AX.t 15)) none 1 false true), (AOp.mk (some 19) (AK.ld (some 3) (AX.t 18)) none 2 false true), (AOp.mk (some 7) (AK.new (PV.agg [(PV.val (Value.int IntKind.i64 0)), (PV.val (Value.int IntKind.i64 0)), (PV.val (Value.bool false))])) none 3 false true), (AOp.mk (some 6) (AK.mv (AX.t 17)) none 4 false true), (AOp.mk none (AK.st 3 (AX.t 7) (AX.t 19)) none 5 false true)]) (AC.seq (AC.ops [(AOp.mk (some 20) (AK.mv (AX.t 0)) none 0 false true), (AOp.mk (some 21) (AK.ld (some 4) (AX.t 3)) none 1 false true), (AOp.mk (some 22) (AK.ld (some 3) (AX.t 7)) none 2 false true), (AOp.mk (some 23) (AK.call 127 [(AX.t 20), (AX.t 21), (AX.t 22)]) none 3 false true), (AOp.mk (some 24) (AK.un UnOp.not (AX.t 23)) none 4 false true)]) (AC.cond (AX.t 24) (AC.ops [(AOp.mk (some 25) (AK.mv (AX.t 5)) none 0 false true), (AOp.mk (some 26) (AK.mv (AX.t 6)) none 1 false true), (AOp.mk (some 27) (AK.bslice false 3 1 1 [(PV.val (Value.int IntKind.i64 0))] [(0, (1, (AX.t 26)))]) none 2 false true), (AOp.mk (some 28) (AK.app false 3 1 8 [(PV.val (Value.int IntKind.i64 0))] (AX.t 25) (AX.t 27)) none 3 false true), (AOp.mk (some 5) (AK.mv (AX.t 28)) none 4 false true)]) AC.skip)))) (AC.ops [(AOp.mk (some 29) (AK.bin false BinOp.add (AX.t 15) (AX.c (PV.val (Value.int IntKind.i64 1)))) none 0 false true), (AOp.mk (some 15) (AK.mv (AX.t 29)) none 1 false true)]))))))) (AC.seq (AC.ops [(AOp.mk (some 30) (AK.mv (AX.t 5)) none 0 false true), (AOp.mk (some 31) (AK.len (AX.t 30)) none 1 false true), (AOp.mk (some 8) (AK.mv (AX.t 31)) none 2 false true)]) (AC.seq (AC.ops [(AOp.mk (some 32) (AK.mv (AX.t 5)) none 0 false true), (AOp.mk (some 33) (AK.mv (AX.t 8)) none 1 false true), (AOp.mk (some 34) (AK.mv (AX.t 8)) none 2 false true), (AOp.mk (some 35) (AK.slc 1 (AX.t 32) none (some (AX.t 33)) (some (AX.t 34))) none 3 false true), (AOp.mk (some 4) (AK.mv (AX.t 35)) none 4 false true)]) AC.ret)))))
theorem ac112_ok : cCode Try.prog (fun _ => false) Try.f112.ntmps (Try.f112.body.getD .skip) = some ac112 := by kernel_rfl
theorem wrongI_snoc (j : Nat) (f : Nat → Bool) : ((List.range (j + 1)).filter f).map (fun (i : Nat) => (i : Int)) = ((List.range j).filter f).map (fun (i : Nat) => (i : Int)) ++ if f j then [(j : Int)] else [] := by
  rw [List.range_succ, List.filter_append, List.map_append]
  congr 1
  simp only [List.filter_cons, List.filter_nil]
  split <;> rfl
/-- A list of numbers that grew. -/
def slN (e : TypeId) (o : Option Nat) (l : List Int) : PV :=
  match o with
  | none => .sl .full 0 []
  | some t => .sl (.own t e 1) 1 (l.map fun x => [pi x])
theorem wrong_sem (k k2 ks : SK) (b : SBook) (hb : Fit b) (ws : List Int) (hws : ws.length = 4) (hw : ∀ w ∈ ws, 0 ≤ w ∧ w ≤ 99) : Sem1 112 [bookP k k2 ks b, .agg (ws.map pi)] (pis (wrongI b ws)) := by
  have hmany := hb.many
  obtain ⟨f, hf⟩ : ∃ f : Nat → Bool, (fun i => !(b.trials[i]?.elim true (rightI b ws))) = f := ⟨_, rfl⟩
  have hfj : ∀ (j : Nat) (h : j < b.trials.length), f j = !(rightI b ws b.trials[j]) := fun j h => by rw [← hf]; show (!(b.trials[j]?.elim true (rightI b ws))) = _; rw [List.getElem?_eq_getElem h]; rfl
  have hW : wrongI b ws = ((List.range b.trials.length).filter f).map fun (i : Nat) => (i : Int) := by unfold wrongI; rw [hf]
  rw [hW]
  have hrt := fun t (ht : t ∈ b.trials) => right_sem k k2 ks b ws t hb.kind hb.small hws hb.few hb.parts hw (hb.trials t ht).1 (hb.trials t ht).2
  obtain ⟨w0, w1, w2, w3, rfl⟩ := four hws
  refine semC_of_exec' mixed Try.func112 (by kernel_rfl) (by kernel_rfl) ac112_ok 2 rfl (by decide) [(.tmp 4)] (by kernel_rfl) ?_
  intro hr C hC hI
  unfold ac112
  simp only [go_sem, Nat.reduceBEq, Nat.reduceAdd, List.length_map]
  refine ⟨{x : Nat × Option Nat // x.1 ≤ b.trials.length ∧ (x.2 = none → ((List.range x.1).filter f).map (fun (i : Nat) => (i : Int)) = [])}, fun x => ⟨[(15, .p (pi x.1.1)), (14, .p (pi b.trials.length)), (13, .p (.sl k2 3 (b.trials.map trialC))), (5, .p (slN 3 x.1.2 (((List.range x.1.1).filter f).map fun (i : Nat) => (i : Int)))), (3, .loc 0 0), (0, .p (bookP k k2 ks b))], [.cells [.p (pi w0), .p (pi w1), .p (pi w2), .p (pi w3)]], x.1.2.toList, some [], 0⟩, fun x => b.trials.length - x.1.1, ⟨(0, none), by simp, fun _ => rfl⟩, by simp [Wk, wkT, wkL, look, AV.lo, AV.lo.loL, slN], ?_⟩
  rintro ⟨⟨j, o⟩, hj, ho⟩
  simp only at hj ho
  simp only [go_sem, Nat.reduceBEq]
  refine ⟨fun h5 => ?_, fun h5 => ?_⟩
  · have hj2 : j < b.trials.length := by omega
    have hsn := wrongI_snoc j f
    rw [hfj j hj2] at hsn
    have hr2 := hrt _ (List.getElem_mem hj2)
    obtain ⟨t, ht⟩ : ∃ t, b.trials[j] = t := ⟨_, rfl⟩
    have e1 := iadr_map (f := trialC) (kd := k2) (sz := 3) hj2
    rw [ht] at hr2 hsn e1
    obtain ⟨L, hL⟩ : ∃ L, ((List.range j).filter f).map (fun (i : Nat) => (i : Int)) = L := ⟨_, rfl⟩
    have hLl : L.length ≤ j := by rw [← hL, List.length_map]; exact Nat.le_trans (List.length_filter_le ..) (by simp)
    rw [hL] at hsn ho
    simp only [hL]
    simp only [trialC] at hr2
    simp only [go_sem, Nat.reduceBEq, Nat.reduceAdd, e1, trialC, putCells]
    refine call_pure2 hC (hr2) rfl (PVleL_refl _) ?_
    rintro r rfl
    simp only [go_sem, Nat.reduceBEq]
    cases hri : rightI b [w0, w1, w2, w3] t
    · rw [hri] at hsn
      simp only [Bool.not_false, if_true] at hsn
      cases o with
      | none =>
        have h0 := ho rfl
        subst h0
        simp only [slN]
        simp only [go_sem, Nat.reduceBEq, Nat.reduceLeDiff, Nat.reduceEqDiff, wrap_succ (k := j) (by omega)]
        intro tk _
        refine ⟨⟨(j + 1, some tk), by simp only; omega, fun h => by cases h⟩, by simp only; omega, ?_⟩
        simp only [hsn]
        simp [Wk, wkT, wkL, look, AV.lo, AV.lo.loL]
      | some tk =>
        simp only [slN]
        simp only [go_sem, Nat.reduceBEq, Nat.reduceLeDiff, wrap_succ (k := j) (by omega)]
        refine ⟨by rw [List.length_map]; omega, by simp, fun t2 _ => ?_⟩
        refine ⟨⟨(j + 1, some t2), by simp only; omega, fun h => by cases h⟩, by simp only; omega, ?_⟩
        simp only [hsn]
        simp [Wk, wkT, wkL, look, AV.lo, AV.lo.loL]
    · rw [hri] at hsn
      simp only [Bool.not_true, Bool.false_eq_true, if_false, List.append_nil] at hsn
      simp only [go_sem, Nat.reduceBEq, wrap_succ (k := j) (by omega)]
      refine ⟨⟨(j + 1, o), by simp only; omega, fun h => by simp only; rw [hsn]; exact ho h⟩, by simp only; omega, ?_⟩
      simp only [hsn]
      cases o <;> simp [Wk, wkT, wkL, look, AV.lo, AV.lo.loL, slN]
  · have hjn : j = b.trials.length := by omega
    subst hjn
    obtain ⟨L, hL⟩ : ∃ L, ((List.range b.trials.length).filter f).map (fun (i : Nat) => (i : Int)) = L := ⟨_, rfl⟩
    rw [hL] at ho ⊢
    cases o with
    | none =>
      have h0 := ho rfl
      subst h0
      simp only [slN]
      simp only [go_sem, Nat.reduceBEq]
      exact retQ_le rfl (PVle.nil .full 1 1) rfl
    | some tk =>
      simp only [slN]
      simp only [go_sem, Nat.reduceBEq, slcS_all (sz := 1) (sz' := 1) (k := .own tk 3 1) (es := L.map fun x => [pi x]) (.inl rfl)]
      exact retQ_le rfl (PVle.sh _ _ _) rfl
end Go.Proofs.Ytaejmbmkkdkliaa
