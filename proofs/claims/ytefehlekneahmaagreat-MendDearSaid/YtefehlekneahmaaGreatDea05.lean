/- Mathematics of mend: costs, shares, spans. Mathematics of mend: whose horse it can be for a bill; the job of which the most is lost. Mathematics of mend: the fewest coins. Mathematics of mend: what the statements need of spans, bills and caps. -/
import Derived.Test.YtefehlekneahmaaGreatDea04
namespace Go.Proofs.YtefehlekneahmaaGreat.Mk.Me
open Go.RowKit Ls
structure Job where
  kind : Int
  hl : Int
  hh : Int
  pl : Int
  ph : Int
  cap : Int
structure EBook where
  mb : MBook
  jobs : List Job
  rate : Int
  extra : List Int
  coins : List Int
def okJob (b : EBook) (j : Job) : Prop := (0 ≤ j.kind ∧ j.kind < (nK b.mb : Int)) ∧ (0 ≤ j.hl ∧ j.hl ≤ j.hh ∧ j.hh ≤ 20 ∧ j.hh - j.hl ≤ 3) ∧ (0 ≤ j.pl ∧ j.pl ≤ j.ph ∧ j.ph ≤ 99 ∧ j.ph - j.pl ≤ 4) ∧ (-1 ≤ j.cap ∧ j.cap ≤ 999)
instance (b : EBook) (j : Job) : Decidable (okJob b j) := by unfold okJob; exact inferInstance
/-- Coins behind one. -/
def okTail : Int → List Int → Prop
  | _, [] => True
  | x, y :: l => (x + 1 ≤ y ∧ y ≤ 240) ∧ okTail y l
instance decTail : ∀ (x : Int) (l : List Int), Decidable (okTail x l)
  | _, [] => isTrue trivial
  | x, y :: l => by
    have := decTail y l
    unfold okTail
    exact inferInstance
def okCoins : List Int → Prop
  | [] => False
  | x :: l => (x :: l).length ≤ 4 ∧ x = 1 ∧ okTail x l
instance (l : List Int) : Decidable (okCoins l) := by
  cases l with
  | nil => exact isFalse fun h => h
  | cons x l => unfold okCoins; exact inferInstance
def okE (b : EBook) : Prop := okBook b.mb ∧ (1 ≤ b.jobs.length ∧ b.jobs.length ≤ 4) ∧ b.extra.length = b.mb.makers.length ∧ (∀ j ∈ b.jobs, okJob b j) ∧ (∀ x ∈ b.extra, 0 ≤ x ∧ x ≤ 50) ∧ (0 ≤ b.rate ∧ b.rate ≤ 20) ∧ okCoins b.coins
instance (b : EBook) : Decidable (okE b) := by unfold okE; exact inferInstance
def mendS (b : EBook) : Nat := b.jobs.foldl (fun s j => s ||| 2 ^ j.kind.toNat) 0
def allE (b : EBook) : List (Nat × Nat) := (whoL b.mb).flatMap fun m => (setsL b.mb m).map fun s => (m, s &&& mendS b)
def known (b : EBook) : List (Nat × Nat) := ddup (allE b)
theorem fold_or2 (i : Nat) : ∀ (l : List Job) (s : Nat), (l.foldl (fun s j => s ||| 2 ^ j.kind.toNat) s).testBit i = (s.testBit i || l.any fun j => decide (j.kind.toNat = i))
  | [], s => by simp
  | j :: l, s => by rw [List.foldl_cons, fold_or2 i l, or_bit, List.any_cons, Bool.or_assoc]
theorem mend_bit {b : EBook} {j : Job} (hj : j ∈ b.jobs) : (mendS b).testBit j.kind.toNat = true := by
  unfold mendS
  rw [fold_or2]
  simp only [Bool.or_eq_true, List.any_eq_true, decide_eq_true_eq]
  exact .inr ⟨j, hj, rfl⟩
theorem mem_known {b : EBook} (h6 : nK b.mb ≤ 6) {m s : Nat} : (m, s) ∈ known b ↔ ∃ c, m ∈ whoL b.mb ∧ CSet b.mb m c ∧ s = c &&& mendS b := by
  unfold known
  rw [ddup_mem]
  unfold allE
  rw [List.mem_flatMap]
  constructor
  · rintro ⟨m', hm, h⟩
    obtain ⟨c, hc, e⟩ := List.mem_map.1 h
    cases e
    exact ⟨c, hm, (mem_sets h6 (mem_who.1 hm).2).1 hc, rfl⟩
  · rintro ⟨c, hm, hc, rfl⟩
    exact ⟨m, hm, List.mem_map.2 ⟨c, (mem_sets h6 (mem_who.1 hm).2).2 hc, rfl⟩⟩
theorem known_who {b : EBook} {t : Nat × Nat} (h : t ∈ known b) : t.1 ∈ whoL b.mb := by
  unfold known at h
  rw [ddup_mem] at h
  unfold allE at h
  obtain ⟨m, hm, h⟩ := List.mem_flatMap.1 h
  obtain ⟨c, hc, rfl⟩ := List.mem_map.1 h
  exact hm
theorem who_known {b : EBook} {m : Nat} (h : m ∈ whoL b.mb) : ∃ s, (m, s) ∈ known b := by
  refine ⟨mustS b.mb m &&& mendS b, ?_⟩
  unfold known
  rw [ddup_mem]
  unfold allE
  exact List.mem_flatMap.2 ⟨m, h, List.mem_map.2 ⟨mustS b.mb m, List.mem_cons_self .., rfl⟩⟩
theorem known_ne {b : EBook} (h : whoL b.mb ≠ []) : known b ≠ [] := by
  obtain ⟨m, l, e⟩ := List.exists_cons_of_ne_nil h
  obtain ⟨s, hs⟩ := who_known (b := b) (m := m) (by rw [e]; exact List.mem_cons_self ..)
  intro e2
  rw [e2] at hs
  exact absurd hs (by simp)
theorem allE_pw (b : EBook) : ((allE b).map (·.1)).Pairwise (· ≤ ·) := by
  have : ∀ l : List Nat, l.Pairwise (· < ·) → ((l.flatMap fun m => (setsL b.mb m).map fun s => (m, s &&& mendS b)).map (·.1)).Pairwise (· ≤ ·) := by
    intro l
    induction l with
    | nil => intro _; simp
    | cons m l ih =>
      intro h
      obtain ⟨h1, h2⟩ := List.pairwise_cons.1 h
      rw [List.flatMap_cons, List.map_append, List.pairwise_append]
      refine ⟨?_, ih h2, ?_⟩
      · rw [List.map_map]
        refine List.pairwise_map.2 (List.pairwise_of_forall fun _ _ => Nat.le_refl _)
      · intro x hx y hy
        obtain ⟨t, ht, rfl⟩ := List.mem_map.1 hx
        obtain ⟨c, -, rfl⟩ := List.mem_map.1 ht
        obtain ⟨u, hu, rfl⟩ := List.mem_map.1 hy
        obtain ⟨m', hm', hu⟩ := List.mem_flatMap.1 hu
        obtain ⟨d, -, rfl⟩ := List.mem_map.1 hu
        exact Nat.le_of_lt (h1 m' hm')
  exact this _ (who_inc b.mb)
theorem known_pw (b : EBook) : ((known b).map (·.1)).Pairwise (· ≤ ·) := (allE_pw b).sublist ((ddup_sub (allE b)).map _)
theorem allE_len {b : EBook} (ho : okC b.mb) : (allE b).length ≤ 320 := by
  have h1 := flat_len (f := fun m => (setsL b.mb m).map fun s => (m, s &&& mendS b)) (m := 64) (fun m => by
    rw [List.length_map]
    exact Nat.le_trans (sets_len b.mb m) (pow_le64 ho)) (whoL b.mb)
  have h2 := who_len b.mb
  have h3 := ho.1.2
  unfold allE
  omega
theorem known_len {b : EBook} (ho : okC b.mb) : (known b).length ≤ 320 := Nat.le_trans (ddup_sub (allE b)).length_le (allE_len ho)
/-- What a job costs in a truth, with so many hours, and parts that cost so much. -/
def extraI (b : EBook) (t : Nat × Nat) (j : Job) : Int := if t.2.testBit j.kind.toNat then 0 else b.extra.getD t.1 0
def costI (b : EBook) (t : Nat × Nat) (j : Job) (h p : Int) : Int := h * b.rate + p + extraI b t j
def paidI (j : Job) (c : Int) : Int := if j.cap = -1 then c else min c j.cap
def shareI (w : Nat) (j : Job) (c : Int) : Int := if w = 0 then c else if w = 1 then paidI j c else c - paidI j c
def sumI (l : List Int) : Int := l.foldl (· + ·) 0
theorem sum_fold : ∀ (l : List Int) (s : Int), l.foldl (· + ·) s = s + sumI l
  | [], s => by simp [sumI]
  | x :: l, s => by
    have h1 := sum_fold l (s + x)
    have h2 := sum_fold l (0 + x)
    have h3 : sumI (x :: l) = l.foldl (· + ·) (0 + x) := rfl
    rw [List.foldl_cons, h1, h3, h2]
    omega
theorem sum_cons (x : Int) (l : List Int) : sumI (x :: l) = x + sumI l := by
  have := sum_fold l (0 + x)
  have h3 : sumI (x :: l) = l.foldl (· + ·) (0 + x) := rfl
  omega
theorem sum_app (l : List Int) (x : Int) : sumI (l ++ [x]) = sumI l + x := by
  unfold sumI
  rw [List.foldl_append]
  rfl
theorem sum_take {l : List Int} {i : Nat} (h : i < l.length) : sumI (l.take (i + 1)) = sumI (l.take i) + l[i] := by
  rw [List.take_succ_eq_append_getElem h, sum_app]
theorem sum_le {α : Type} {f g : α → Int} : ∀ {l : List α}, (∀ x ∈ l, f x ≤ g x) → sumI (l.map f) ≤ sumI (l.map g)
  | [], _ => by simp
  | x :: l, h => by
    have h1 := h x (List.mem_cons_self ..)
    have h2 := sum_le (f := f) (g := g) (l := l) fun y hy => h y (List.mem_cons_of_mem _ hy)
    rw [List.map_cons, List.map_cons, sum_cons, sum_cons]
    omega
theorem sum_bound {m : Int} : ∀ {l : List Int}, (∀ x ∈ l, 0 ≤ x ∧ x ≤ m) → 0 ≤ sumI l ∧ sumI l ≤ l.length * m
  | [], _ => by simp [sumI]
  | x :: l, h => by
    have h1 := h x (List.mem_cons_self ..)
    have h2 := sum_bound (m := m) (l := l) fun y hy => h y (List.mem_cons_of_mem _ hy)
    rw [sum_cons, List.length_cons]
    have e : ((l.length + 1 : Nat) : Int) * m = l.length * m + m := by rw [Int.natCast_add, Int.add_mul]; omega
    omega
theorem paid_mono (j : Job) {c d : Int} (h : c ≤ d) : paidI j c ≤ paidI j d := by
  unfold paidI
  split <;> omega
theorem lost_mono (j : Job) {c d : Int} (h : c ≤ d) : c - paidI j c ≤ d - paidI j d := by
  unfold paidI
  split <;> omega
theorem share_mono (w : Nat) (j : Job) {c d : Int} (h : c ≤ d) : shareI w j c ≤ shareI w j d := by
  unfold shareI
  split
  · exact h
  · split
    · exact paid_mono j h
    · exact lost_mono j h
theorem paid_le {j : Job} (hj : -1 ≤ j.cap) {c : Int} (hc : 0 ≤ c) : 0 ≤ paidI j c ∧ paidI j c ≤ c := by
  unfold paidI
  split <;> omega
theorem share_le {j : Job} (hj : -1 ≤ j.cap) (w : Nat) {c : Int} (hc : 0 ≤ c) : 0 ≤ shareI w j c ∧ shareI w j c ≤ c := by
  have := paid_le hj hc
  unfold shareI
  split
  · omega
  · split <;> omega
theorem extra_le {b : EBook} (ho : okE b) (t : Nat × Nat) (j : Job) : 0 ≤ extraI b t j ∧ extraI b t j ≤ 50 := by
  unfold extraI
  split
  · omega
  · by_cases h : t.1 < b.extra.length
    · rw [List.getD_eq_getElem?_getD, List.getElem?_eq_getElem h]
      exact ho.2.2.2.2.1 _ (List.getElem_mem h)
    · rw [List.getD_eq_getElem?_getD, List.getElem?_eq_none (by omega)]
      decide
theorem mul_mono {a c r : Int} (hr : 0 ≤ r) (h : a ≤ c) : a * r ≤ c * r := Int.mul_le_mul_of_nonneg_right h hr
theorem cost_mono {b : EBook} (hr : 0 ≤ b.rate) (t : Nat × Nat) (j : Job) {h h' p p' : Int} (h1 : h ≤ h') (h2 : p ≤ p') : costI b t j h p ≤ costI b t j h' p' := by
  have := mul_mono hr h1
  unfold costI
  omega
theorem cost_le {b : EBook} (ho : okE b) (t : Nat × Nat) (j : Job) {h p : Int} (h1 : 0 ≤ h ∧ h ≤ 20) (h2 : 0 ≤ p ∧ p ≤ 99) : (0 ≤ h * b.rate ∧ h * b.rate ≤ 400) ∧ 0 ≤ costI b t j h p ∧ costI b t j h p ≤ 549 := by
  have hr := ho.2.2.2.2.2.1
  have h3 := extra_le ho t j
  have h4 : 0 ≤ h * b.rate := Int.mul_nonneg h1.1 hr.1
  have h5 : h * b.rate ≤ 20 * 20 := Int.le_trans (mul_mono hr.1 h1.2) (by omega)
  unfold costI
  omega
/-- The share of some jobs, in a truth, at an end. -/
def endH (lo : Bool) (j : Job) : Int := if lo then j.hl else j.hh
def endPt (lo : Bool) (j : Job) : Int := if lo then j.pl else j.ph
def eachI (lo : Bool) (b : EBook) (w : Nat) (t : Nat × Nat) (j : Job) : Int := shareI w j (costI b t j (endH lo j) (endPt lo j))
def jobsI (lo : Bool) (b : EBook) (w : Nat) (js : List Job) (t : Nat × Nat) : Int := sumI (js.map (eachI lo b w t))
def minF : List Int → Int
  | [] => 0
  | x :: l => l.foldl min x
def maxF : List Int → Int
  | [] => 0
  | x :: l => l.foldl max x
def ampl (lo : Bool) (l : List Int) : Int := if lo then minF l else maxF l
def outI (lo : Bool) (b : EBook) (w : Nat) (js : List Job) : Int := ampl lo ((known b).map (jobsI lo b w js))
theorem foldl_min : ∀ (l : List Int) (x : Int), (l.foldl min x ≤ x ∧ ∀ y ∈ l, l.foldl min x ≤ y) ∧ (l.foldl min x = x ∨ l.foldl min x ∈ l)
  | [], x => by simp
  | y :: l, x => by
    obtain ⟨⟨h1, h2⟩, h3⟩ := foldl_min l (min x y)
    rw [List.foldl_cons]
    refine ⟨⟨by omega, fun z hz => ?_⟩, ?_⟩
    · rcases List.mem_cons.1 hz with rfl | hz
      · omega
      · exact h2 z hz
    · rcases h3 with h3 | h3
      · rw [h3]
        by_cases e : x ≤ y
        · exact .inl (by omega)
        · exact .inr (List.mem_cons.2 (.inl (by omega)))
      · exact .inr (List.mem_cons_of_mem _ h3)
theorem foldl_max : ∀ (l : List Int) (x : Int), (x ≤ l.foldl max x ∧ ∀ y ∈ l, y ≤ l.foldl max x) ∧ (l.foldl max x = x ∨ l.foldl max x ∈ l)
  | [], x => by simp
  | y :: l, x => by
    obtain ⟨⟨h1, h2⟩, h3⟩ := foldl_max l (max x y)
    rw [List.foldl_cons]
    refine ⟨⟨by omega, fun z hz => ?_⟩, ?_⟩
    · rcases List.mem_cons.1 hz with rfl | hz
      · omega
      · exact h2 z hz
    · rcases h3 with h3 | h3
      · rw [h3]
        by_cases e : y ≤ x
        · exact .inl (by omega)
        · exact .inr (List.mem_cons.2 (.inl (by omega)))
      · exact .inr (List.mem_cons_of_mem _ h3)
theorem min_facts {l : List Int} (h : l ≠ []) : minF l ∈ l ∧ ∀ y ∈ l, minF l ≤ y := by
  obtain ⟨x, r, rfl⟩ := List.exists_cons_of_ne_nil h
  obtain ⟨⟨h1, h2⟩, h3⟩ := foldl_min r x
  refine ⟨List.mem_cons.2 h3, fun y hy => ?_⟩
  rcases List.mem_cons.1 hy with rfl | hy
  · exact h1
  · exact h2 y hy
theorem max_facts {l : List Int} (h : l ≠ []) : maxF l ∈ l ∧ ∀ y ∈ l, y ≤ maxF l := by
  obtain ⟨x, r, rfl⟩ := List.exists_cons_of_ne_nil h
  obtain ⟨⟨h1, h2⟩, h3⟩ := foldl_max r x
  refine ⟨List.mem_cons.2 h3, fun y hy => ?_⟩
  rcases List.mem_cons.1 hy with rfl | hy
  · exact h1
  · exact h2 y hy
theorem low_facts {b : EBook} (h : known b ≠ []) (w : Nat) (js : List Job) : (∃ t ∈ known b, outI true b w js = jobsI true b w js t) ∧ ∀ t ∈ known b, outI true b w js ≤ jobsI true b w js t := by
  obtain ⟨h1, h2⟩ := min_facts (l := (known b).map (jobsI true b w js)) (by simpa using h)
  obtain ⟨t, ht, e⟩ := List.mem_map.1 h1
  exact ⟨⟨t, ht, e.symm⟩, fun t ht => h2 _ (List.mem_map.2 ⟨t, ht, rfl⟩)⟩
theorem high_facts {b : EBook} (h : known b ≠ []) (w : Nat) (js : List Job) : (∃ t ∈ known b, outI false b w js = jobsI false b w js t) ∧ ∀ t ∈ known b, jobsI false b w js t ≤ outI false b w js := by
  obtain ⟨h1, h2⟩ := max_facts (l := (known b).map (jobsI false b w js)) (by simpa using h)
  obtain ⟨t, ht, e⟩ := List.mem_map.1 h1
  exact ⟨⟨t, ht, e.symm⟩, fun t ht => h2 _ (List.mem_map.2 ⟨t, ht, rfl⟩)⟩
end Go.Proofs.YtefehlekneahmaaGreat.Mk.Me
namespace Go.Proofs.YtefehlekneahmaaGreat.Mk.Me
open Go.RowKit Ls
/-- Can the bill be just so many pence in a truth? -/
def canF (b : EBook) (t : Nat × Nat) (pence : Int) : List Job → Int → Int → Bool
  | [], lo, hi => decide (lo ≤ pence ∧ pence ≤ hi)
  | j :: js, lo, hi => (List.range (j.hh - j.hl + 1).toNat).any fun (q : Nat) => canF b t pence js (lo + paidI j (costI b t j (j.hl + q) j.pl)) (hi + paidI j (costI b t j (j.hl + q) j.ph))
def canP (b : EBook) (pence : Int) (t : Nat × Nat) : Bool := canF b t pence b.jobs 0 0
/-- What jobs can truly cost. -/
def CostsOk (b : EBook) (t : Nat × Nat) : List Job → List Int → Prop
  | [], [] => True
  | j :: js, c :: cs => (∃ h p, j.hl ≤ h ∧ h ≤ j.hh ∧ j.pl ≤ p ∧ p ≤ j.ph ∧ c = costI b t j h p) ∧ CostsOk b t js cs
  | _, _ => False
def paidL : List Job → List Int → Int
  | j :: js, c :: cs => paidI j c + paidL js cs
  | _, _ => 0
theorem paid_mid {j : Job} {x lo hi c d : Int} (h1 : lo ≤ hi) (h2 : c ≤ d) (h3 : lo + paidI j c ≤ x) (h4 : x ≤ hi + paidI j d) : ∃ e y, c ≤ e ∧ e ≤ d ∧ lo ≤ y ∧ y ≤ hi ∧ x = y + paidI j e := by
  by_cases h5 : x ≤ hi + paidI j c
  · exact ⟨c, x - paidI j c, Int.le_refl _, h2, by omega, by omega, by omega⟩
  · refine ⟨x - hi, hi, ?_, ?_, h1, Int.le_refl _, ?_⟩ <;> (unfold paidI at *; split at h4 <;> omega)
theorem can_iff {b : EBook} {t : Nat × Nat} {pence : Int} (hr : 0 ≤ b.rate) : ∀ (js : List Job) (lo hi : Int), lo ≤ hi → (∀ j ∈ js, j.hl ≤ j.hh ∧ j.pl ≤ j.ph) → (canF b t pence js lo hi = true ↔ ∃ x cs, lo ≤ x ∧ x ≤ hi ∧ CostsOk b t js cs ∧ pence = x + paidL js cs)
  | [], lo, hi, hlh, _ => by
    unfold canF
    rw [decide_eq_true_eq]
    constructor
    · rintro ⟨h1, h2⟩
      exact ⟨pence, [], h1, h2, trivial, by simp [paidL]⟩
    · rintro ⟨x, cs, h1, h2, h3, h4⟩
      cases cs with
      | nil => simp only [paidL] at h4; omega
      | cons => exact absurd h3 (by simp [CostsOk])
  | j :: js, lo, hi, hlh, hj => by
    obtain ⟨hj1, hj2⟩ := hj j (List.mem_cons_self ..)
    unfold canF
    rw [List.any_eq_true]
    have hc : ∀ q : Int, costI b t j q j.pl ≤ costI b t j q j.ph := fun q => cost_mono hr t j (Int.le_refl _) hj2
    have hc2 : ∀ q : Int, lo + paidI j (costI b t j q j.pl) ≤ hi + paidI j (costI b t j q j.ph) := fun q => by
      have := paid_mono j (hc q)
      omega
    constructor
    · rintro ⟨q, hq, h⟩
      have hq := List.mem_range.1 hq
      obtain ⟨x, cs, h1, h2, h3, h4⟩ := (can_iff hr js _ _ (hc2 (j.hl + q)) fun j hjm => hj j (List.mem_cons_of_mem _ hjm)).1 h
      obtain ⟨e, y, h5, h6, h7, h8, h9⟩ := paid_mid hlh (hc (j.hl + q)) h1 h2
      refine ⟨y, e :: cs, h7, h8, ⟨⟨j.hl + q, e - (j.hl + q) * b.rate - extraI b t j, by omega, by omega, ?_, ?_, ?_⟩, h3⟩, ?_⟩
      · unfold costI at h5; omega
      · unfold costI at h6; omega
      · unfold costI; omega
      · simp only [paidL]; omega
    · rintro ⟨x, cs, h1, h2, h3, h4⟩
      cases cs with
      | nil => exact absurd h3 (by simp [CostsOk])
      | cons c cs =>
        obtain ⟨⟨h, p, g1, g2, g3, g4, rfl⟩, h3⟩ := h3
        refine ⟨(h - j.hl).toNat, List.mem_range.2 (by omega), ?_⟩
        have e : j.hl + ((h - j.hl).toNat : Int) = h := by omega
        rw [e]
        refine (can_iff hr js _ _ (hc2 h) fun j hjm => hj j (List.mem_cons_of_mem _ hjm)).2 ⟨x + paidI j (costI b t j h p), cs, ?_, ?_, h3, ?_⟩
        · have := paid_mono j (cost_mono hr t j (Int.le_refl h) g3 : costI b t j h j.pl ≤ costI b t j h p)
          omega
        · have := paid_mono j (cost_mono hr t j (Int.le_refl h) g4 : costI b t j h p ≤ costI b t j h j.ph)
          omega
        · simp only [paidL] at h4; omega
/-- All makers, each once, of whom something is so. -/
def whoF (P : Nat × Nat → Bool) (acc : List Nat) (t : Nat × Nat) : List Nat := if t.1 ∉ acc ∧ P t = true then acc ++ [t.1] else acc
def whosF (P : Nat × Nat → Bool) (l : List (Nat × Nat)) : List Nat := l.foldl (whoF P) []
theorem whosF_next (P : Nat × Nat → Bool) {l : List (Nat × Nat)} {i : Nat} (h : i < l.length) : whosF P (l.take (i + 1)) = if l[i].1 ∉ whosF P (l.take i) ∧ P l[i] = true then whosF P (l.take i) ++ [l[i].1] else whosF P (l.take i) := by
  unfold whosF
  rw [foldl_take _ _ _ _ h]
  rfl
theorem whosF_facts (P : Nat × Nat → Bool) : ∀ (l : List (Nat × Nat)) (acc : List Nat), (∀ x, x ∈ l.foldl (whoF P) acc ↔ x ∈ acc ∨ ∃ t ∈ l, t.1 = x ∧ P t = true) ∧ (acc.Pairwise (· < ·) → (l.map (·.1)).Pairwise (· ≤ ·) → (∀ x ∈ acc, ∀ t ∈ l, x ≤ t.1) → (l.foldl (whoF P) acc).Pairwise (· < ·))
  | [], acc => ⟨by simp, fun h _ _ => h⟩
  | t :: l, acc => by
    obtain ⟨h1, h2⟩ := whosF_facts P l (whoF P acc t)
    rw [List.foldl_cons]
    have hmem : ∀ x, x ∈ whoF P acc t ↔ x ∈ acc ∨ (t.1 = x ∧ P t = true) := fun x => by
      unfold whoF
      split
      · rename_i h
        rw [List.mem_append, List.mem_singleton]
        constructor
        · rintro (h3 | rfl)
          · exact .inl h3
          · exact .inr ⟨rfl, h.2⟩
        · rintro (h3 | ⟨rfl, -⟩)
          · exact .inl h3
          · exact .inr rfl
      · rename_i h
        constructor
        · exact .inl
        · rintro (h3 | ⟨rfl, h4⟩)
          · exact h3
          · exact Classical.byContradiction fun hn => h ⟨hn, h4⟩
    refine ⟨fun x => ?_, fun ha hp hb => ?_⟩
    · rw [h1, hmem, or_assoc]
      constructor
      · rintro (h | h | ⟨u, hu, e⟩)
        · exact .inl h
        · exact .inr ⟨t, List.mem_cons_self .., h⟩
        · exact .inr ⟨u, List.mem_cons_of_mem _ hu, e⟩
      · rintro (h | ⟨u, hu, e⟩)
        · exact .inl h
        · rcases List.mem_cons.1 hu with rfl | hu
          · exact .inr (.inl e)
          · exact .inr (.inr ⟨u, hu, e⟩)
    · rw [List.map_cons] at hp
      obtain ⟨hp1, hp2⟩ := List.pairwise_cons.1 hp
      refine h2 ?_ hp2 ?_
      · unfold whoF
        split
        · rename_i h
          rw [List.pairwise_append]
          refine ⟨ha, List.pairwise_singleton .., fun x hx y hy => ?_⟩
          rw [List.mem_singleton.1 hy]
          have h3 := hb x hx t (List.mem_cons_self ..)
          have h4 : x ≠ t.1 := fun e => h.1 (e ▸ hx)
          omega
        · exact ha
      · intro x hx u hu
        rcases (hmem x).1 hx with h | ⟨rfl, -⟩
        · exact hb x h u (List.mem_cons_of_mem _ hu)
        · exact hp1 _ (List.mem_map.2 ⟨u, hu, rfl⟩)
def whoseL (b : EBook) (pence : Int) : List Nat := whosF (canP b pence) (known b)
theorem mem_whose {b : EBook} {pence : Int} {m : Nat} : m ∈ whoseL b pence ↔ ∃ s, (m, s) ∈ known b ∧ canP b pence (m, s) = true := by
  unfold whoseL whosF
  rw [(whosF_facts _ _ _).1]
  constructor
  · rintro (h | ⟨⟨m', s⟩, ht, rfl, hp⟩)
    · exact absurd h (by simp)
    · exact ⟨s, ht, hp⟩
  · rintro ⟨s, hs, hp⟩
    exact .inr ⟨_, hs, rfl, hp⟩
theorem whose_inc (b : EBook) (pence : Int) : (whoseL b pence).Pairwise (· < ·) := by
  unfold whoseL whosF
  exact (whosF_facts _ _ _).2 (by simp) (known_pw b) (by simp)
theorem whose_who {b : EBook} {pence : Int} {m : Nat} (h : m ∈ whoseL b pence) : m ∈ whoL b.mb := by
  obtain ⟨s, hs, -⟩ := mem_whose.1 h
  exact known_who hs
theorem whose_len (b : EBook) (pence : Int) : (whoseL b pence).length ≤ (known b).length := by
  have : ∀ (P : Nat × Nat → Bool) (l : List (Nat × Nat)) (acc : List Nat), (l.foldl (whoF P) acc).length ≤ acc.length + l.length := by
    intro P l
    induction l with
    | nil => intro acc; simp
    | cons t l ih =>
      intro acc
      have := ih (whoF P acc t)
      have h2 : (whoF P acc t).length ≤ acc.length + 1 := by
        unfold whoF
        split
        · simp
        · omega
      rw [List.foldl_cons, List.length_cons]
      omega
  have h := this (canP b pence) (known b) []
  rwa [List.length_nil, Nat.zero_add] at h
/-- How much is lost of a job, at most; the first job of which that is most. -/
def lossI (b : EBook) (j : Job) : Int := outI false b 2 [j]
def dearF (f : Nat → Int) (n : Nat) : Nat × Int := (List.range n).foldl (fun s k => if s.2 < f k then (k, f k) else s) (0, 0)
theorem dearF_next (f : Nat → Int) (n : Nat) : dearF f (n + 1) = if (dearF f n).2 < f n then (n, f n) else dearF f n := by
  unfold dearF
  rw [List.range_succ, List.foldl_append]
  rfl
theorem dearF_facts (f : Nat → Int) : ∀ n, 0 ≤ (dearF f n).2 ∧ (∀ k, k < n → f k ≤ (dearF f n).2) ∧ (((dearF f n).1 = 0 ∧ (dearF f n).2 = 0) ∨ ((dearF f n).1 < n ∧ (dearF f n).2 = f (dearF f n).1 ∧ 0 < (dearF f n).2 ∧ ∀ k, k < (dearF f n).1 → f k < (dearF f n).2))
  | 0 => ⟨by simp [dearF], fun k h => absurd h (by omega), .inl ⟨rfl, rfl⟩⟩
  | n + 1 => by
    obtain ⟨h1, h2, h3⟩ := dearF_facts f n
    rw [dearF_next]
    split
    · rename_i h
      refine ⟨by simp only; omega, fun k hk => ?_, .inr ⟨by simp only; omega, rfl, by simp only; omega, fun k hk => ?_⟩⟩
      · by_cases e : k = n
        · subst e; exact Int.le_refl _
        · have := h2 k (by omega); simp only; omega
      · have := h2 k (by simp only at hk; omega); simp only; omega
    · rename_i h
      refine ⟨h1, fun k hk => ?_, ?_⟩
      · by_cases e : k = n
        · subst e; omega
        · exact h2 k (by omega)
      · rcases h3 with h3 | ⟨h3, h4, h5, h6⟩
        · exact .inl h3
        · exact .inr ⟨by omega, h4, h5, h6⟩
end Go.Proofs.YtefehlekneahmaaGreat.Mk.Me
namespace Go.Proofs.YtefehlekneahmaaGreat.Mk.Me
open Go.RowKit Ls
def zeroP : List Int := [0, 0, 0, 0]
def addAt : List Int → Nat → List Int
  | [], _ => []
  | x :: l, 0 => (x + 1) :: l
  | x :: l, n + 1 => x :: addAt l n
def subAt : List Int → Nat → List Int
  | [], _ => []
  | x :: l, 0 => (x - 1) :: l
  | x :: l, n + 1 => x :: subAt l n
def betB (p q : List Int) : Bool := if sumI p = sumI q then lexB p q else decide (sumI p < sumI q)
/-- What coins are worth, so many of each. -/
def dotI : List Int → List Int → Int
  | c :: cs, x :: xs => x * c + dotI cs xs
  | _, _ => 0
theorem addAt_len : ∀ (l : List Int) (n : Nat), (addAt l n).length = l.length
  | [], _ => rfl
  | _ :: _, 0 => rfl
  | x :: l, n + 1 => by simp [addAt, addAt_len l n]
theorem addAt_sum : ∀ (l : List Int) (n : Nat), n < l.length → sumI (addAt l n) = sumI l + 1
  | [], _, h => absurd h (by simp)
  | x :: l, 0, _ => by rw [addAt, sum_cons, sum_cons]; omega
  | x :: l, n + 1, h => by
    have := addAt_sum l n (by simpa using h)
    rw [addAt, sum_cons, sum_cons]
    omega
theorem addAt_dot : ∀ (cs l : List Int) (n : Nat) (h : n < cs.length), n < l.length → dotI cs (addAt l n) = dotI cs l + cs[n]
  | [], _, _, h, _ => absurd h (by simp)
  | _ :: _, [], _, _, h => absurd h (by simp)
  | c :: cs, x :: l, 0, _, _ => by simp only [addAt, dotI, List.getElem_cons_zero, Int.add_mul]; omega
  | c :: cs, x :: l, n + 1, h, h2 => by
    have := addAt_dot cs l n (by simpa using h) (by simpa using h2)
    simp only [addAt, dotI, List.getElem_cons_succ]
    omega
theorem sub_add : ∀ (l : List Int) (n : Nat), addAt (subAt l n) n = l
  | [], _ => rfl
  | x :: l, 0 => by simp [subAt, addAt]
  | x :: l, n + 1 => by simp [subAt, addAt, sub_add l n]
theorem subAt_len : ∀ (l : List Int) (n : Nat), (subAt l n).length = l.length
  | [], _ => rfl
  | _ :: _, 0 => rfl
  | x :: l, n + 1 => by simp [subAt, subAt_len l n]
theorem lexB_add : ∀ (p q : List Int) (n : Nat), p.length = q.length → lexB (addAt p n) (addAt q n) = lexB p q
  | [], [], _, _ => rfl
  | [], _ :: _, _, h => absurd h (by simp)
  | _ :: _, [], _, h => absurd h (by simp)
  | x :: p, y :: q, 0, _ => by
    simp only [addAt, lexB]
    by_cases e : x = y
    · rw [e, if_pos rfl, if_pos rfl]
    · have e2 : ¬ x + 1 = y + 1 := by omega
      simp only [e, e2, if_false]
      exact decide_eq_decide.2 (by omega)
  | x :: p, y :: q, n + 1, h => by
    have := lexB_add p q n (by simpa using h)
    simp only [addAt, lexB, this]
theorem bet_add {p q : List Int} {n : Nat} (hl : p.length = q.length) (hn : n < p.length) : betB (addAt p n) (addAt q n) = betB p q := by
  unfold betB
  rw [addAt_sum p n hn, addAt_sum q n (by omega), lexB_add p q n hl]
  by_cases e : sumI p = sumI q
  · rw [if_pos e, if_pos (by omega)]
  · rw [if_neg e, if_neg (by omega)]
    exact decide_eq_decide.2 (by omega)
theorem bet_irr (p : List Int) : betB p p = false := by unfold betB; rw [if_pos rfl, lexB_irr]
theorem bet_trans {a b c : List Int} (h : betB a b = true) (k : betB b c = true) : betB a c = true := by
  unfold betB at *
  split at h
  · rename_i e1
    split at k
    · rename_i e2
      rw [if_pos (e1.trans e2)]
      exact lexB_trans h k
    · rename_i e2
      have := of_decide_eq_true k
      rw [if_neg (by omega)]
      exact decide_eq_true (by omega)
  · rename_i e1
    have h := of_decide_eq_true h
    split at k
    · rename_i e2
      rw [if_neg (by omega)]
      exact decide_eq_true (by omega)
    · rename_i e2
      have := of_decide_eq_true k
      rw [if_neg (by omega)]
      exact decide_eq_true (by omega)
theorem bet_total {a b : List Int} (h : betB a b = false) (k : betB b a = false) : a = b := by
  unfold betB at *
  by_cases e : sumI a = sumI b
  · rw [if_pos e] at h
    rw [if_pos e.symm] at k
    exact lexB_total h k
  · rw [if_neg e] at h
    rw [if_neg (fun e2 => e e2.symm)] at k
    have h := of_decide_eq_false h
    have k := of_decide_eq_false k
    omega
/-- Not after, and not after: not after. -/
theorem bet_le {p q r : List Int} (h : betB q p = false) (k : betB r q = false) : betB r p = false := by
  rw [Bool.eq_false_iff]
  intro hr
  cases hp : betB p q
  · have := bet_total h hp
    subst this
    rw [hr] at k
    cases k
  · rw [bet_trans hr hp] at k
    cases k
theorem bet_sum {p q : List Int} (h : betB q p = false) : sumI p ≤ sumI q := by
  unfold betB at h
  split at h
  · omega
  · have := of_decide_eq_false h
    omega
/-- The best purse for a sum, out of the best ones for less. -/
def bestF (coins : List Int) (ps : Nat → List Int) (d : Nat) (best : List Int) (n : Nat) : List Int :=
  if coins.getD n 0 ≤ d then (if best = zeroP ∨ betB (addAt (ps (d - (coins.getD n 0).toNat)) n) best = true then addAt (ps (d - (coins.getD n 0).toNat)) n else best) else best
def bestC (coins : List Int) (ps : Nat → List Int) (d n : Nat) : List Int := (List.range n).foldl (bestF coins ps d) zeroP
theorem bestC_next (coins : List Int) (ps : Nat → List Int) (d n : Nat) : bestC coins ps d (n + 1) = bestF coins ps d (bestC coins ps d n) n := by
  unfold bestC
  rw [List.range_succ, List.foldl_append]
  rfl
def purL (coins : List Int) : Nat → List (List Int)
  | 0 => [zeroP]
  | d + 1 => purL coins d ++ [bestC coins (fun i => (purL coins d).getD i zeroP) (d + 1) coins.length]
def purP (coins : List Int) (d : Nat) : List Int := (purL coins d).getD d zeroP
theorem purL_len (coins : List Int) : ∀ d, (purL coins d).length = d + 1
  | 0 => rfl
  | d + 1 => by rw [purL, List.length_append, purL_len coins d]; rfl
theorem purL_get (coins : List Int) : ∀ (d i : Nat), i ≤ d → (purL coins d).getD i zeroP = purP coins i
  | 0, i, h => by rw [show i = 0 by omega]; rfl
  | d + 1, i, h => by
    by_cases e : i = d + 1
    · rw [e]; rfl
    · have h2 : i < (purL coins d).length := by rw [purL_len]; omega
      rw [purL, List.getD_eq_getElem?_getD, List.getElem?_append_left h2, ← List.getD_eq_getElem?_getD]
      exact purL_get coins d i (by omega)
theorem bestC_congr {coins : List Int} {ps qs : Nat → List Int} {d : Nat} (hc : ∀ n, n < coins.length → 1 ≤ coins.getD n 0) (h : ∀ i, i < d → ps i = qs i) (hd : 1 ≤ d) : ∀ n, n ≤ coins.length → bestC coins ps d n = bestC coins qs d n
  | 0, _ => rfl
  | n + 1, hn => by
    rw [bestC_next, bestC_next, bestC_congr hc h hd n (by omega)]
    have := hc n (by omega)
    unfold bestF
    rw [h (d - (coins.getD n 0).toNat) (by omega)]
theorem purP_next {coins : List Int} (hc : ∀ n, n < coins.length → 1 ≤ coins.getD n 0) (d : Nat) : purP coins (d + 1) = bestC coins (purP coins) (d + 1) coins.length := by
  have h1 : (purL coins (d + 1)).getD (d + 1) zeroP = bestC coins (fun i => (purL coins d).getD i zeroP) (d + 1) coins.length := by
    rw [purL, List.getD_eq_getElem?_getD, List.getElem?_append_right (by rw [purL_len]; exact Nat.le_refl _), purL_len]
    simp
  unfold purP at *
  rw [h1]
  exact bestC_congr hc (fun i hi => purL_get coins d i (by omega)) (by omega) _ (Nat.le_refl _)
/-- A way to pay a sum with coins. -/
structure Pays (coins q : List Int) (d : Nat) : Prop where
  len : q.length = 4
  pos : ∀ n, n < 4 → 0 ≤ q.getD n 0
  out : ∀ n, coins.length ≤ n → q.getD n 0 = 0
  dot : dotI coins q = d
structure Coins (coins : List Int) : Prop where
  ne : 1 ≤ coins.length
  le : coins.length ≤ 4
  one : coins.getD 0 0 = 1
  pos : ∀ n, n < coins.length → 1 ≤ coins.getD n 0
  inc : ∀ n m, n < m → m < coins.length → coins.getD n 0 < coins.getD m 0
  top : ∀ n, n < coins.length → coins.getD n 0 ≤ 240
theorem addAt_get : ∀ (l : List Int) (n m : Nat), n < l.length → (addAt l n).getD m 0 = if m = n then l.getD m 0 + 1 else l.getD m 0
  | [], _, _, h => absurd h (by simp)
  | x :: l, 0, 0, _ => by simp [addAt]
  | x :: l, 0, m + 1, _ => by simp [addAt]
  | x :: l, n + 1, 0, _ => by simp [addAt]
  | x :: l, n + 1, m + 1, h => by
    have := addAt_get l n m (by simpa using h)
    simpa [addAt] using this
theorem Pays.add {coins q : List Int} {d n : Nat} (hc : Coins coins) (h : Pays coins q d) (hn : n < coins.length) : Pays coins (addAt q n) (d + (coins.getD n 0).toNat) := by
  have h4 := hc.le
  have hl := h.len
  have hp := hc.pos n hn
  refine ⟨by rw [addAt_len]; exact hl, fun m hm => ?_, fun m hm => ?_, ?_⟩
  · have := h.pos m hm
    rw [addAt_get q n m (by omega)]
    split <;> omega
  · rw [addAt_get q n m (by omega), if_neg (by omega)]
    exact h.out m hm
  · rw [addAt_dot coins q n hn (by omega), h.dot]
    have e : coins[n] = coins.getD n 0 := by rw [List.getD_eq_getElem?_getD, List.getElem?_eq_getElem hn]; rfl
    omega
theorem Pays.sub {coins q : List Int} {d n : Nat} (hc : Coins coins) (h : Pays coins q d) (hn : n < coins.length) (h1 : 1 ≤ q.getD n 0) : (coins.getD n 0).toNat ≤ d ∧ Pays coins (subAt q n) (d - (coins.getD n 0).toNat) := by
  have h4 := hc.le
  have hl := h.len
  have hp := hc.pos n hn
  have hsl := subAt_len q n
  have hg : ∀ m, q.getD m 0 = if m = n then (subAt q n).getD m 0 + 1 else (subAt q n).getD m 0 := fun m => by
    have := addAt_get (subAt q n) n m (by omega)
    rwa [sub_add] at this
  have hpos : ∀ m, m < 4 → 0 ≤ (subAt q n).getD m 0 := fun m hm => by
    have e := hg m
    have := h.pos m hm
    split at e
    · rename_i e2
      subst e2
      omega
    · omega
  have hdot : dotI coins q = dotI coins (subAt q n) + coins.getD n 0 := by
    have := addAt_dot coins (subAt q n) n hn (by omega)
    rw [sub_add] at this
    rw [this, List.getD_eq_getElem?_getD, List.getElem?_eq_getElem hn]
    rfl
  have hnn : ∀ (cs l : List Int), (∀ n, n < cs.length → 1 ≤ cs.getD n 0) → (∀ n, n < l.length → 0 ≤ l.getD n 0) → 0 ≤ dotI cs l := by
    intro cs
    induction cs with
    | nil => intro l _ _; simp [dotI]
    | cons c cs ih =>
      intro l h1 h2
      cases l with
      | nil => simp [dotI]
      | cons x l =>
        have a1 := h1 0 (by simp)
        have a2 := h2 0 (by simp)
        have := ih l (fun n hn => h1 (n + 1) (by simpa using hn)) (fun n hn => h2 (n + 1) (by simpa using hn))
        have a1 : (1 : Int) ≤ c := by simpa using a1
        have := Int.mul_nonneg (show 0 ≤ x by simpa using a2) (show 0 ≤ c by omega)
        simp only [dotI]
        omega
  have := hnn coins (subAt q n) hc.pos (fun m hm => hpos m (by omega))
  have hd := h.dot
  refine ⟨by omega, by omega, hpos, fun m hm => ?_, by omega⟩
  have e := hg m
  rw [if_neg (by omega), h.out m hm] at e
  exact e.symm
theorem dot_zero : ∀ (cs l : List Int), (∀ n, n < l.length → l.getD n 0 = 0) → dotI cs l = 0
  | [], _, _ => by simp [dotI]
  | _ :: _, [], _ => by simp [dotI]
  | c :: cs, x :: l, h => by
    have h1 : x = 0 := by simpa using h 0 (by simp)
    have h2 := dot_zero cs l fun n hn => by simpa using h (n + 1) (by simpa using hn)
    simp [dotI, h1, h2]
theorem pays_zero (coins : List Int) : Pays coins zeroP 0 := by
  have hz : ∀ n, zeroP.getD n 0 = 0 := fun n => by
    unfold zeroP
    match n with
    | 0 => rfl
    | 1 => rfl
    | 2 => rfl
    | 3 => rfl
    | n + 4 => rfl
  exact ⟨rfl, fun n _ => by rw [hz]; exact Int.le_refl _, fun n _ => hz n, dot_zero coins zeroP fun n _ => hz n⟩
theorem list4_ext {p q : List Int} (hp : p.length = 4) (hq : q.length = 4) (h : ∀ n, n < 4 → p.getD n 0 = q.getD n 0) : p = q := by
  refine List.ext_getElem (by omega) fun n h1 h2 => ?_
  have := h n (by omega)
  rw [List.getD_eq_getElem?_getD, List.getD_eq_getElem?_getD, List.getElem?_eq_getElem h1, List.getElem?_eq_getElem h2] at this
  exact this
/-- The best purse is one, and no other one is better. -/
structure BestP (coins p : List Int) (d : Nat) : Prop where
  pays : Pays coins p d
  best : ∀ q, Pays coins q d → betB q p = false
theorem sum_nn {l : List Int} (h : ∀ n, n < l.length → 0 ≤ l.getD n 0) : 0 ≤ sumI l := by
  induction l with
  | nil => simp [sumI]
  | cons x l ih =>
    have h1 : 0 ≤ x := by simpa using h 0 (by simp)
    have := ih fun n hn => by simpa using h (n + 1) (by simpa using hn)
    rw [sum_cons]
    omega
theorem bestC_inv {coins : List Int} (hc : Coins coins) {d : Nat} (hd : 1 ≤ d) (ih : ∀ i, i < d → BestP coins (purP coins i) i) : ∀ n, n ≤ coins.length → 
    (bestC coins (purP coins) d n = zeroP ∧ ∀ k, k < n → (d : Int) < coins.getD k 0) ∨ (Pays coins (bestC coins (purP coins) d n) d ∧ bestC coins (purP coins) d n ≠ zeroP ∧ ∀ k, k < n → coins.getD k 0 ≤ d → betB (addAt (purP coins (d - (coins.getD k 0).toNat)) k) (bestC coins (purP coins) d n) = false)
  | 0, _ => .inl ⟨rfl, fun k h => absurd h (by omega)⟩
  | n + 1, hn => by
    have h1 := bestC_inv hc hd ih n (by omega)
    rw [bestC_next]
    have hp := hc.pos n (by omega)
    have h4 := hc.le
    unfold bestF
    by_cases hle : coins.getD n 0 ≤ d
    rotate_left
    · rw [if_neg hle]
      rcases h1 with ⟨h1, h2⟩ | ⟨h1, h2, h3⟩
      · refine .inl ⟨h1, fun k hk => ?_⟩
        by_cases e : k = n
        · rw [e]; omega
        · exact h2 k (by omega)
      · refine .inr ⟨h1, h2, fun k hk hk2 => ?_⟩
        by_cases e : k = n
        · rw [e] at hk2; omega
        · exact h3 k (by omega) hk2
    rw [if_pos hle]
    have hb := ih (d - (coins.getD n 0).toNat) (by omega)
    have hcand := hb.pays.add hc (show n < coins.length by omega)
    rw [show d - (coins.getD n 0).toNat + (coins.getD n 0).toNat = d by omega] at hcand
    have hcne : addAt (purP coins (d - (coins.getD n 0).toNat)) n ≠ zeroP := fun e => by
      have h5 := addAt_sum (purP coins (d - (coins.getD n 0).toNat)) n (by rw [hb.pays.len]; omega)
      have h6 := sum_nn (l := purP coins (d - (coins.getD n 0).toNat)) fun m hm => hb.pays.pos m (by rw [hb.pays.len] at hm; exact hm)
      rw [e] at h5
      have h7 : sumI zeroP = 0 := rfl
      omega
    by_cases hcase : bestC coins (purP coins) d n = zeroP ∨ betB (addAt (purP coins (d - (coins.getD n 0).toNat)) n) (bestC coins (purP coins) d n) = true
    · rw [if_pos hcase]
      refine .inr ⟨hcand, hcne, fun k hk hk2 => ?_⟩
      by_cases e : k = n
      · rw [e]; exact bet_irr _
      · rcases h1 with ⟨h1, h2⟩ | ⟨h1, h2, h3⟩
        · have := h2 k (by omega); omega
        · have h5 := h3 k (by omega) hk2
          rcases hcase with h6 | h6
          · exact absurd h6 h2
          · refine bet_le ?_ h5
            rw [Bool.eq_false_iff]
            intro h7
            have := bet_trans h6 h7
            rw [bet_irr] at this
            cases this
    · rw [if_neg hcase]
      rcases h1 with ⟨h1, h2⟩ | ⟨h1, h2, h3⟩
      · exact absurd (.inl h1) hcase
      · refine .inr ⟨h1, h2, fun k hk hk2 => ?_⟩
        by_cases e : k = n
        · rw [e, Bool.eq_false_iff]
          exact fun h => hcase (.inr h)
        · exact h3 k (by omega) hk2
theorem pur_best {coins : List Int} (hc : Coins coins) (d : Nat) : BestP coins (purP coins d) d := by
  induction d using Nat.strongRecOn with
  | _ d ih =>
    cases d with
    | zero =>
      refine ⟨pays_zero coins, fun q hq => ?_⟩
      have hz : q = zeroP := by
        refine list4_ext hq.len rfl fun n hn => ?_
        have e0 : zeroP.getD n 0 = 0 := by
          have hn4 : n = 0 ∨ n = 1 ∨ n = 2 ∨ n = 3 := by omega
          rcases hn4 with rfl | rfl | rfl | rfl <;> rfl
        rw [e0]
        by_cases hl : n < coins.length
        · have h1 := hq.pos n hn
          by_cases h2 : 1 ≤ q.getD n 0
          · have h3 := (hq.sub hc hl h2).1
            have := hc.pos n hl
            omega
          · omega
        · exact hq.out n (by omega)
      rw [hz]
      exact bet_irr _
    | succ d =>
      rw [purP_next hc.pos d]
      have h0 := hc.one
      rcases bestC_inv hc (d := d + 1) (by omega) (fun i hi => ih i hi) coins.length (Nat.le_refl _) with ⟨-, h2⟩ | ⟨h1, h2, h3⟩
      · have := h2 0 hc.ne
        omega
      refine ⟨h1, fun q hq => ?_⟩
      obtain ⟨n, hn, hq1⟩ : ∃ n, n < coins.length ∧ 1 ≤ q.getD n 0 := by
        refine Classical.byContradiction fun hno => ?_
        have hz : ∀ n, n < q.length → q.getD n 0 = 0 := fun n hn => by
          by_cases hl : n < coins.length
          · have := hq.pos n (by rw [hq.len] at hn; exact hn)
            by_cases h5 : 1 ≤ q.getD n 0
            · exact absurd ⟨n, hl, h5⟩ hno
            · omega
          · exact hq.out n (by omega)
        have := dot_zero coins q hz
        have := hq.dot
        omega
      obtain ⟨h5, h6⟩ := hq.sub hc hn hq1
      have hp := hc.pos n hn
      have h4 := hc.le
      have hb := ih (d + 1 - (coins.getD n 0).toNat) (by omega)
      have h7 := hb.best _ h6
      have h8 : betB (addAt (subAt q n) n) (addAt (purP coins (d + 1 - (coins.getD n 0).toNat)) n) = false := by
        rw [bet_add (by rw [h6.len, hb.pays.len]) (by rw [h6.len]; omega)]
        exact h7
      rw [sub_add] at h8
      exact bet_le (h3 n hn (by omega)) h8
end Go.Proofs.YtefehlekneahmaaGreat.Mk.Me
namespace Go.Proofs.YtefehlekneahmaaGreat.Mk.Me
open Go.RowKit Ls
theorem outI_le {b x : EBook} {lo : Bool} {w v : Nat} {js ks : List Job} (hk : known x = known b) (h : ∀ t ∈ known b, jobsI lo b w js t ≤ jobsI lo x v ks t) : outI lo b w js ≤ outI lo x v ks := by
  by_cases hne : known b = []
  · unfold outI
    rw [hk, hne]
    exact Int.le_refl _
  have hne2 : known x ≠ [] := by rw [hk]; exact hne
  cases lo
  · obtain ⟨⟨t, ht, e⟩, -⟩ := high_facts hne w js
    have h2 := (high_facts hne2 v ks).2 t (by rw [hk]; exact ht)
    have := h t ht
    omega
  · obtain ⟨⟨t, ht, e⟩, -⟩ := low_facts hne2 v ks
    rw [hk] at ht
    have h2 := (low_facts hne w js).2 t ht
    have := h t ht
    omega
theorem outI_eq {b x : EBook} {lo : Bool} {w v : Nat} {js ks : List Job} (hk : known x = known b) (h : ∀ t ∈ known b, jobsI lo b w js t = jobsI lo x v ks t) : outI lo b w js = outI lo x v ks := by
  unfold outI
  rw [hk]
  exact congrArg (ampl lo) (List.map_congr_left h)
theorem each_le {b : EBook} (hr : 0 ≤ b.rate) {j : Job} (hj : j.hl ≤ j.hh ∧ j.pl ≤ j.ph) (w : Nat) (t : Nat × Nat) : eachI true b w t j ≤ eachI false b w t j := share_mono w j (cost_mono hr t j hj.1 hj.2)
theorem jobs_le {b : EBook} (hr : 0 ≤ b.rate) {js : List Job} (hj : ∀ j ∈ js, j.hl ≤ j.hh ∧ j.pl ≤ j.ph) (w : Nat) (t : Nat × Nat) : jobsI true b w js t ≤ jobsI false b w js t := sum_le fun j hjm => each_le hr (hj j hjm) w t
theorem ends_le {b : EBook} (hr : 0 ≤ b.rate) (hne : known b ≠ []) {js : List Job} (hj : ∀ j ∈ js, j.hl ≤ j.hh ∧ j.pl ≤ j.ph) (w : Nat) : outI true b w js ≤ outI false b w js := by
  obtain ⟨⟨t, ht, e⟩, -⟩ := low_facts hne w js
  have h1 := (high_facts hne w js).2 t ht
  have h2 := jobs_le hr hj w t
  omega
theorem okE.span {b : EBook} (h : okE b) {j : Job} (hj : j ∈ b.jobs) : j.hl ≤ j.hh ∧ j.pl ≤ j.ph := by
  obtain ⟨-, h1, h2, -⟩ := h.2.2.2.1 j hj
  exact ⟨h1.2.1, h2.2.1⟩
theorem okE.rate0 {b : EBook} (h : okE b) : 0 ≤ b.rate := h.2.2.2.2.2.1.1
/-- The end's cost of a job is small. -/
theorem end_cost {b : EBook} (ho : okE b) {j : Job} (hj : okJob b j) (lo : Bool) (t : Nat × Nat) : 0 ≤ costI b t j (endH lo j) (endPt lo j) ∧ costI b t j (endH lo j) (endPt lo j) ≤ 549 := by
  obtain ⟨-, h1, h2, -⟩ := hj
  exact (cost_le ho t j (by unfold endH; split <;> omega) (by unfold endPt; split <;> omega)).2
theorem each_bound {b : EBook} (ho : okE b) {j : Job} (hj : okJob b j) (lo : Bool) (w : Nat) (t : Nat × Nat) : 0 ≤ eachI lo b w t j ∧ eachI lo b w t j ≤ 549 := by
  have h1 := end_cost ho hj lo t
  have h2 := share_le hj.2.2.2.1 w h1.1
  unfold eachI
  omega
theorem jobs_bound {b : EBook} (ho : okE b) {js : List Job} (hj : ∀ j ∈ js, okJob b j) (lo : Bool) (w : Nat) (t : Nat × Nat) : 0 ≤ jobsI lo b w js t ∧ jobsI lo b w js t ≤ js.length * 549 := by
  have := sum_bound (m := 549) (l := js.map (eachI lo b w t)) fun x hx => by
    obtain ⟨j, hjm, rfl⟩ := List.mem_map.1 hx
    exact each_bound ho (hj j hjm) lo w t
  rwa [List.length_map] at this
theorem out_bound {b : EBook} (ho : okE b) (hne : known b ≠ []) {js : List Job} (hj : ∀ j ∈ js, okJob b j) (lo : Bool) (w : Nat) : 0 ≤ outI lo b w js ∧ outI lo b w js ≤ js.length * 549 := by
  cases lo
  · obtain ⟨⟨t, ht, e⟩, -⟩ := high_facts hne w js
    rw [e]
    exact jobs_bound ho hj false w t
  · obtain ⟨⟨t, ht, e⟩, -⟩ := low_facts hne w js
    rw [e]
    exact jobs_bound ho hj true w t
/-- A truth of which it is said which kinds were changed. -/
theorem known_of {b : EBook} (h6 : nK b.mb ≤ 6) {m c : Nat} (hm : m ∈ whoL b.mb) (hc : CSet b.mb m c) : (m, c &&& mendS b) ∈ known b := (mem_known h6).2 ⟨c, hm, hc, rfl⟩
theorem extra_of {b : EBook} {j : Job} (hj : j ∈ b.jobs) (m c : Nat) : extraI b (m, c &&& mendS b) j = if c.testBit j.kind.toNat then 0 else b.extra.getD m 0 := by
  unfold extraI
  rw [Nat.testBit_and, mend_bit hj, Bool.and_true]
/-- What is true lies between what is told. -/
theorem costs_between {b : EBook} (hr : 0 ≤ b.rate) {t : Nat × Nat} (w : Nat) {j : Job} {h p : Int} (h1 : j.hl ≤ h ∧ h ≤ j.hh) (h2 : j.pl ≤ p ∧ p ≤ j.ph) : eachI true b w t j ≤ shareI w j (costI b t j h p) ∧ shareI w j (costI b t j h p) ≤ eachI false b w t j :=
  ⟨share_mono w j (cost_mono hr t j h1.1 h2.1), share_mono w j (cost_mono hr t j h1.2 h2.2)⟩
def sharesI (w : Nat) : List Job → List Int → Int
  | j :: js, c :: cs => shareI w j c + sharesI w js cs
  | _, _ => 0
theorem shares_paid : ∀ (js : List Job) (cs : List Int), sharesI 1 js cs = paidL js cs
  | [], _ => by simp [sharesI, paidL]
  | _ :: _, [] => by simp [sharesI, paidL]
  | j :: js, c :: cs => by simp [sharesI, paidL, shareI, shares_paid js cs]
theorem shares_between {b : EBook} (hr : 0 ≤ b.rate) {t : Nat × Nat} (w : Nat) : ∀ (js : List Job) (cs : List Int), CostsOk b t js cs → jobsI true b w js t ≤ sharesI w js cs ∧ sharesI w js cs ≤ jobsI false b w js t
  | [], [], _ => by simp [jobsI, sharesI, sumI]
  | [], _ :: _, h => absurd h (by simp [CostsOk])
  | _ :: _, [], h => absurd h (by simp [CostsOk])
  | j :: js, c :: cs, ⟨⟨h, p, g1, g2, g3, g4, e⟩, hc⟩ => by
    subst e
    have h1 := shares_between hr w js cs hc
    have h2 := costs_between hr (t := t) w ⟨g1, g2⟩ ⟨g3, g4⟩
    unfold jobsI at *
    rw [List.map_cons, List.map_cons, sum_cons, sum_cons, sharesI]
    omega
theorem out_between {b : EBook} (hr : 0 ≤ b.rate) {t : Nat × Nat} (ht : t ∈ known b) (w : Nat) {js : List Job} {cs : List Int} (hc : CostsOk b t js cs) : outI true b w js ≤ sharesI w js cs ∧ sharesI w js cs ≤ outI false b w js := by
  have hne : known b ≠ [] := fun e => by rw [e] at ht; exact absurd ht (by simp)
  have h1 := (low_facts hne w js).2 t ht
  have h2 := (high_facts hne w js).2 t ht
  have h3 := shares_between hr w js cs hc
  omega
theorem can_of {b : EBook} (ho : okE b) {t : Nat × Nat} {cs : List Int} (hc : CostsOk b t b.jobs cs) : canP b (paidL b.jobs cs) t = true := by
  unfold canP
  exact (can_iff ho.rate0 _ _ _ (Int.le_refl _) fun j hj => ho.span hj).2 ⟨0, cs, Int.le_refl _, Int.le_refl _, hc, by omega⟩
theorem can_costs {b : EBook} (ho : okE b) {t : Nat × Nat} {pence : Int} (h : canP b pence t = true) : ∃ cs, CostsOk b t b.jobs cs ∧ pence = paidL b.jobs cs := by
  unfold canP at h
  obtain ⟨x, cs, h1, h2, h3, h4⟩ := (can_iff ho.rate0 _ _ _ (Int.le_refl _) fun j hj => ho.span hj).1 h
  exact ⟨cs, h3, by omega⟩
/-- All jobs at an end. -/
theorem ends_costs {b : EBook} (t : Nat × Nat) (lo : Bool) : ∀ (js : List Job), (∀ j ∈ js, j.hl ≤ j.hh ∧ j.pl ≤ j.ph) → ∃ cs, CostsOk b t js cs ∧ ∀ w, sharesI w js cs = jobsI lo b w js t
  | [], _ => ⟨[], trivial, fun w => by simp [sharesI, jobsI, sumI]⟩
  | j :: js, hj => by
    obtain ⟨cs, h1, h2⟩ := ends_costs t lo js fun k hk => hj k (List.mem_cons_of_mem _ hk)
    obtain ⟨h3, h4⟩ := hj j (List.mem_cons_self ..)
    refine ⟨costI b t j (endH lo j) (endPt lo j) :: cs, ⟨⟨endH lo j, endPt lo j, ?_, ?_, ?_, ?_, rfl⟩, h1⟩, fun w => ?_⟩
    · unfold endH; split <;> omega
    · unfold endH; split <;> omega
    · unfold endPt; split <;> omega
    · unfold endPt; split <;> omega
    · have := h2 w
      unfold jobsI at *
      rw [List.map_cons, sum_cons, sharesI, this]
      rfl
theorem can_end {b : EBook} (ho : okE b) (hne : known b ≠ []) (lo : Bool) : ∃ t ∈ known b, canP b (outI lo b 1 b.jobs) t = true := by
  obtain ⟨t, ht, e⟩ : ∃ t ∈ known b, outI lo b 1 b.jobs = jobsI lo b 1 b.jobs t := by
    cases lo
    · exact (high_facts hne 1 b.jobs).1
    · exact (low_facts hne 1 b.jobs).1
  obtain ⟨cs, h1, h2⟩ := ends_costs (b := b) t lo b.jobs fun j hj => ho.span hj
  refine ⟨t, ht, ?_⟩
  rw [e, ← h2 1, shares_paid]
  exact can_of ho h1
theorem whose_ne {b : EBook} {pence : Int} : whoseL b pence ≠ [] ↔ ∃ t ∈ known b, canP b pence t = true := by
  constructor
  · intro h
    obtain ⟨m, l, e⟩ := List.exists_cons_of_ne_nil h
    obtain ⟨s, h1, h2⟩ := mem_whose.1 (show m ∈ whoseL b pence by rw [e]; exact List.mem_cons_self ..)
    exact ⟨_, h1, h2⟩
  · rintro ⟨⟨m, s⟩, h1, h2⟩ e
    have : m ∈ whoseL b pence := mem_whose.2 ⟨s, h1, h2⟩
    rw [e] at this
    exact absurd this (by simp)
theorem can_has {b : EBook} (ho : okE b) {t : Nat × Nat} (ht : t ∈ known b) {pence : Int} (h : canP b pence t = true) : outI true b 1 b.jobs ≤ pence ∧ pence ≤ outI false b 1 b.jobs := by
  obtain ⟨cs, h1, rfl⟩ := can_costs ho h
  rw [← shares_paid]
  exact out_between ho.rate0 ht 1 h1
/-- A job's loss at most. -/
theorem loss_eq {b : EBook} (hne : known b ≠ []) {j : Job} (hc : 0 ≤ j.cap) : lossI b j = max 0 (outI false b 0 [j] - j.cap) := by
  have e0 : ∀ (w : Nat) (t : Nat × Nat), jobsI false b w [j] t = eachI false b w t j := fun w t => by
    unfold jobsI
    rw [List.map_cons, List.map_nil, sum_cons]
    simp [sumI]
  have key : ∀ t, eachI false b 2 t j = max 0 (eachI false b 0 t j - j.cap) := fun t => by
    unfold eachI shareI paidI
    rw [if_neg (by decide), if_neg (by decide), if_pos rfl, if_neg (show ¬ j.cap = -1 by omega)]
    omega
  unfold lossI
  obtain ⟨⟨t, ht, h1⟩, h2⟩ := high_facts hne 2 [j]
  obtain ⟨⟨u, hu, h3⟩, h4⟩ := high_facts hne 0 [j]
  have h5 := h2 u hu
  have h6 := h4 t ht
  rw [e0, key] at h1 h5
  rw [e0] at h3 h6
  omega
theorem loss_none {b : EBook} (hne : known b ≠ []) {j : Job} (hc : j.cap = -1) : lossI b j = 0 := by
  unfold lossI
  obtain ⟨⟨t, ht, h1⟩, -⟩ := high_facts hne 2 [j]
  rw [h1]
  unfold jobsI
  rw [List.map_cons, List.map_nil, sum_cons]
  unfold eachI shareI paidI
  rw [if_neg (by decide), if_neg (by decide), if_pos hc]
  simp [sumI]
theorem loss_one (b : EBook) (j : Job) : lossI b j = outI false b 2 [j] := rfl
/-- The same truths, whatever is remembered of jobs. -/
theorem known_same {b x : EBook} (h1 : x.mb = b.mb) (h2 : mendS x = mendS b) : known x = known b := by unfold known allE; rw [h1, h2]
theorem sum_mem {α : Type} {f : α → Int} : ∀ {l : List α} {x : α}, x ∈ l → (∀ y ∈ l, 0 ≤ f y) → f x ≤ sumI (l.map f)
  | [], _, h, _ => absurd h (by simp)
  | y :: l, x, h, h0 => by
    have h1 := h0 y (List.mem_cons_self ..)
    have h2 : 0 ≤ sumI (l.map f) := (sum_bound_nn fun z hz => by
      obtain ⟨u, hu, rfl⟩ := List.mem_map.1 hz
      exact h0 u (List.mem_cons_of_mem _ hu))
    rw [List.map_cons, sum_cons]
    rcases List.mem_cons.1 h with rfl | h
    · omega
    · have := sum_mem (f := f) h fun z hz => h0 z (List.mem_cons_of_mem _ hz)
      omega
 where sum_bound_nn : ∀ {l : List Int}, (∀ x ∈ l, 0 ≤ x) → 0 ≤ sumI l
  | [], _ => by simp [sumI]
  | x :: l, h => by
    have h1 := h x (List.mem_cons_self ..)
    have h2 := sum_bound_nn (l := l) fun y hy => h y (List.mem_cons_of_mem _ hy)
    rw [sum_cons]
    omega
end Go.Proofs.YtefehlekneahmaaGreat.Mk.Me
