/- Mathematics of mend: the fewest coins. Mathematics of mend: what the statements need of spans, bills and caps. -/
import Derived.Test.YtlcpplkbmlmmbaaGreatCaps04
namespace Go.Proofs.YtlcpplkbmlmmbaaGreat.Mk.Me
open Go.RowKit Ls
def zeroP : List Int := [0, 0, 0, 0]
def addAt : List Int → Nat → List Int
  | [], _ => []
  | x :: l, 0 => (x + 1) :: l
  | x :: l, n + 1 => x :: addAt l n
def subAt : List Int → Nat → List Int
  | [], _ => []
  | x :: l, 0 => (x - 1) :: l
  | x :: l, n + 1 => x :: subAt l n
def betB (p q : List Int) : Bool := if sumI p = sumI q then lexB p q else decide (sumI p < sumI q)
def dotI : List Int → List Int → Int
  | c :: cs, x :: xs => x * c + dotI cs xs
  | _, _ => 0
theorem addAt_len : ∀ (l : List Int) (n : Nat), (addAt l n).length = l.length
  | [], _ => rfl
  | _ :: _, 0 => rfl
  | x :: l, n + 1 => by simp [addAt, addAt_len l n]
theorem addAt_sum : ∀ (l : List Int) (n : Nat), n < l.length → sumI (addAt l n) = sumI l + 1
  | [], _, h => absurd h (by simp)
  | x :: l, 0, _ => by rw [addAt, sum_cons, sum_cons]; omega
  | x :: l, n + 1, h => by
    have := addAt_sum l n (by simpa using h)
    rw [addAt, sum_cons, sum_cons]
    omega
theorem addAt_dot : ∀ (cs l : List Int) (n : Nat) (h : n < cs.length), n < l.length → dotI cs (addAt l n) = dotI cs l + cs[n]
  | [], _, _, h, _ => absurd h (by simp)
  | _ :: _, [], _, _, h => absurd h (by simp)
  | c :: cs, x :: l, 0, _, _ => by simp only [addAt, dotI, List.getElem_cons_zero, Int.add_mul]; omega
  | c :: cs, x :: l, n + 1, h, h2 => by
    have := addAt_dot cs l n (by simpa using h) (by simpa using h2)
    simp only [addAt, dotI, List.getElem_cons_succ]
    omega
theorem sub_add : ∀ (l : List Int) (n : Nat), addAt (subAt l n) n = l
  | [], _ => rfl
  | x :: l, 0 => by simp [subAt, addAt]
  | x :: l, n + 1 => by simp [subAt, addAt, sub_add l n]
theorem subAt_len : ∀ (l : List Int) (n : Nat), (subAt l n).length = l.length
  | [], _ => rfl
  | _ :: _, 0 => rfl
  | x :: l, n + 1 => by simp [subAt, subAt_len l n]
theorem lexB_add : ∀ (p q : List Int) (n : Nat), p.length = q.length → lexB (addAt p n) (addAt q n) = lexB p q
  | [], [], _, _ => rfl
  | [], _ :: _, _, h => absurd h (by simp)
  | _ :: _, [], _, h => absurd h (by simp)
  | x :: p, y :: q, 0, _ => by
    simp only [addAt, lexB]
    by_cases e : x = y
    · rw [e, if_pos rfl, if_pos rfl]
    · have e2 : ¬ x + 1 = y + 1 := by omega
      simp only [e, e2, if_false]
      exact decide_eq_decide.2 (by omega)
  | x :: p, y :: q, n + 1, h => by
    have := lexB_add p q n (by simpa using h)
    simp only [addAt, lexB, this]
theorem bet_add {p q : List Int} {n : Nat} (hl : p.length = q.length) (hn : n < p.length) : betB (addAt p n) (addAt q n) = betB p q := by
  unfold betB
  rw [addAt_sum p n hn, addAt_sum q n (by omega), lexB_add p q n hl]
  by_cases e : sumI p = sumI q
  · rw [if_pos e, if_pos (by omega)]
  · rw [if_neg e, if_neg (by omega)]
    exact decide_eq_decide.2 (by omega)
theorem bet_irr (p : List Int) : betB p p = false := by unfold betB; rw [if_pos rfl, lexB_irr]
theorem bet_trans {a b c : List Int} (h : betB a b = true) (k : betB b c = true) : betB a c = true := by
  unfold betB at *
  split at h
  · rename_i e1
    split at k
    · rename_i e2
      rw [if_pos (e1.trans e2)]
      exact lexB_trans h k
    · rename_i e2
      have := of_decide_eq_true k
      rw [if_neg (by omega)]
      exact decide_eq_true (by omega)
  · rename_i e1
    have h := of_decide_eq_true h
    split at k
    · rename_i e2
      rw [if_neg (by omega)]
      exact decide_eq_true (by omega)
    · rename_i e2
      have := of_decide_eq_true k
      rw [if_neg (by omega)]
      exact decide_eq_true (by omega)
theorem bet_total {a b : List Int} (h : betB a b = false) (k : betB b a = false) : a = b := by
  unfold betB at *
  by_cases e : sumI a = sumI b
  · rw [if_pos e] at h
    rw [if_pos e.symm] at k
    exact lexB_total h k
  · rw [if_neg e] at h
    rw [if_neg (fun e2 => e e2.symm)] at k
    have h := of_decide_eq_false h
    have k := of_decide_eq_false k
    omega
theorem bet_le {p q r : List Int} (h : betB q p = false) (k : betB r q = false) : betB r p = false := by
  rw [Bool.eq_false_iff]
  intro hr
  cases hp : betB p q
  · have := bet_total h hp
    subst this
    rw [hr] at k
    cases k
  · rw [bet_trans hr hp] at k
    cases k
def bestF (coins : List Int) (ps : Nat → List Int) (d : Nat) (best : List Int) (n : Nat) : List Int :=
  if coins.getD n 0 ≤ d then (if best = zeroP ∨ betB (addAt (ps (d - (coins.getD n 0).toNat)) n) best = true then addAt (ps (d - (coins.getD n 0).toNat)) n else best) else best
def bestC (coins : List Int) (ps : Nat → List Int) (d n : Nat) : List Int := (List.range n).foldl (bestF coins ps d) zeroP
theorem bestC_next (coins : List Int) (ps : Nat → List Int) (d n : Nat) : bestC coins ps d (n + 1) = bestF coins ps d (bestC coins ps d n) n := by
  unfold bestC
  rw [List.range_succ, List.foldl_append]
  rfl
def purL (coins : List Int) : Nat → List (List Int)
  | 0 => [zeroP]
  | d + 1 => purL coins d ++ [bestC coins (fun i => (purL coins d).getD i zeroP) (d + 1) coins.length]
def purP (coins : List Int) (d : Nat) : List Int := (purL coins d).getD d zeroP
theorem purL_len (coins : List Int) : ∀ d, (purL coins d).length = d + 1
  | 0 => rfl
  | d + 1 => by rw [purL, List.length_append, purL_len coins d]; rfl
theorem purL_get (coins : List Int) : ∀ (d i : Nat), i ≤ d → (purL coins d).getD i zeroP = purP coins i
  | 0, i, h => by rw [show i = 0 by omega]; rfl
  | d + 1, i, h => by
    by_cases e : i = d + 1
    · rw [e]; rfl
    · have h2 : i < (purL coins d).length := by rw [purL_len]; omega
      rw [purL, List.getD_eq_getElem?_getD, List.getElem?_append_left h2, ← List.getD_eq_getElem?_getD]
      exact purL_get coins d i (by omega)
theorem bestC_congr {coins : List Int} {ps qs : Nat → List Int} {d : Nat} (hc : ∀ n, n < coins.length → 1 ≤ coins.getD n 0) (h : ∀ i, i < d → ps i = qs i) (hd : 1 ≤ d) : ∀ n, n ≤ coins.length → bestC coins ps d n = bestC coins qs d n
  | 0, _ => rfl
  | n + 1, hn => by
    rw [bestC_next, bestC_next, bestC_congr hc h hd n (by omega)]
    have := hc n (by omega)
    unfold bestF
    rw [h (d - (coins.getD n 0).toNat) (by omega)]
theorem purP_next {coins : List Int} (hc : ∀ n, n < coins.length → 1 ≤ coins.getD n 0) (d : Nat) : purP coins (d + 1) = bestC coins (purP coins) (d + 1) coins.length := by
  have h1 : (purL coins (d + 1)).getD (d + 1) zeroP = bestC coins (fun i => (purL coins d).getD i zeroP) (d + 1) coins.length := by
    rw [purL, List.getD_eq_getElem?_getD, List.getElem?_append_right (by rw [purL_len]; exact Nat.le_refl _), purL_len]
    simp
  unfold purP at *
  rw [h1]
  exact bestC_congr hc (fun i hi => purL_get coins d i (by omega)) (by omega) _ (Nat.le_refl _)
structure Pays (coins q : List Int) (d : Nat) : Prop where
  len : q.length = 4
  pos : ∀ n, n < 4 → 0 ≤ q.getD n 0
  out : ∀ n, coins.length ≤ n → q.getD n 0 = 0
  dot : dotI coins q = d
structure Coins (coins : List Int) : Prop where
  ne : 1 ≤ coins.length
  le : coins.length ≤ 4
  one : coins.getD 0 0 = 1
  pos : ∀ n, n < coins.length → 1 ≤ coins.getD n 0
  inc : ∀ n m, n < m → m < coins.length → coins.getD n 0 < coins.getD m 0
  top : ∀ n, n < coins.length → coins.getD n 0 ≤ 240
theorem addAt_get : ∀ (l : List Int) (n m : Nat), n < l.length → (addAt l n).getD m 0 = if m = n then l.getD m 0 + 1 else l.getD m 0
  | [], _, _, h => absurd h (by simp)
  | x :: l, 0, 0, _ => by simp [addAt]
  | x :: l, 0, m + 1, _ => by simp [addAt]
  | x :: l, n + 1, 0, _ => by simp [addAt]
  | x :: l, n + 1, m + 1, h => by
    have := addAt_get l n m (by simpa using h)
    simpa [addAt] using this
theorem Pays.add {coins q : List Int} {d n : Nat} (hc : Coins coins) (h : Pays coins q d) (hn : n < coins.length) : Pays coins (addAt q n) (d + (coins.getD n 0).toNat) := by
  have h4 := hc.le
  have hl := h.len
  have hp := hc.pos n hn
  refine ⟨by rw [addAt_len]; exact hl, fun m hm => ?_, fun m hm => ?_, ?_⟩
  · have := h.pos m hm
    rw [addAt_get q n m (by omega)]
    split <;> omega
  · rw [addAt_get q n m (by omega), if_neg (by omega)]
    exact h.out m hm
  · rw [addAt_dot coins q n hn (by omega), h.dot]
    have e : coins[n] = coins.getD n 0 := by rw [List.getD_eq_getElem?_getD, List.getElem?_eq_getElem hn]; rfl
    omega
theorem Pays.sub {coins q : List Int} {d n : Nat} (hc : Coins coins) (h : Pays coins q d) (hn : n < coins.length) (h1 : 1 ≤ q.getD n 0) : (coins.getD n 0).toNat ≤ d ∧ Pays coins (subAt q n) (d - (coins.getD n 0).toNat) := by
  have h4 := hc.le
  have hl := h.len
  have hp := hc.pos n hn
  have hsl := subAt_len q n
  have hg : ∀ m, q.getD m 0 = if m = n then (subAt q n).getD m 0 + 1 else (subAt q n).getD m 0 := fun m => by
    have := addAt_get (subAt q n) n m (by omega)
    rwa [sub_add] at this
  have hpos : ∀ m, m < 4 → 0 ≤ (subAt q n).getD m 0 := fun m hm => by
    have e := hg m
    have := h.pos m hm
    split at e
    · rename_i e2
      subst e2
      omega
    · omega
  have hdot : dotI coins q = dotI coins (subAt q n) + coins.getD n 0 := by
    have := addAt_dot coins (subAt q n) n hn (by omega)
    rw [sub_add] at this
    rw [this, List.getD_eq_getElem?_getD, List.getElem?_eq_getElem hn]
    rfl
  have hnn : ∀ (cs l : List Int), (∀ n, n < cs.length → 1 ≤ cs.getD n 0) → (∀ n, n < l.length → 0 ≤ l.getD n 0) → 0 ≤ dotI cs l := by
    intro cs
    induction cs with
    | nil => intro l _ _; simp [dotI]
    | cons c cs ih =>
      intro l h1 h2
      cases l with
      | nil => simp [dotI]
      | cons x l =>
        have a1 := h1 0 (by simp)
        have a2 := h2 0 (by simp)
        have := ih l (fun n hn => h1 (n + 1) (by simpa using hn)) (fun n hn => h2 (n + 1) (by simpa using hn))
        have a1 : (1 : Int) ≤ c := by simpa using a1
        have := Int.mul_nonneg (show 0 ≤ x by simpa using a2) (show 0 ≤ c by omega)
        simp only [dotI]
        omega
  have := hnn coins (subAt q n) hc.pos (fun m hm => hpos m (by omega))
  have hd := h.dot
  refine ⟨by omega, by omega, hpos, fun m hm => ?_, by omega⟩
  have e := hg m
  rw [if_neg (by omega), h.out m hm] at e
  exact e.symm
theorem dot_zero : ∀ (cs l : List Int), (∀ n, n < l.length → l.getD n 0 = 0) → dotI cs l = 0
  | [], _, _ => by simp [dotI]
  | _ :: _, [], _ => by simp [dotI]
  | c :: cs, x :: l, h => by
    have h1 : x = 0 := by simpa using h 0 (by simp)
    have h2 := dot_zero cs l fun n hn => by simpa using h (n + 1) (by simpa using hn)
    simp [dotI, h1, h2]
theorem pays_zero (coins : List Int) : Pays coins zeroP 0 := by
  have hz : ∀ n, zeroP.getD n 0 = 0 := fun n => by
    unfold zeroP
    match n with
    | 0 => rfl
    | 1 => rfl
    | 2 => rfl
    | 3 => rfl
    | n + 4 => rfl
  exact ⟨rfl, fun n _ => by rw [hz]; exact Int.le_refl _, fun n _ => hz n, dot_zero coins zeroP fun n _ => hz n⟩
theorem list4_ext {p q : List Int} (hp : p.length = 4) (hq : q.length = 4) (h : ∀ n, n < 4 → p.getD n 0 = q.getD n 0) : p = q := by
  refine List.ext_getElem (by omega) fun n h1 h2 => ?_
  have := h n (by omega)
  rw [List.getD_eq_getElem?_getD, List.getD_eq_getElem?_getD, List.getElem?_eq_getElem h1, List.getElem?_eq_getElem h2] at this
  exact this
structure BestP (coins p : List Int) (d : Nat) : Prop where
  pays : Pays coins p d
  best : ∀ q, Pays coins q d → betB q p = false
theorem sum_nn {l : List Int} (h : ∀ n, n < l.length → 0 ≤ l.getD n 0) : 0 ≤ sumI l := by
  induction l with
  | nil => simp [sumI]
  | cons x l ih =>
    have h1 : 0 ≤ x := by simpa using h 0 (by simp)
    have := ih fun n hn => by simpa using h (n + 1) (by simpa using hn)
    rw [sum_cons]
    omega
theorem bestC_inv {coins : List Int} (hc : Coins coins) {d : Nat} (hd : 1 ≤ d) (ih : ∀ i, i < d → BestP coins (purP coins i) i) : ∀ n, n ≤ coins.length → 
    (bestC coins (purP coins) d n = zeroP ∧ ∀ k, k < n → (d : Int) < coins.getD k 0) ∨ (Pays coins (bestC coins (purP coins) d n) d ∧ bestC coins (purP coins) d n ≠ zeroP ∧ ∀ k, k < n → coins.getD k 0 ≤ d → betB (addAt (purP coins (d - (coins.getD k 0).toNat)) k) (bestC coins (purP coins) d n) = false)
  | 0, _ => .inl ⟨rfl, fun k h => absurd h (by omega)⟩
  | n + 1, hn => by
    have h1 := bestC_inv hc hd ih n (by omega)
    rw [bestC_next]
    have hp := hc.pos n (by omega)
    have h4 := hc.le
    unfold bestF
    by_cases hle : coins.getD n 0 ≤ d
    rotate_left
    · rw [if_neg hle]
      rcases h1 with ⟨h1, h2⟩ | ⟨h1, h2, h3⟩
      · refine .inl ⟨h1, fun k hk => ?_⟩
        by_cases e : k = n
        · rw [e]; omega
        · exact h2 k (by omega)
      · refine .inr ⟨h1, h2, fun k hk hk2 => ?_⟩
        by_cases e : k = n
        · rw [e] at hk2; omega
        · exact h3 k (by omega) hk2
    rw [if_pos hle]
    have hb := ih (d - (coins.getD n 0).toNat) (by omega)
    have hcand := hb.pays.add hc (show n < coins.length by omega)
    rw [show d - (coins.getD n 0).toNat + (coins.getD n 0).toNat = d by omega] at hcand
    have hcne : addAt (purP coins (d - (coins.getD n 0).toNat)) n ≠ zeroP := fun e => by
      have h5 := addAt_sum (purP coins (d - (coins.getD n 0).toNat)) n (by rw [hb.pays.len]; omega)
      have h6 := sum_nn (l := purP coins (d - (coins.getD n 0).toNat)) fun m hm => hb.pays.pos m (by rw [hb.pays.len] at hm; exact hm)
      rw [e] at h5
      have h7 : sumI zeroP = 0 := rfl
      omega
    by_cases hcase : bestC coins (purP coins) d n = zeroP ∨ betB (addAt (purP coins (d - (coins.getD n 0).toNat)) n) (bestC coins (purP coins) d n) = true
    · rw [if_pos hcase]
      refine .inr ⟨hcand, hcne, fun k hk hk2 => ?_⟩
      by_cases e : k = n
      · rw [e]; exact bet_irr _
      · rcases h1 with ⟨h1, h2⟩ | ⟨h1, h2, h3⟩
        · have := h2 k (by omega); omega
        · have h5 := h3 k (by omega) hk2
          rcases hcase with h6 | h6
          · exact absurd h6 h2
          · refine bet_le ?_ h5
            rw [Bool.eq_false_iff]
            intro h7
            have := bet_trans h6 h7
            rw [bet_irr] at this
            cases this
    · rw [if_neg hcase]
      rcases h1 with ⟨h1, h2⟩ | ⟨h1, h2, h3⟩
      · exact absurd (.inl h1) hcase
      · refine .inr ⟨h1, h2, fun k hk hk2 => ?_⟩
        by_cases e : k = n
        · rw [e, Bool.eq_false_iff]
          exact fun h => hcase (.inr h)
        · exact h3 k (by omega) hk2
theorem pur_best {coins : List Int} (hc : Coins coins) (d : Nat) : BestP coins (purP coins d) d := by
  induction d using Nat.strongRecOn with
  | _ d ih =>
    cases d with
    | zero =>
      refine ⟨pays_zero coins, fun q hq => ?_⟩
      have hz : q = zeroP := by
        refine list4_ext hq.len rfl fun n hn => ?_
        have e0 : zeroP.getD n 0 = 0 := by
          have hn4 : n = 0 ∨ n = 1 ∨ n = 2 ∨ n = 3 := by omega
          rcases hn4 with rfl | rfl | rfl | rfl <;> rfl
        rw [e0]
        by_cases hl : n < coins.length
        · have h1 := hq.pos n hn
          by_cases h2 : 1 ≤ q.getD n 0
          · have h3 := (hq.sub hc hl h2).1
            have := hc.pos n hl
            omega
          · omega
        · exact hq.out n (by omega)
      rw [hz]
      exact bet_irr _
    | succ d =>
      rw [purP_next hc.pos d]
      have h0 := hc.one
      rcases bestC_inv hc (d := d + 1) (by omega) (fun i hi => ih i hi) coins.length (Nat.le_refl _) with ⟨-, h2⟩ | ⟨h1, h2, h3⟩
      · have := h2 0 hc.ne
        omega
      refine ⟨h1, fun q hq => ?_⟩
      obtain ⟨n, hn, hq1⟩ : ∃ n, n < coins.length ∧ 1 ≤ q.getD n 0 := by
        refine Classical.byContradiction fun hno => ?_
        have hz : ∀ n, n < q.length → q.getD n 0 = 0 := fun n hn => by
          by_cases hl : n < coins.length
          · have := hq.pos n (by rw [hq.len] at hn; exact hn)
            by_cases h5 : 1 ≤ q.getD n 0
            · exact absurd ⟨n, hl, h5⟩ hno
            · omega
          · exact hq.out n (by omega)
        have := dot_zero coins q hz
        have := hq.dot
        omega
      obtain ⟨h5, h6⟩ := hq.sub hc hn hq1
      have hp := hc.pos n hn
      have h4 := hc.le
      have hb := ih (d + 1 - (coins.getD n 0).toNat) (by omega)
      have h7 := hb.best _ h6
      have h8 : betB (addAt (subAt q n) n) (addAt (purP coins (d + 1 - (coins.getD n 0).toNat)) n) = false := by
        rw [bet_add (by rw [h6.len, hb.pays.len]) (by rw [h6.len]; omega)]
        exact h7
      rw [sub_add] at h8
      exact bet_le (h3 n hn (by omega)) h8
end Go.Proofs.YtlcpplkbmlmmbaaGreat.Mk.Me
namespace Go.Proofs.YtlcpplkbmlmmbaaGreat.Mk.Me
open Go.RowKit Ls
theorem outI_le {b x : EBook} {lo : Bool} {w v : Nat} {js ks : List Job} (hk : known x = known b) (h : ∀ t ∈ known b, jobsI lo b w js t ≤ jobsI lo x v ks t) : outI lo b w js ≤ outI lo x v ks := by
  by_cases hne : known b = []
  · unfold outI
    rw [hk, hne]
    exact Int.le_refl _
  have hne2 : known x ≠ [] := by rw [hk]; exact hne
  cases lo
  · obtain ⟨⟨t, ht, e⟩, -⟩ := high_facts hne w js
    have h2 := (high_facts hne2 v ks).2 t (by rw [hk]; exact ht)
    have := h t ht
    omega
  · obtain ⟨⟨t, ht, e⟩, -⟩ := low_facts hne2 v ks
    rw [hk] at ht
    have h2 := (low_facts hne w js).2 t ht
    have := h t ht
    omega
theorem outI_eq {b x : EBook} {lo : Bool} {w v : Nat} {js ks : List Job} (hk : known x = known b) (h : ∀ t ∈ known b, jobsI lo b w js t = jobsI lo x v ks t) : outI lo b w js = outI lo x v ks := by
  unfold outI
  rw [hk]
  exact congrArg (ampl lo) (List.map_congr_left h)
theorem each_le {b : EBook} (hr : 0 ≤ b.rate) {j : Job} (hj : j.hl ≤ j.hh ∧ j.pl ≤ j.ph) (w : Nat) (t : Nat × Nat) : eachI true b w t j ≤ eachI false b w t j := share_mono w j (cost_mono hr t j hj.1 hj.2)
theorem jobs_le {b : EBook} (hr : 0 ≤ b.rate) {js : List Job} (hj : ∀ j ∈ js, j.hl ≤ j.hh ∧ j.pl ≤ j.ph) (w : Nat) (t : Nat × Nat) : jobsI true b w js t ≤ jobsI false b w js t := sum_le fun j hjm => each_le hr (hj j hjm) w t
theorem ends_le {b : EBook} (hr : 0 ≤ b.rate) (hne : known b ≠ []) {js : List Job} (hj : ∀ j ∈ js, j.hl ≤ j.hh ∧ j.pl ≤ j.ph) (w : Nat) : outI true b w js ≤ outI false b w js := by
  obtain ⟨⟨t, ht, e⟩, -⟩ := low_facts hne w js
  have h1 := (high_facts hne w js).2 t ht
  have h2 := jobs_le hr hj w t
  omega
theorem okE.span {b : EBook} (h : okE b) {j : Job} (hj : j ∈ b.jobs) : j.hl ≤ j.hh ∧ j.pl ≤ j.ph := by
  obtain ⟨-, h1, h2, -⟩ := h.2.2.2.1 j hj
  exact ⟨h1.2.1, h2.2.1⟩
theorem okE.rate0 {b : EBook} (h : okE b) : 0 ≤ b.rate := h.2.2.2.2.2.1.1
theorem end_cost {b : EBook} (ho : okE b) {j : Job} (hj : okJob b j) (lo : Bool) (t : Nat × Nat) : 0 ≤ costI b t j (endH lo j) (endPt lo j) ∧ costI b t j (endH lo j) (endPt lo j) ≤ 549 := by
  obtain ⟨-, h1, h2, -⟩ := hj
  exact (cost_le ho t j (by unfold endH; split <;> omega) (by unfold endPt; split <;> omega)).2
theorem each_bound {b : EBook} (ho : okE b) {j : Job} (hj : okJob b j) (lo : Bool) (w : Nat) (t : Nat × Nat) : 0 ≤ eachI lo b w t j ∧ eachI lo b w t j ≤ 549 := by
  have h1 := end_cost ho hj lo t
  have h2 := share_le hj.2.2.2.1 w h1.1
  unfold eachI
  omega
theorem jobs_bound {b : EBook} (ho : okE b) {js : List Job} (hj : ∀ j ∈ js, okJob b j) (lo : Bool) (w : Nat) (t : Nat × Nat) : 0 ≤ jobsI lo b w js t ∧ jobsI lo b w js t ≤ js.length * 549 := by
  have := sum_bound (m := 549) (l := js.map (eachI lo b w t)) fun x hx => by
    obtain ⟨j, hjm, rfl⟩ := List.mem_map.1 hx
    exact each_bound ho (hj j hjm) lo w t
  rwa [List.length_map] at this
theorem out_bound {b : EBook} (ho : okE b) (hne : known b ≠ []) {js : List Job} (hj : ∀ j ∈ js, okJob b j) (lo : Bool) (w : Nat) : 0 ≤ outI lo b w js ∧ outI lo b w js ≤ js.length * 549 := by
  cases lo
  · obtain ⟨⟨t, ht, e⟩, -⟩ := high_facts hne w js
    rw [e]
    exact jobs_bound ho hj false w t
  · obtain ⟨⟨t, ht, e⟩, -⟩ := low_facts hne w js
    rw [e]
    exact jobs_bound ho hj true w t
def sharesI (w : Nat) : List Job → List Int → Int
  | j :: js, c :: cs => shareI w j c + sharesI w js cs
  | _, _ => 0
theorem loss_none {b : EBook} (hne : known b ≠ []) {j : Job} (hc : j.cap = -1) : lossI b j = 0 := by
  unfold lossI
  obtain ⟨⟨t, ht, h1⟩, -⟩ := high_facts hne 2 [j]
  rw [h1]
  unfold jobsI
  rw [List.map_cons, List.map_nil, sum_cons]
  unfold eachI shareI paidI
  rw [if_neg (by decide), if_neg (by decide), if_pos hc]
  simp [sumI]
theorem known_same {b x : EBook} (h1 : x.mb = b.mb) (h2 : mendS x = mendS b) : known x = known b := by unfold known allE; rw [h1, h2]
 where sum_bound_nn : ∀ {l : List Int}, (∀ x ∈ l, 0 ≤ x) → 0 ≤ sumI l
  | [], _ => by simp [sumI]
  | x :: l, h => by
    have h1 := h x (List.mem_cons_self ..)
    have h2 := sum_bound_nn (l := l) fun y hy => h y (List.mem_cons_of_mem _ hy)
    rw [sum_cons]
    omega
end Go.Proofs.YtlcpplkbmlmmbaaGreat.Mk.Me
