/- Mathematics of dapple: sets, turns. Mathematics of dapple: the first of lists. Mathematics of dapple: which horses must go. Lists that grow in a loop. Lists that grow from nothing in a loop. Contracts of maker: sets, lists, what a book in the calculation has. -/
import Derived.Test.YtlbolnlcncjijaaGreatTw04
import Derived.Test.YtlbolnlcncjijaaGreatGa15
import Derived.Test.YtlbolnlcncjijaaGreatGa17
namespace Go.Proofs.YtlbolnlcncjijaaGreat
open Go.RowKit
def setB (x : Int) : Prop := 1 ≤ x ∧ x ≤ 15
theorem setB_cases {x : Int} (h : setB x) : ∃ i : Fin 15, x = (i.val : Int) + 1 := ⟨⟨(x - 1).toNat, by unfold setB at h; omega⟩, by unfold setB at h; simp only; omega⟩
def hsI (b : DBook) (h p : Nat) : Int := (b.horses.getD h []).getD p 0
theorem hs_set {b : DBook} (ho : okBook b) {h p : Nat} (hh : h < b.horses.length) (hp : p < nR b) : setB (hsI b h p) := by
  have hH := ho.2.2 _ (List.getElem_mem hh)
  have hq : p < b.horses[h].length := by have := hH.1; have := (okR ho).2.2; omega
  have e : hsI b h p = b.horses[h][p] := by simp [hsI, List.getD_eq_getElem?_getD, List.getElem?_eq_getElem hh, List.getElem?_eq_getElem hq]
  rw [e]
  exact hH.2 _ (List.getElem_mem hq)
theorem rowI_hs (b : DBook) (h t p : Nat) : rowI b h t p = hsI b h ((p + t) % nR b) := rfl
theorem rowL_get {b : DBook} (ho : okBook b) {h t q : Nat} (hq : q < nR b) : (rowL b h t).getD q 0 = rowI b h t q := by
  obtain ⟨h1, h8, hn⟩ := okR ho
  unfold rowL rowN
  rw [List.getD_eq_getElem?_getD, List.getElem?_map, List.getElem?_range (by omega)]
  show (if q < nR b then rowI b h t q else 0) = _
  rw [if_pos hq]
def fit2 (b : DBook) (p : Int → Int → Bool) (h o t : Nat) : Prop := ∀ q, q < nR b → p (hsI b h ((q + t) % nR b)) (hsI b o q) = true
def backT (r t : Nat) : Nat := (r - t) % r
theorem back_lt {r t : Nat} (h : 1 ≤ r) : backT r t < r := Nat.mod_lt _ h
theorem back_mod {r t q : Nat} (ht : t < r) (hq : q < r) : ((q + t) % r + backT r t) % r = q := by
  unfold backT
  rcases Nat.eq_zero_or_pos t with rfl | h0
  · simp [Nat.mod_eq_of_lt hq]
  · rw [Nat.mod_eq_of_lt (show r - t < r by omega)]
    rcases Nat.lt_or_ge (q + t) r with h | h
    · rw [Nat.mod_eq_of_lt h, show q + t + (r - t) = q + r by omega, Nat.add_mod_right, Nat.mod_eq_of_lt hq]
    · rw [Nat.mod_eq_sub_mod h, Nat.mod_eq_of_lt (show q + t - r < r by omega), show q + t - r + (r - t) = q by omega, Nat.mod_eq_of_lt hq]
theorem back_back {r t : Nat} (ht : t < r) : backT r (backT r t) = t := by
  unfold backT
  rcases Nat.eq_zero_or_pos t with rfl | h0
  · simp
  · rw [Nat.mod_eq_of_lt (show r - t < r by omega), show r - (r - t) = t by omega, Nat.mod_eq_of_lt ht]
def allK (b : DBook) (h : Nat) : Prop := ∀ p, p < nR b → openB (hsI b h p) = false
end Go.Proofs.YtlbolnlcncjijaaGreat
namespace Go.Proofs.YtlbolnlcncjijaaGreat
open Go.RowKit
theorem lexB_pre : ∀ (l a b : List Int), lexB (l ++ a) (l ++ b) = lexB a b
  | [], a, b => rfl
  | x :: l, a, b => by simp [lexB, lexB_pre l a b]
theorem listsF_pw (e : Nat) : ∀ (r : Nat) (l : List Int) (a : Nat), (listsF e r l a).Pairwise fun x y => lexB x y = true
  | 0, l, a => List.pairwise_singleton _ _
  | r + 1, l, a => by
    unfold listsF
    rw [List.pairwise_flatMap]
    constructor
    · exact fun n _ => listsF_pw e r _ _
    · rw [List.pairwise_map]
      refine (List.pairwise_lt_range (n := e - a)).imp fun {q q'} hq x hx y hy => ?_
      obtain ⟨t, rfl, -⟩ := (mem_listsF r _ _ _).1 hx
      obtain ⟨t', rfl, -⟩ := (mem_listsF r _ _ _).1 hy
      rw [List.append_assoc, List.append_assoc, lexB_pre]
      simp only [List.singleton_append, lexB]
      rw [if_neg (by omega)]
      simp; omega
theorem lists_pw (e m : Nat) : (listsL e m).Pairwise fun x y => lexB x y = true := listsF_pw e m [] 0
theorem find_first {zs : List (List Int)} (hp : zs.Pairwise fun x y => lexB x y = true) {P : List Int → Bool} {z : List Int} (h : zs.find? P = some z) : z ∈ zs ∧ P z = true ∧ ∀ x ∈ zs, lexB x z = true → P x = false := by
  obtain ⟨h1, us, vs, rfl, h2⟩ := List.find?_eq_some_iff_append.1 h
  refine ⟨by simp, h1, fun x hx hlt => ?_⟩
  rcases List.mem_append.1 hx with hx | hx
  · have := h2 x hx; simpa using this
  · exfalso
    rcases List.mem_cons.1 hx with rfl | hx
    · rw [lexB_irr] at hlt; cases hlt
    · rw [List.pairwise_append] at hp
      have := lexB_trans ((List.pairwise_cons.1 hp.2.1).1 x hx) hlt
      rw [lexB_irr] at this; cases this
theorem mem_pair {e i k : Nat} (h : i < k) (hk : k < e) : [(i : Int), (k : Int)] ∈ listsL e 2 := by
  rw [mem_listsL]
  refine ⟨rfl, ?_, fun x hx => ?_⟩
  · unfold incL; simp; omega
  · simp at hx; rcases hx with rfl | rfl <;> omega
theorem pair_none {e : Nat} {P : Nat → Nat → Bool} (h : (listsL e 2).find? (pairP P) = none) {i k : Nat} (hi : i < k) (hk : k < e) : P i k = false := by
  have := List.find?_eq_none.1 h _ (mem_pair hi hk)
  rw [pairP_two] at this
  simpa using this
theorem pair_some {e : Nat} {P : Nat → Nat → Bool} {l : List Int} (h : (listsL e 2).find? (pairP P) = some l) : ∃ i k : Nat, l = [(i : Int), (k : Int)] ∧ i < k ∧ k < e ∧ P i k = true ∧ ∀ p q, p < q → q < e → (p < i ∨ p = i ∧ q < k) → P p q = false := by
  obtain ⟨h1, h2, h3⟩ := find_first (lists_pw e 2) h
  obtain ⟨i, k, rfl, hi, hk⟩ := pair_of h1
  rw [pairP_two] at h2
  refine ⟨i, k, rfl, hi, hk, h2, fun p q hp hq hlt => ?_⟩
  have := h3 _ (mem_pair hp hq) (by
    simp only [lexB]
    by_cases e1 : p = i
    · subst e1
      rw [if_pos rfl, if_neg (by omega)]
      exact decide_eq_true (by omega)
    · rw [if_neg (by omega)]
      exact decide_eq_true (by omega))
  rwa [pairP_two] at this
end Go.Proofs.YtlbolnlcncjijaaGreat
namespace Go.Proofs.YtlbolnlcncjijaaGreat
open Go.RowKit
theorem rid_iff {b : DBook} {out : List Int} : ridP b out = true ↔ ∀ i k : Nat, i < k → k < b.horses.length → leftP b out i k = false := by
  unfold ridP
  cases h : (listsL b.horses.length 2).find? (pairP (leftP b out)) with
  | none => exact ⟨fun _ i k hi hk => pair_none h hi hk, fun _ => rfl⟩
  | some l =>
    obtain ⟨i, k, -, h1, h2, h3, -⟩ := pair_some h
    refine ⟨(fun e => by cases e), fun e => ?_⟩
    rw [e i k h1 h2] at h3
    cases h3
theorem all_mem (n : Nat) : natL (List.range n) ∈ listsL n n := by
  rw [mem_listsL]
  unfold natL
  refine ⟨by simp, ?_, fun x hx => ?_⟩
  · unfold incL
    rw [List.pairwise_map]
    exact (List.pairwise_lt_range (n := n)).imp fun {a b} h => by omega
  · obtain ⟨y, hy, rfl⟩ := List.mem_map.1 hx
    have := List.mem_range.1 hy
    omega
theorem all_rid (b : DBook) : ridP b (natL (List.range b.horses.length)) = true := by
  rw [rid_iff]
  intro i k hi hk
  unfold leftP
  have : (i : Int) ∈ natL (List.range b.horses.length) := List.mem_map.2 ⟨i, List.mem_range.2 (by omega), rfl⟩
  rw [decide_eq_true this]
  rfl
theorem drop_facts (b : DBook) : growsI (dropI b) b.horses.length ∧ ridP b (dropI b) = true ∧ ∀ l, growsI l b.horses.length → shortB l (dropI b) = true → ridP b l = false := by
  have hne : dropO b ≠ none := by
    unfold dropO
    rw [Ne, List.findSome?_eq_none_iff]
    intro h
    have h2 := h b.horses.length (List.mem_range.2 (by omega))
    unfold dropAt at h2
    have := List.find?_eq_none.1 h2 _ (all_mem _)
    rw [all_rid] at this
    exact this rfl
  obtain ⟨d, hd⟩ := Option.ne_none_iff_exists'.1 hne
  have hdi : dropI b = d := by unfold dropI; rw [hd]; rfl
  rw [hdi]
  unfold dropO at hd
  obtain ⟨l1, a, l2, e, h1, h2⟩ := List.findSome?_eq_some_iff.1 hd
  unfold dropAt at h1
  obtain ⟨g1, g2, g3⟩ := find_first (lists_pw _ _) h1
  obtain ⟨m1, m2⟩ := mem_listsL.1 g1
  have hp := List.pairwise_lt_range (n := b.horses.length + 1)
  rw [e, List.pairwise_append] at hp
  have ha : a < b.horses.length + 1 := List.mem_range.1 (by rw [e]; simp)
  refine ⟨m2, g2, fun l hl hs => ?_⟩
  unfold shortB at hs
  split at hs
  · rename_i hlen
    exact g3 l (mem_listsL.2 ⟨by omega, hl⟩) hs
  · rename_i hlen
    have hlt : l.length < a := by have := of_decide_eq_true hs; omega
    have hm : l.length ∈ l1 := by
      have : l.length ∈ List.range (b.horses.length + 1) := List.mem_range.2 (by omega)
      rw [e] at this
      rcases List.mem_append.1 this with h | h
      · exact h
      · exfalso
        rcases List.mem_cons.1 h with h | h
        · omega
        · have := (List.pairwise_cons.1 hp.2.1).1 _ h
          omega
    have h3 := h2 _ hm
    unfold dropAt at h3
    have := List.find?_eq_none.1 h3 l (mem_listsL.2 ⟨rfl, hl⟩)
    simpa using this
theorem drop_nil (b : DBook) : dropI b = [] ↔ ∀ i k : Nat, i < k → k < b.horses.length → sameI b i k = 0 := by
  obtain ⟨h1, h2, h3⟩ := drop_facts b
  have key : ridP b [] = true ↔ ∀ i k : Nat, i < k → k < b.horses.length → sameI b i k = 0 := by
    rw [rid_iff]
    refine forall_congr' fun i => forall_congr' fun k => forall_congr' fun _ => forall_congr' fun _ => ?_
    simp [leftP]
  rw [← key]
  constructor
  · intro e; rw [e] at h2; exact h2
  · intro e
    cases hd : dropI b with
    | nil => rfl
    | cons x l =>
      have := h3 [] ⟨List.Pairwise.nil, by simp⟩ (by rw [hd]; simp [shortB])
      rw [this] at e; cases e
end Go.Proofs.YtlbolnlcncjijaaGreat
namespace Go.Proofs.YtlbolnlcncjijaaGreat
open Go.RowKit
def slG (e : TypeId) (o : Option Nat) (rows : List (List PV)) : PV :=
  match o with
  | none => .sl .full 1 []
  | some t => .sl (.own t e 1) 1 rows
def dropT (o : Option Nat) (L : List Nat) : List Nat := match o with | none => L | some t => L.erase t
theorem app_slG {C : Con} {Q : AEx → AS → Prop} {s : AS} {rd : List Nat} {d : Option Nat} {ops : List AOp} {e : TypeId} {o : Option Nat} {rows : List (List PV)} {k2 : SK} {v : PV} (h0 : o = none → rows = []) (hl : rows.length ≤ 999999) (hlv : ∀ t ∈ o.toList, t ∈ s.live)
    (K : ∀ t, t ∉ s.live → contOps C ops Q rd (({ s with live := t :: dropT o s.live } : AS).put d (.p (slG e (some t) (rows ++ [[v]]))))) : appK false (.p (slG e o rows)) (.p (.sl k2 1 [[v]])) e 1 C rd d ops Q s := by
  cases o with
  | none =>
    have := h0 rfl
    subst this
    exact ⟨.inl rfl, .inl rfl, by simp, trivial, K⟩
  | some t =>
    exact ⟨.inl rfl, .inl rfl, by simp; omega, ⟨hlv t (by simp), rfl, rfl⟩, K⟩
theorem retQ_slG {P : Program} {t : Nat} {R : PV → Prop} {s : AS} {e : TypeId} {o : Option Nat} {rows : List (List PV)} (h0 : o = none → rows = []) (h : look s.t t = .p (slG e o rows)) (hR : R (.sl .sh 1 rows)) : retQ P [.tmp t] R s := by
  cases o with
  | none =>
    have := h0 rfl
    subst this
    exact retQ_le h (PVle.sh _ _ _) hR
  | some t => exact retQ_le h (PVle.sh _ _ _) hR
theorem slG_le {e : TypeId} {o : Option Nat} {rows : List (List PV)} (h0 : o = none → rows = []) : PVle (slG e o rows) (.sl .sh 1 rows) := by
  cases o with
  | none =>
    have := h0 rfl
    subst this
    exact PVle.sh _ _ _
  | some t => exact PVle.sh _ _ _
end Go.Proofs.YtlbolnlcncjijaaGreat
namespace Go.Proofs.YtlbolnlcncjijaaGreat
open Go.RowKit
def slZ (e : TypeId) (sz : Nat) (o : Option Nat) (rows : List (List PV)) : PV :=
  match o with
  | none => .sl .full 0 []
  | some t => .sl (.own t e sz) sz rows
theorem app_slZ {C : Con} {Q : AEx → AS → Prop} {s : AS} {rd : List Nat} {d : Option Nat} {ops : List AOp} {e : TypeId} {sz : Nat} {o : Option Nat} {rows : List (List PV)} {k2 : SK} {v : List PV} (h0 : o = none → rows = []) (hl : rows.length ≤ 999999) (hlv : ∀ t ∈ o.toList, t ∈ s.live)
    (K : ∀ t, t ∉ s.live → contOps C ops Q rd (({ s with live := t :: dropT o s.live } : AS).put d (.p (slZ e sz (some t) (rows ++ [v]))))) : appK false (.p (slZ e sz o rows)) (.p (.sl k2 sz [v])) e sz C rd d ops Q s := by
  cases o with
  | none =>
    have := h0 rfl
    subst this
    exact ⟨.inr rfl, .inl rfl, by simp, trivial, K⟩
  | some t =>
    exact ⟨.inl rfl, .inl rfl, by simp; omega, ⟨hlv t (by simp), rfl, rfl⟩, K⟩
theorem slZ_le {e : TypeId} {sz : Nat} {o : Option Nat} {rows : List (List PV)} (h0 : o = none → rows = []) : PVle (slZ e sz o rows) (.sl .sh sz rows) := by
  cases o with
  | none =>
    have := h0 rfl
    subst this
    exact PVle.nil _ _ _
  | some t => exact PVle.sh _ _ _
end Go.Proofs.YtlbolnlcncjijaaGreat
namespace Go.Proofs.YtlbolnlcncjijaaGreat.Mk
open Go.RowKit Ls
def ac87 : AC := (AC.seq (AC.ops [(AOp.mk (some 4) (AK.mv (AX.c (PV.val (Value.bool false)))) none 0 false true)]) (AC.seq (AC.ops [(AOp.mk (some 5) (AK.mv (AX.t 0)) none 0 false true), (AOp.mk (some 6) (AK.mv (AX.t 1)) none 1 false true), (AOp.mk (some 7) (AK.bin false BinOp.shr (AX.t 5) (AX.t 6)) none 2 false true), (AOp.mk (some 8) (AK.bin false BinOp.and (AX.t 7) (AX.c (PV.val (Value.int IntKind.i64 1)))) none 3 false true), (AOp.mk (some 9) (AK.bin false BinOp.eql (AX.t 8) (AX.c (PV.val (Value.int IntKind.i64 1)))) none 4 false true), (AOp.mk (some 4) (AK.mv (AX.t 9)) none 5 false true)]) AC.ret))
theorem ac87_ok : cCode Tryz.prog (fun _ => false) Tryz.f87.ntmps (Tryz.f87.body.getD .skip) = some ac87 := by kernel_rfl
def ac83 : AC := (AC.seq (AC.ops [(AOp.mk (some 0) (AK.new (PV.agg [(PV.val (Value.int IntKind.i64 0)), (PV.val (Value.int IntKind.i64 0)), (PV.val (Value.int IntKind.i64 0)), (PV.val (Value.int IntKind.i64 0)), (PV.val (Value.int IntKind.i64 0)), (PV.val (Value.int IntKind.i64 0))])) none 0 false true)]) (AC.seq (AC.ops [(AOp.mk (some 1) (AK.new (PV.agg [(PV.val (Value.int IntKind.i64 0)), (PV.val (Value.int IntKind.i64 0)), (PV.val (Value.int IntKind.i64 0)), (PV.val (Value.int IntKind.i64 0)), (PV.val (Value.int IntKind.i64 0)), (PV.val (Value.int IntKind.i64 0))])) none 0 false true)]) (AC.seq (AC.seq (AC.ops [(AOp.mk (some 3) (AK.mv (AX.c (PV.val (Value.int IntKind.i64 0)))) none 0 false true)]) (AC.block 0 (AC.loop (AC.seq (AC.ops [(AOp.mk (some 4) (AK.bin false BinOp.lss (AX.t 3) (AX.c (PV.val (Value.int IntKind.i64 6)))) none 0 false true)]) (AC.seq (AC.cond (AX.t 4) AC.skip (AC.exit 0)) (AC.seq (AC.block 1 (AC.seq (AC.ops [(AOp.mk (some 5) (AK.mv (AX.t 3)) none 0 false true), (AOp.mk (some 2) (AK.mv (AX.t 5)) none 1 false true)]) (AC.ops [(AOp.mk (some 6) (AK.mv (AX.t 2)) none 0 false true), (AOp.mk (some 7) (AK.iadrA 1 6 (AX.t 1) (AX.t 6)) none 1 false true), (AOp.mk none (AK.st 1 (AX.t 7) (AX.c (PV.val (Value.int IntKind.i64 31)))) none 2 false true)]))) (AC.ops [(AOp.mk (some 8) (AK.bin false BinOp.add (AX.t 3) (AX.c (PV.val (Value.int IntKind.i64 1)))) none 0 false true), (AOp.mk (some 3) (AK.mv (AX.t 8)) none 1 false true)]))))))) (AC.seq (AC.ops [(AOp.mk (some 9) (AK.ld (some 6) (AX.t 1)) none 0 false true), (AOp.mk none (AK.st 6 (AX.t 0) (AX.t 9)) none 1 false true)]) AC.ret))))
theorem ac83_ok : cCode Tryz.prog (fun _ => false) Tryz.f83.ntmps (Tryz.f83.body.getD .skip) = some ac83 := by kernel_rfl
def ac97 : AC := (AC.seq (AC.ops [(AOp.mk (some 4) (AK.mv (AX.c (PV.val (Value.int IntKind.i64 0)))) none 0 false true)]) (AC.seq (AC.seq (AC.ops [(AOp.mk (some 6) (AK.mv (AX.t 0)) none 0 false true), (AOp.mk (some 7) (AK.len (AX.t 6)) none 1 false true), (AOp.mk (some 8) (AK.mv (AX.c (PV.val (Value.int IntKind.i64 0)))) none 2 false true)]) (AC.block 0 (AC.loop (AC.seq (AC.ops [(AOp.mk (some 9) (AK.bin false BinOp.lss (AX.t 8) (AX.t 7)) none 0 false true)]) (AC.seq (AC.cond (AX.t 9) AC.skip (AC.exit 0)) (AC.seq (AC.block 1 (AC.seq (AC.ops [(AOp.mk (some 10) (AK.mv (AX.t 8)) none 0 false true), (AOp.mk (some 5) (AK.mv (AX.t 10)) none 1 false true)]) (AC.seq (AC.ops [(AOp.mk (some 11) (AK.mv (AX.t 1)) none 0 false true), (AOp.mk (some 12) (AK.mv (AX.t 0)) none 1 false true), (AOp.mk (some 13) (AK.mv (AX.t 5)) none 2 false true), (AOp.mk (some 14) (AK.iadrS 1 (AX.t 12) (AX.t 13)) none 3 false true), (AOp.mk (some 15) (AK.ld none (AX.t 14)) none 4 false true), (AOp.mk (some 16) (AK.bin false BinOp.eql (AX.t 11) (AX.t 15)) none 5 false true)]) (AC.cond (AX.t 16) (AC.seq (AC.ops [(AOp.mk (some 17) (AK.mv (AX.t 5)) none 0 false true), (AOp.mk (some 4) (AK.mv (AX.t 17)) none 1 false true)]) AC.ret) AC.skip)))) (AC.ops [(AOp.mk (some 18) (AK.bin false BinOp.add (AX.t 8) (AX.c (PV.val (Value.int IntKind.i64 1)))) none 0 false true), (AOp.mk (some 8) (AK.mv (AX.t 18)) none 1 false true)]))))))) (AC.seq (AC.ops [(AOp.mk (some 4) (AK.mv (AX.c (PV.val (Value.int IntKind.i64 (-1))))) none 0 false true)]) AC.ret)))
theorem ac97_ok : cCode Tryz.prog (fun _ => false) Tryz.f97.ntmps (Tryz.f97.body.getD .skip) = some ac97 := by kernel_rfl
def ac75 : AC := (AC.seq (AC.ops [(AOp.mk (some 4) (AK.mv (AX.c (PV.val (Value.bool false)))) none 0 false true)]) (AC.seq (AC.ops [(AOp.mk (some 5) (AK.mv (AX.t 0)) none 0 false true), (AOp.mk (some 6) (AK.mv (AX.t 1)) none 1 false true), (AOp.mk (some 7) (AK.call 97 [(AX.t 5), (AX.t 6)]) none 2 false true), (AOp.mk (some 8) (AK.bin false BinOp.geq (AX.t 7) (AX.c (PV.val (Value.int IntKind.i64 0)))) none 3 false true), (AOp.mk (some 4) (AK.mv (AX.t 8)) none 4 false true)]) AC.ret))
theorem ac75_ok : cCode Tryz.prog (fun _ => false) Tryz.f75.ntmps (Tryz.f75.body.getD .skip) = some ac75 := by kernel_rfl
def ac52 : AC := (AC.seq (AC.ops [(AOp.mk (some 1) (AK.box 6 (AX.t 0)) none 0 false true), (AOp.mk (some 2) (AK.mv (AX.c (PV.val (Value.bool false)))) none 1 false true)]) (AC.seq (AC.ops [(AOp.mk (some 3) (AK.slcA 1 6 (AX.t 1) none none) none 0 false true), (AOp.mk (some 4) (AK.call 75 [(AX.t 3), (AX.c (PV.val (Value.int IntKind.i64 0)))]) none 1 false true), (AOp.mk (some 2) (AK.mv (AX.t 4)) none 2 false true)]) AC.ret))
theorem ac52_ok : cCode Tryz.prog (fun _ => false) Tryz.f52.ntmps (Tryz.f52.body.getD .skip) = some ac52 := by kernel_rfl
def ac67 : AC := (AC.seq (AC.ops [(AOp.mk (some 2) (AK.box 6 (AX.t 0)) none 0 false true), (AOp.mk (some 3) (AK.box 6 (AX.t 1)) none 1 false true), (AOp.mk (some 4) (AK.new (PV.agg [(PV.val (Value.int IntKind.i64 0)), (PV.val (Value.int IntKind.i64 0)), (PV.val (Value.int IntKind.i64 0)), (PV.val (Value.int IntKind.i64 0)), (PV.val (Value.int IntKind.i64 0)), (PV.val (Value.int IntKind.i64 0))])) none 2 false true)]) (AC.seq (AC.seq (AC.ops [(AOp.mk (some 6) (AK.mv (AX.c (PV.val (Value.int IntKind.i64 0)))) none 0 false true)]) (AC.block 0 (AC.loop (AC.seq (AC.ops [(AOp.mk (some 7) (AK.bin false BinOp.lss (AX.t 6) (AX.c (PV.val (Value.int IntKind.i64 6)))) none 0 false true)]) (AC.seq (AC.cond (AX.t 7) AC.skip (AC.exit 0)) (AC.seq (AC.block 1 (AC.seq (AC.ops [(AOp.mk (some 8) (AK.mv (AX.t 6)) none 0 false true), (AOp.mk (some 5) (AK.mv (AX.t 8)) none 1 false true)]) (AC.ops [(AOp.mk (some 9) (AK.mv (AX.t 5)) none 0 true false), (AOp.mk (some 10) (AK.iadrA 1 6 (AX.t 2) (AX.t 9)) none 1 true false), (AOp.mk (some 11) (AK.ld none (AX.t 10)) none 2 true false), (AOp.mk (some 12) (AK.mv (AX.t 5)) none 3 true false), (AOp.mk (some 13) (AK.iadrA 1 6 (AX.t 3) (AX.t 12)) none 4 true false), (AOp.mk (some 14) (AK.ld none (AX.t 13)) none 5 true false), (AOp.mk (some 15) (AK.bin false BinOp.and (AX.t 11) (AX.t 14)) none 6 true true), (AOp.mk (some 16) (AK.iadrA 1 6 (AX.t 2) (AX.t 9)) none 7 true true), (AOp.mk none (AK.st 1 (AX.t 16) (AX.t 15)) none 8 false true)]))) (AC.ops [(AOp.mk (some 17) (AK.bin false BinOp.add (AX.t 6) (AX.c (PV.val (Value.int IntKind.i64 1)))) none 0 false true), (AOp.mk (some 6) (AK.mv (AX.t 17)) none 1 false true)]))))))) (AC.seq (AC.ops [(AOp.mk (some 18) (AK.ld (some 6) (AX.t 2)) none 0 false true), (AOp.mk none (AK.st 6 (AX.t 4) (AX.t 18)) none 1 false true)]) AC.ret)))
theorem ac67_ok : cCode Tryz.prog (fun _ => false) Tryz.f67.ntmps (Tryz.f67.body.getD .skip) = some ac67 := by kernel_rfl
def ac76 : AC := (AC.seq (AC.ops [(AOp.mk (some 2) (AK.mv (AX.c (PV.sl SK.full 0 []))) none 0 false true)]) (AC.seq (AC.ops [(AOp.mk (some 4) (AK.mv (AX.t 0)) none 0 false true), (AOp.mk (some 5) (AK.len (AX.t 4)) none 1 false true), (AOp.mk (some 3) (AK.mv (AX.t 5)) none 2 false true)]) (AC.seq (AC.ops [(AOp.mk (some 6) (AK.mv (AX.t 0)) none 0 false true), (AOp.mk (some 7) (AK.mv (AX.t 3)) none 1 false true), (AOp.mk (some 8) (AK.mv (AX.t 3)) none 2 false true), (AOp.mk (some 9) (AK.slc 1 (AX.t 6) none (some (AX.t 7)) (some (AX.t 8))) none 3 false true), (AOp.mk (some 2) (AK.mv (AX.t 9)) none 4 false true)]) AC.ret)))
theorem ac76_ok : cCode Tryz.prog (fun _ => false) Tryz.f76.ntmps (Tryz.f76.body.getD .skip) = some ac76 := by kernel_rfl
def ac53 : AC := (AC.seq (AC.ops [(AOp.mk (some 4) (AK.mv (AX.c (PV.sl SK.full 0 []))) none 0 false true)]) (AC.seq (AC.ops [(AOp.mk (some 5) (AK.mv (AX.c (PV.sl SK.full 0 []))) none 0 false true)]) (AC.seq (AC.seq (AC.ops [(AOp.mk (some 7) (AK.mv (AX.t 0)) none 0 false true), (AOp.mk (some 8) (AK.mv (AX.c (PV.val (Value.int IntKind.i64 0)))) none 1 false true)]) (AC.block 0 (AC.loop (AC.seq (AC.ops [(AOp.mk (some 9) (AK.bin false BinOp.lss (AX.t 8) (AX.t 7)) none 0 false true)]) (AC.seq (AC.cond (AX.t 9) AC.skip (AC.exit 0)) (AC.seq (AC.block 1 (AC.seq (AC.ops [(AOp.mk (some 10) (AK.mv (AX.t 8)) none 0 false true), (AOp.mk (some 6) (AK.mv (AX.t 10)) none 1 false true)]) (AC.seq (AC.ops [(AOp.mk (some 11) (AK.mv (AX.t 1)) none 0 false true), (AOp.mk (some 12) (AK.mv (AX.t 6)) none 1 false true), (AOp.mk (some 13) (AK.callv (AX.t 11) [(AX.t 12)]) none 2 false true)]) (AC.cond (AX.t 13) (AC.ops [(AOp.mk (some 14) (AK.mv (AX.t 5)) none 0 false true), (AOp.mk (some 15) (AK.mv (AX.t 6)) none 1 false true), (AOp.mk (some 16) (AK.bslice false 3 1 1 [(PV.val (Value.int IntKind.i64 0))] [(0, (1, (AX.t 15)))]) none 2 false true), (AOp.mk (some 17) (AK.app false 3 1 8 [(PV.val (Value.int IntKind.i64 0))] (AX.t 14) (AX.t 16)) none 3 false true), (AOp.mk (some 5) (AK.mv (AX.t 17)) none 4 false true)]) AC.skip)))) (AC.ops [(AOp.mk (some 18) (AK.bin false BinOp.add (AX.t 8) (AX.c (PV.val (Value.int IntKind.i64 1)))) none 0 false true), (AOp.mk (some 8) (AK.mv (AX.t 18)) none 1 false true)]))))))) (AC.seq (AC.ops [(AOp.mk (some 19) (AK.mv (AX.t 5)) none 0 false true), (AOp.mk (some 20) (AK.call 76 [(AX.t 19)]) none 1 false true), (AOp.mk (some 4) (AK.mv (AX.t 20)) none 2 false true)]) AC.ret))))
theorem ac53_ok : cCode Tryz.prog (fun _ => false) Tryz.f53.ntmps (Tryz.f53.body.getD .skip) = some ac53 := by kernel_rfl
def ac85 : AC := (AC.seq (AC.ops [(AOp.mk (some 2) (AK.mv (AX.c (PV.val (Value.int IntKind.i64 0)))) none 0 false true)]) (AC.seq (AC.ops [(AOp.mk (some 3) (AK.mv (AX.t 0)) none 0 false true), (AOp.mk (some 4) (AK.nilc (AX.t 3)) none 1 false true), (AOp.mk (some 5) (AK.fadr 0 (AX.t 4)) none 2 false true), (AOp.mk (some 6) (AK.ld (some 4) (AX.t 5)) none 3 false true), (AOp.mk (some 7) (AK.call 99 [(AX.t 6)]) none 4 false true), (AOp.mk (some 2) (AK.mv (AX.t 7)) none 5 false true)]) AC.ret))
theorem ac85_ok : cCode Tryz.prog (fun _ => false) Tryz.f85.ntmps (Tryz.f85.body.getD .skip) = some ac85 := by kernel_rfl
def ac86 : AC := (AC.seq (AC.ops [(AOp.mk (some 2) (AK.mv (AX.c (PV.val (Value.int IntKind.i64 0)))) none 0 false true)]) (AC.seq (AC.ops [(AOp.mk (some 3) (AK.mv (AX.t 0)) none 0 false true), (AOp.mk (some 4) (AK.nilc (AX.t 3)) none 1 false true), (AOp.mk (some 5) (AK.fadr 0 (AX.t 4)) none 2 false true), (AOp.mk (some 6) (AK.fadr 3 (AX.t 5)) none 3 false true), (AOp.mk (some 7) (AK.ld none (AX.t 6)) none 4 false true), (AOp.mk (some 2) (AK.mv (AX.t 7)) none 5 false true)]) AC.ret))
theorem ac86_ok : cCode Tryz.prog (fun _ => false) Tryz.f86.ntmps (Tryz.f86.body.getD .skip) = some ac86 := by kernel_rfl
theorem has_sem (s k : Nat) (hk : k ≤ 64) : Sem1 87 [pi s, pi k] (pb (s.testBit k)) := by
  refine semC_of_exec' mixed Tryz.func87 (by kernel_rfl) (by kernel_rfl) ac87_ok 2 rfl (by decide) [(.tmp 4)] (by kernel_rfl) ?_
  intro hr C hC hI
  unfold ac87
  simp only [go_sem, Nat.reduceBEq, bin_shr (show ¬ (k : Int) < 0 by omega), bin_and]
  refine retQ_one rfl ?_
  rw [← of_bit hk]
  exact congrArg (fun x : Int => pb (decide (x = 1))) (and1 ((s : Int).fdiv (2 ^ min (k : Int).toNat 64)))
theorem and_nat {x y : Nat} (hx : x < 9223372036854775808) (hy : y < 9223372036854775808) : IntKind.i64.wrap ((BitVec.ofInt 64 (x : Int) &&& BitVec.ofInt 64 (y : Int)).toNat : Int) = ((x &&& y : Nat) : Int) := by
  have e : (BitVec.ofInt 64 (x : Int) &&& BitVec.ofInt 64 (y : Int)).toNat = x &&& y := by
    rw [BitVec.ofInt_natCast, BitVec.ofInt_natCast, BitVec.toNat_and, BitVec.toNat_ofNat, BitVec.toNat_ofNat, Nat.mod_eq_of_lt (by omega), Nat.mod_eq_of_lt (by omega)]
  rw [e]
  have : x &&& y ≤ x := Nat.and_le_left
  exact wrap_id (by omega) (by omega)
theorem bin_andN {x y : Nat} (hx : x < 9223372036854775808) (hy : y < 9223372036854775808) : binS false .and (.p (pi x)) (.p (pi y)) = some (.p (pi ((x &&& y : Nat) : Int))) := by
  rw [bin_and]
  exact congrArg (fun n => some (AV.p (pi n))) (and_nat hx hy)
abbrev arr6 (f : Nat → Nat) : List PV := [pi (f 0), pi (f 1), pi (f 2), pi (f 3), pi (f 4), pi (f 5)]
theorem lt6 {i : Nat} (h : i < 6) : i = 0 ∨ i = 1 ∨ i = 2 ∨ i = 3 ∨ i = 4 ∨ i = 5 := by omega
theorem ia6 {id o i : Nat} (h : i < 6) : iadrAS 1 6 (.loc id o) (.p (pi i)) = some (.loc id (o + i)) := by
  rw [iadrA_loc' h]; simp
theorem ia6_0 {id o : Nat} : iadrAS 1 6 (.loc id o) (.p (PV.val (Value.int IntKind.i64 0))) = some (.loc id (o + 0)) := ia6 (i := 0) (by decide)
theorem ia6_1 {id o : Nat} : iadrAS 1 6 (.loc id o) (.p (PV.val (Value.int IntKind.i64 1))) = some (.loc id (o + 1)) := ia6 (i := 1) (by decide)
theorem ia6_2 {id o : Nat} : iadrAS 1 6 (.loc id o) (.p (PV.val (Value.int IntKind.i64 2))) = some (.loc id (o + 2)) := ia6 (i := 2) (by decide)
theorem ia6_3 {id o : Nat} : iadrAS 1 6 (.loc id o) (.p (PV.val (Value.int IntKind.i64 3))) = some (.loc id (o + 3)) := ia6 (i := 3) (by decide)
theorem ia6_4 {id o : Nat} : iadrAS 1 6 (.loc id o) (.p (PV.val (Value.int IntKind.i64 4))) = some (.loc id (o + 4)) := ia6 (i := 4) (by decide)
theorem ia6_5 {id o : Nat} : iadrAS 1 6 (.loc id o) (.p (PV.val (Value.int IntKind.i64 5))) = some (.loc id (o + 5)) := ia6 (i := 5) (by decide)
theorem wl1 : IntKind.i64.wrap 1 = 1 := rfl
theorem wl2 : IntKind.i64.wrap 2 = 2 := rfl
theorem wl3 : IntKind.i64.wrap 3 = 3 := rfl
theorem wl4 : IntKind.i64.wrap 4 = 4 := rfl
theorem wl5 : IntKind.i64.wrap 5 = 5 := rfl
theorem wl6 : IntKind.i64.wrap 6 = 6 := rfl
theorem allValues_sem : Sem1 83 [] (.agg (arr6 fun _ => 31)) := by
  refine semC_of_exec' mixed Tryz.func83 (by kernel_rfl) (by kernel_rfl) ac83_ok 0 rfl (by decide) [(.cell 0 99)] (by kernel_rfl) ?_
  intro hr C hC hI
  unfold ac83
  simp only [go_sem]
  refine loop_kl 6 (fun _ => True) [0, 1] (fun i => [(3, .p (pi i))]) (fun i => [.cells [.p (pi 0), .p (pi 0), .p (pi 0), .p (pi 0), .p (pi 0), .p (pi 0)], .cells [.p (pi (if 0 < i then 31 else 0)), .p (pi (if 1 < i then 31 else 0)), .p (pi (if 2 < i then 31 else 0)), .p (pi (if 3 < i then 31 else 0)), .p (pi (if 4 < i then 31 else 0)), .p (pi (if 5 < i then 31 else 0))]]) trivial (by simp [Wk, wkT, wkL, look, AV.lo, AV.lo.loL, upS_eq, keepS_nil, keepS_cons]) ?_
  rintro i ⟨hi, -⟩
  have h7 : i = 0 ∨ i = 1 ∨ i = 2 ∨ i = 3 ∨ i = 4 ∨ i = 5 ∨ i = 6 := by omega
  rcases h7 with rfl | rfl | rfl | rfl | rfl | rfl | rfl
  · simp only [go_sem, Nat.reduceBEq, Nat.reduceAdd, Nat.reduceLeDiff, Int.cast_ofNat_Int, Nat.reduceLT, if_false, decide_true, not_false_eq_true, Int.reduceLT, ia6_0, putCells]
    exact ⟨⟨1, by omega, trivial⟩, by simp only; omega, by simp [Wk, wkT, wkL, look, AV.lo, AV.lo.loL, ABlk.toZ, wl1]⟩
  · simp only [go_sem, Nat.reduceBEq, Nat.reduceAdd, Nat.reduceLeDiff, Int.cast_ofNat_Int, Nat.reduceLT, if_true, if_false, decide_true, not_false_eq_true, Int.reduceLT, ia6_1, putCells]
    exact ⟨⟨2, by omega, trivial⟩, by simp only; omega, by simp [Wk, wkT, wkL, look, AV.lo, AV.lo.loL, ABlk.toZ, wl2]⟩
  · simp only [go_sem, Nat.reduceBEq, Nat.reduceAdd, Nat.reduceLeDiff, Int.cast_ofNat_Int, Nat.reduceLT, if_true, if_false, decide_true, not_false_eq_true, Int.reduceLT, ia6_2, putCells]
    exact ⟨⟨3, by omega, trivial⟩, by simp only; omega, by simp [Wk, wkT, wkL, look, AV.lo, AV.lo.loL, ABlk.toZ, wl3]⟩
  · simp only [go_sem, Nat.reduceBEq, Nat.reduceAdd, Nat.reduceLeDiff, Int.cast_ofNat_Int, Nat.reduceLT, if_true, if_false, decide_true, not_false_eq_true, Int.reduceLT, ia6_3, putCells]
    exact ⟨⟨4, by omega, trivial⟩, by simp only; omega, by simp [Wk, wkT, wkL, look, AV.lo, AV.lo.loL, ABlk.toZ, wl4]⟩
  · simp only [go_sem, Nat.reduceBEq, Nat.reduceAdd, Nat.reduceLeDiff, Int.cast_ofNat_Int, Nat.reduceLT, if_true, if_false, decide_true, not_false_eq_true, Int.reduceLT, ia6_4, putCells]
    exact ⟨⟨5, by omega, trivial⟩, by simp only; omega, by simp [Wk, wkT, wkL, look, AV.lo, AV.lo.loL, ABlk.toZ, wl5]⟩
  · simp only [go_sem, Nat.reduceBEq, Nat.reduceAdd, Int.cast_ofNat_Int, Nat.reduceLT, if_true, if_false, decide_true, not_false_eq_true, Int.reduceLT, ia6_5, putCells]
    exact ⟨⟨6, by omega, trivial⟩, by simp only; omega, by simp [Wk, wkT, wkL, look, AV.lo, AV.lo.loL, ABlk.toZ, wl6]⟩
  · simp only [go_sem, Nat.reduceBEq, Nat.reduceAdd, Int.cast_ofNat_Int, Nat.reduceLT, if_true, decide_false, not_false_eq_true, Int.reduceLT, putCells]
    refine retQ_cell (n := some 6) (by kernel_rfl) rfl rfl
def idxI {α : Type} (l : List α) (p : α → Bool) : Int := match l.findIdx? p with | some i => i | none => -1
theorem idxI_neg {α : Type} {l : List α} {p : α → Bool} : 0 ≤ idxI l p ↔ l.any p = true := by
  unfold idxI
  cases h : l.findIdx? p with
  | none =>
    rw [List.findIdx?_eq_none_iff] at h
    simp only [List.any_eq_true]
    constructor
    · intro h0; omega
    · rintro ⟨x, hx, hp⟩; rw [h x hx] at hp; cases hp
  | some i =>
    rw [List.findIdx?_eq_some_iff_getElem] at h
    obtain ⟨h1, h2, -⟩ := h
    simp only [List.any_eq_true]
    exact ⟨fun _ => ⟨_, List.getElem_mem h1, h2⟩, fun _ => by omega⟩
theorem idxI_dec {α : Type} {l : List α} {p : α → Bool} : decide (0 ≤ idxI l p) = l.any p := by
  have := idxI_neg (l := l) (p := p)
  cases h : l.any p
  · rw [h] at this
    exact decide_eq_false fun h0 => by have := this.1 h0; cases this
  · exact decide_eq_true (this.2 h)
theorem idxI_some {α : Type} {l : List α} {p : α → Bool} {j : Nat} (h : j < l.length) (hp : p l[j] = true) (hn : ∀ x ∈ l.take j, p x = false) : idxI l p = j := by
  unfold idxI
  have : l.findIdx? p = some j := by
    rw [List.findIdx?_eq_some_iff_getElem]
    refine ⟨h, hp, fun i hi => ?_⟩
    have := hn l[i] (List.mem_iff_getElem.2 ⟨i, by rw [List.length_take]; omega, by simp⟩)
    simp [this]
  rw [this]
theorem idxI_none {α : Type} {l : List α} {p : α → Bool} (hn : ∀ x ∈ l, p x = false) : idxI l p = -1 := by
  unfold idxI
  rw [List.findIdx?_eq_none_iff.2 hn]
theorem take_next {α : Type} {l : List α} {j : Nat} (h : j < l.length) {P : α → Prop} (h1 : ∀ x ∈ l.take j, P x) (h2 : P l[j]) : ∀ x ∈ l.take (j + 1), P x := by
  intro x hx
  rw [List.take_succ_eq_append_getElem h, List.mem_append, List.mem_singleton] at hx
  rcases hx with hx | rfl
  · exact h1 x hx
  · exact h2
theorem IndexS_sem (l : List Int) (x : Int) : Sem1 97 [pis l, pi x] (pi (idxI l fun y => decide (x = y))) := by
  refine semC_of_exec' mixed Tryz.func97 (by kernel_rfl) (by kernel_rfl) ac97_ok 2 rfl (by decide) [(.tmp 4)] (by kernel_rfl) ?_
  intro hr C hC hI
  unfold ac97
  simp only [go_sem, Nat.reduceBEq, List.length_map]
  have hl := real_len (i := 0) hr rfl
  rw [List.length_map] at hl
  refine loop_k l.length (fun j => ∀ y ∈ l.take j, decide (x = y) = false) [0, 1, 7] (fun j => [(8, .p (pi j))]) (by simp) rfl ⟨rfl, by simp, by simp⟩ (by simp [wkT, look, AV.lo]) ?_
  rintro j ⟨hj, hok⟩
  simp only [go_sem, Nat.reduceBEq]
  refine ⟨fun h5 => ?_, fun h5 => ?_⟩
  · have hj2 : j < l.length := by omega
    simp only [go_sem, Nat.reduceBEq, iadr_pis hj2]
    refine ⟨fun h6 => ?_, fun h6 => ?_⟩
    · exact retQ_one rfl (by rw [idxI_some hj2 (p := fun y => decide (x = y)) (decide_eq_true h6) hok])
    · simp only [go_sem, wrap_succ (k := j) (by omega)]
      refine ⟨⟨j + 1, hj2, take_next hj2 hok (decide_eq_false h6)⟩, by simp only; omega, by simp [Wk, wkT, wkL, look, AV.lo]⟩
  · have hjn : j = l.length := by omega
    subst hjn
    rw [List.take_length] at hok
    exact retQ_one rfl (by rw [idxI_none hok])
theorem ContainsS_sem (l : List Int) (x : Int) : Sem1 75 [pis l, pi x] (pb (decide (x ∈ l))) := by
  refine semC_of_exec' mixed Tryz.func75 (by kernel_rfl) (by kernel_rfl) ac75_ok 2 rfl (by decide) [(.tmp 4)] (by kernel_rfl) ?_
  intro hr C hC hI
  unfold ac75
  simp only [go_sem, Nat.reduceBEq]
  refine call_pure2 hC (IndexS_sem l x) rfl (PVleL_refl _) ?_
  rintro r rfl
  simp only [go_sem, Nat.reduceBEq]
  refine retQ_one rfl (congrArg pb ?_)
  rw [idxI_dec, Bool.eq_iff_iff]
  simp
theorem pur_arr6 (f : Nat → Nat) : pur 100 [ABlk.cells [AV.p (pi (f 0)), AV.p (pi (f 1)), AV.p (pi (f 2)), AV.p (pi (f 3)), AV.p (pi (f 4)), AV.p (pi (f 5))]] (AV.loc 0 0) = some (.ptr (arr6 f) 0, [.frz (arr6 f)]) := rfl
abbrev int6 (f : Nat → Nat) : List Int := [(f 0 : Int), (f 1 : Int), (f 2 : Int), (f 3 : Int), (f 4 : Int), (f 5 : Int)]
def lackB (f : Nat → Nat) : Bool := decide ((0 : Int) ∈ int6 f)
theorem lack_iff {f : Nat → Nat} : lackB f = true ↔ ∃ k, k < 6 ∧ f k = 0 := by
  unfold lackB
  rw [decide_eq_true_eq]
  simp only [List.mem_cons, List.not_mem_nil, or_false]
  constructor
  · rintro (h | h | h | h | h | h)
    · exact ⟨0, by omega, by omega⟩
    · exact ⟨1, by omega, by omega⟩
    · exact ⟨2, by omega, by omega⟩
    · exact ⟨3, by omega, by omega⟩
    · exact ⟨4, by omega, by omega⟩
    · exact ⟨5, by omega, by omega⟩
  · rintro ⟨k, hk, h⟩
    rcases lt6 hk with rfl | rfl | rfl | rfl | rfl | rfl <;> simp [h]
theorem lacksSome_sem (f : Nat → Nat) : Sem1 52 [.agg (arr6 f)] (pb (lackB f)) := by
  refine semC_of_exec' mixed Tryz.func52 (by kernel_rfl) (by kernel_rfl) ac52_ok 1 rfl (by decide) [(.tmp 2)] (by kernel_rfl) ?_
  intro hr C hC hI
  unfold ac52
  simp only [go_sem, Nat.reduceBEq, Nat.reduceAdd, Nat.reduceMul, pur_arr6]
  refine ⟨by decide, by decide, by simp, ?_⟩
  refine call_pure2 hC (ContainsS_sem (int6 f) 0) rfl ⟨PVle.sh _ _ _, PVle.refl _, trivial⟩ ?_
  rintro r rfl
  simp only [go_sem, Nat.reduceBEq]
  refine retQ_one rfl (congrArg pb ?_)
  unfold lackB
  exact decide_eq_decide.2 (by simp)
theorem common_sem (f g : Nat → Nat) (hf : ∀ k, f k ≤ 31) (hg : ∀ k, g k ≤ 31) : Sem1 67 [.agg (arr6 f), .agg (arr6 g)] (.agg (arr6 fun k => f k &&& g k)) := by
  have e : ∀ k, binS false .and (.p (pi (f k))) (.p (pi (g k))) = some (.p (pi ((f k &&& g k : Nat) : Int))) := fun k => bin_andN (by have := hf k; omega) (by have := hg k; omega)
  refine semC_of_exec' mixed Tryz.func67 (by kernel_rfl) (by kernel_rfl) ac67_ok 2 rfl (by decide) [(.cell 4 99)] (by kernel_rfl) ?_
  intro hr C hC hI
  unfold ac67
  simp only [go_sem, Nat.reduceBEq, Nat.reduceAdd]
  refine loop_kl 6 (fun _ => True) [2, 3, 4] (fun i => [(6, .p (pi i))]) (fun i => [.cells [.p (pi (if 0 < i then f 0 &&& g 0 else f 0 : Nat)), .p (pi (if 1 < i then f 1 &&& g 1 else f 1 : Nat)), .p (pi (if 2 < i then f 2 &&& g 2 else f 2 : Nat)), .p (pi (if 3 < i then f 3 &&& g 3 else f 3 : Nat)), .p (pi (if 4 < i then f 4 &&& g 4 else f 4 : Nat)), .p (pi (if 5 < i then f 5 &&& g 5 else f 5 : Nat))], .cells ((arr6 g).map .p), .cells [.p (pi 0), .p (pi 0), .p (pi 0), .p (pi 0), .p (pi 0), .p (pi 0)]]) trivial (by simp [Wk, wkT, wkL, look, AV.lo, AV.lo.loL, upS_eq, keepS_nil, keepS_cons]) ?_
  rintro i ⟨hi, -⟩
  have h7 : i = 0 ∨ i = 1 ∨ i = 2 ∨ i = 3 ∨ i = 4 ∨ i = 5 ∨ i = 6 := by omega
  rcases h7 with rfl | rfl | rfl | rfl | rfl | rfl | rfl
  · simp only [go_sem, Nat.reduceBEq, Nat.reduceAdd, Nat.reduceLeDiff, Int.cast_ofNat_Int, Nat.reduceLT, Nat.lt_irrefl, if_false, decide_true, not_false_eq_true, Int.reduceLT, ia6_0, putCells, e, List.map_cons, List.map_nil]
    exact ⟨⟨1, by omega, trivial⟩, by simp only; omega, by simp [Wk, wkT, wkL, look, AV.lo, AV.lo.loL, ABlk.toZ, wl1]⟩
  · simp only [go_sem, Nat.reduceBEq, Nat.reduceAdd, Nat.reduceLeDiff, Int.cast_ofNat_Int, Nat.reduceLT, Nat.lt_irrefl, if_true, if_false, decide_true, not_false_eq_true, Int.reduceLT, ia6_1, putCells, e, List.map_cons, List.map_nil]
    exact ⟨⟨2, by omega, trivial⟩, by simp only; omega, by simp [Wk, wkT, wkL, look, AV.lo, AV.lo.loL, ABlk.toZ, wl2]⟩
  · simp only [go_sem, Nat.reduceBEq, Nat.reduceAdd, Nat.reduceLeDiff, Int.cast_ofNat_Int, Nat.reduceLT, Nat.lt_irrefl, if_true, if_false, decide_true, not_false_eq_true, Int.reduceLT, ia6_2, putCells, e, List.map_cons, List.map_nil]
    exact ⟨⟨3, by omega, trivial⟩, by simp only; omega, by simp [Wk, wkT, wkL, look, AV.lo, AV.lo.loL, ABlk.toZ, wl3]⟩
  · simp only [go_sem, Nat.reduceBEq, Nat.reduceAdd, Nat.reduceLeDiff, Int.cast_ofNat_Int, Nat.reduceLT, Nat.lt_irrefl, if_true, if_false, decide_true, not_false_eq_true, Int.reduceLT, ia6_3, putCells, e, List.map_cons, List.map_nil]
    exact ⟨⟨4, by omega, trivial⟩, by simp only; omega, by simp [Wk, wkT, wkL, look, AV.lo, AV.lo.loL, ABlk.toZ, wl4]⟩
  · simp only [go_sem, Nat.reduceBEq, Nat.reduceAdd, Nat.reduceLeDiff, Int.cast_ofNat_Int, Nat.reduceLT, Nat.lt_irrefl, if_true, if_false, decide_true, not_false_eq_true, Int.reduceLT, ia6_4, putCells, e, List.map_cons, List.map_nil]
    exact ⟨⟨5, by omega, trivial⟩, by simp only; omega, by simp [Wk, wkT, wkL, look, AV.lo, AV.lo.loL, ABlk.toZ, wl5]⟩
  · simp only [go_sem, Nat.reduceBEq, Nat.reduceAdd, Int.cast_ofNat_Int, Nat.reduceLT, Nat.lt_irrefl, if_true, if_false, decide_true, not_false_eq_true, Int.reduceLT, ia6_5, putCells, e, List.map_cons, List.map_nil]
    exact ⟨⟨6, by omega, trivial⟩, by simp only; omega, by simp [Wk, wkT, wkL, look, AV.lo, AV.lo.loL, ABlk.toZ, wl6]⟩
  · simp only [go_sem, Nat.reduceBEq, Nat.reduceAdd, Int.cast_ofNat_Int, Nat.reduceLT, if_true, decide_false, not_false_eq_true, Int.reduceLT, putCells, List.map_cons, List.map_nil]
    refine retQ_cell (n := some 6) (by kernel_rfl) rfl rfl
theorem handedOn_sem (k : SK) (sz : Nat) (l : List Int) (hsz : sz = 1 ∨ l = []) : Sem1 76 [.sl k sz (l.map fun x => [pi x])] (.sl .full 1 (l.map fun x => [pi x])) := by
  refine semC_of_exec' mixed Tryz.func76 (by kernel_rfl) (by kernel_rfl) ac76_ok 1 rfl (by decide) [(.tmp 2)] (by kernel_rfl) ?_
  intro hr C hC hI
  unfold ac76
  simp only [go_sem, Nat.reduceBEq, slcS_all (sz := sz) (sz' := 1) (k := k) (es := l.map fun x => [pi x]) (hsz.imp id fun h => by rw [h]; rfl)]
  exact retQ_one rfl rfl
def natL (l : List Nat) : List Int := l.map fun (t : Nat) => (t : Int)
theorem natL_len (l : List Nat) : (natL l).length = l.length := by unfold natL; rw [List.length_map]
theorem filt_rows (e : Nat) (P : Nat → Bool) : ((natL ((List.range (e + 1)).filter P)).map fun x => [pi x]) = ((natL ((List.range e).filter P)).map fun x => [pi x]) ++ if P e then [[pi e]] else [] := by
  unfold natL
  rw [List.range_succ, List.filter_append, List.map_append, List.map_append]
  congr 1
  simp only [List.filter_cons, List.filter_nil]
  split <;> rfl
theorem filt_le' (e : Nat) (P : Nat → Bool) : ((List.range e).filter P).length ≤ e := Nat.le_trans (List.length_filter_le ..) (by simp)
abbrev fnV (f : FuncId) : PV := .val (.func (.func f) #[] #[])
theorem those_sem {f : FuncId} {fi cap : List PV} {e : Nat} {P : Nat → Bool} (he : e ≤ 1000) (hf : ∀ n : Nat, n < e → Sem1 f (fi ++ [pi n] ++ cap) (pb (P n))) : Sem1 53 [pi e, .clo f fi cap] (.sl .full 1 ((natL ((List.range e).filter P)).map fun x => [pi x])) := by
  refine semC_of_exec' mixed Tryz.func53 (by kernel_rfl) (by kernel_rfl) ac53_ok 2 rfl (by decide) [(.tmp 4)] (by kernel_rfl) ?_
  intro hr C hC hI
  unfold ac53
  simp only [go_sem, Nat.reduceBEq]
  refine loop_g (α := Nat × Option Nat) (fun a => a.1 ≤ e ∧ (a.2 = none → ((natL ((List.range a.1).filter P)).map fun x => [pi x]) = [])) (fun a => e - a.1) [1, 7] (fun a => [(5, .p (slZ 3 1 a.2 ((natL ((List.range a.1).filter P)).map fun x => [pi x]))), (8, .p (pi a.1))]) (fun _ => []) (fun a => a.2.toList) (0, none) ⟨by omega, fun _ => rfl⟩ (by simp [Wk, wkT, wkL, look, AV.lo, upS_eq, keepS_nil, keepS_cons, slZ]) ?_
  rintro ⟨j, o⟩ ⟨hj, h0⟩
  replace hj : j ≤ e := hj
  replace h0 : o = none → ((natL ((List.range j).filter P)).map fun x => [pi x]) = [] := h0
  have hnx := filt_rows j P
  have hfl := filt_le' j P
  simp only [go_sem, Nat.reduceBEq]
  refine ⟨fun h5 => ?_, fun h5 => ?_⟩
  · have hj2 : j < e := by omega
    rw [show List.map AV.p fi ++ [AV.p (pi j)] ++ List.map AV.p cap = (fi ++ [pi j] ++ cap).map AV.p by simp]
    refine call_pure hC (hf j hj2) (PVleL_refl _) ?_
    rintro r rfl
    cases hp : P j
    · rw [hp, if_neg (by decide), List.append_nil] at hnx
      simp only [go_sem, Nat.reduceBEq, wrap_succ (k := j) (by omega)]
      refine ⟨⟨(j + 1, o), hj2, fun h => hnx.trans (h0 h)⟩, by simp only; omega, ?_⟩
      simp only [hnx]
      cases o <;> simp [Wk, wkT, wkL, look, AV.lo]
    · rw [hp, if_pos rfl] at hnx
      simp only [go_sem, Nat.reduceBEq]
      refine app_slZ h0 (by rw [List.length_map, natL_len]; omega) (by simp) fun tk htk => ?_
      simp only [go_sem, Nat.reduceBEq, wrap_succ (k := j) (by omega)]
      refine ⟨⟨(j + 1, some tk), hj2, (fun h => by cases h)⟩, by simp only; omega, ?_⟩
      simp only [hnx]
      refine ⟨by simp [wkT, look, AV.lo], trivial, by simp, by simp, rfl, rfl, by simp⟩
  · have hjn : j = e := by omega
    subst hjn
    cases o with
    | none =>
      rw [h0 rfl]
      refine call_pure2 hC (handedOn_sem .full 0 [] (.inr rfl)) rfl (PVleL_refl _) ?_
      rintro r rfl
      simp only [go_sem, Nat.reduceBEq]
      exact retQ_one rfl rfl
    | some t =>
      refine call_pure2 hC (handedOn_sem (.own t 3 1) 1 (natL ((List.range j).filter P)) (.inl rfl)) rfl (PVleL_refl _) ?_
      rintro r rfl
      simp only [go_sem, Nat.reduceBEq]
      exact retQ_one rfl rfl
def worksL (b : MBook) : List (Nat × Nat) := (List.range (b.makers.length * nK b)).map fun k => (k / nK b, k % nK b)
def ownE (b : MBook) : List (PV × PV) := (worksL b).map fun v => (.agg [pi v.1, pi v.2], pi (ownN b v.1 v.2))
abbrev bookX (k k2 : SK) (b : MBook) (m : PV) : PV := .ptr [.sl k 1 (rowsC b.makers), .sl k2 2 (seenC b.seen), pi b.repairs, pi b.fixed, pi (seenN b 0), pi (seenN b 1), pi (seenN b 2), pi (seenN b 3), pi (seenN b 4), pi (seenN b 5), m] 0
abbrev bookP (k k2 : SK) (b : MBook) : PV := bookX k k2 b (.mpf (ownE b))
theorem kinds_sem (k k2 : SK) (b : MBook) (m : PV) : Sem1 85 [bookX k k2 b m] (pi (nK b)) := by
  refine semC_of_exec' mixed Tryz.func85 (by kernel_rfl) (by kernel_rfl) ac85_ok 1 rfl (by decide) [(.tmp 2)] (by kernel_rfl) ?_
  intro hr C hC hI
  unfold ac85
  simp only [go_sem, Nat.reduceBEq, Nat.reduceAdd, Nat.reduceLeDiff]
  refine call_pure2 hC (kindsOf_sem k k2 b) rfl (PVleL_refl _) ?_
  rintro r rfl
  simp only [go_sem, Nat.reduceBEq]
  exact retQ_one rfl rfl
theorem fixed_sem (k k2 : SK) (b : MBook) (m : PV) : Sem1 86 [bookX k k2 b m] (pi b.fixed) := by
  refine semC_of_exec' mixed Tryz.func86 (by kernel_rfl) (by kernel_rfl) ac86_ok 1 rfl (by decide) [(.tmp 2)] (by kernel_rfl) ?_
  intro hr C hC hI
  unfold ac86
  simp only [go_sem, Nat.reduceBEq]
  exact retQ_one rfl rfl
end Go.Proofs.YtlbolnlcncjijaaGreat.Mk
