/- Walks: the search for places. -/
import Derived.Test.YtbbolibkheelmaaGa08
import Derived.ArgAppend
namespace Go.Proofs.Ytbbolibkheelmaa
open Go.RowKit Go.Shelf

attribute [local go_sem] Oper.semAt_some
attribute [local go_sem ↓] append_alias

/-- A slice with no room behind its end. -/
def slV (a : Option Addr) (n : Nat) : Value := match a with | none => .slice none 0 0 | some b => .slice (some b) n n

/-- nil, or with room enough. -/
def Room (a : Option Addr) (n c : Nat) : Prop := (a = none ∧ n = 0 ∧ c = 0) ∨ ∃ b, a = some b ∧ n ≤ c ∧ c ≤ 9223372036854775807

theorem append_fresh {bl n bt : Nat} {w : World} {aa : Option Addr} {xs : List Int} {t : Int} (ha : IntsOff bl w aa n xs) (hn : n ≤ 100) (ht : I64 t) (hnil : aa = none → n = 0) (hb : Blk w bt #[.int .i64 t]) (hbl : bl < w.heap.size) :
    ∃ rb rc w', (appendS #[31, 31] 31 #[slV aa n, .slice (some ⟨bt, 0, none⟩) 1 1]).run Try.prog w = .ok (.slice (some ⟨rb, 0, none⟩) (n + 1) rc) w' ∧ (n + 1 ≤ rc ∧ rc ≤ 9223372036854775807) ∧ IntsOff bl w' (some ⟨rb, 0, none⟩) (n + 1) (xs ++ [t]) ∧ SameBut (fun _ => False) w w' := by
  obtain ⟨i0, hi, hz0, hz1, hz2⟩ := info_parts intInfo3
  have hlen := ha.1.len
  have hnews : ∀ j u, ([.int .i64 t] : List Value)[j]? = some u → w.cell? ((⟨bt, 0, none⟩ : Addr).add j) = some u := fun j u hj => by
    match j, hj with
    | 0, hj =>
      simp at hj; subst hj
      exact hb.cell
  have hI : ∀ i, i < (xs ++ [t]).length → I64 (gi (xs ++ [t]) i) := fun i hi => by
    rw [List.length_append] at hi
    simp only [List.length_cons, List.length_nil] at hi
    by_cases h : i < n
    · have e : gi (xs ++ [t]) i = gi xs i := by unfold gi; simp [List.getElem?_append_left, hlen, h]
      obtain ⟨_, _, _, _, hc⟩ := ha.1.get i h
      rw [e]; exact (hc i h).2
    · have e : gi (xs ++ [t]) i = t := by
        unfold gi
        rw [show i = xs.length by omega]; simp
      rw [e]; exact ht
  have key : ∀ v' w', w'.ownsRow w.heap.size 3 1 v' (n + 1) (xs.map intV ++ [.int .i64 t]) → w.grownBy w' none →
      ∃ rb rc, v' = .slice (some ⟨rb, 0, none⟩) (n + 1) rc ∧ (n + 1 ≤ rc ∧ rc ≤ 9223372036854775807) ∧ IntsOff bl w' (some ⟨rb, 0, none⟩) (n + 1) (xs ++ [t]) ∧ SameBut (fun _ => False) w w' := fun v' w' hown hg => by
    have hown' : w'.ownsRow w.heap.size 3 1 v' (xs ++ [t]).length ((xs ++ [t]).map intV) := by
      rw [List.length_append, hlen, List.map_append]; exact hown
    obtain ⟨a, m, c, hv, hints⟩ := ints_of_own hown' hI (by rw [List.length_append, hlen]; simp; omega)
    rcases hown.2 with ⟨_, h0⟩ | ⟨g, cap, cur, rfl, hbase, hgb, hle, hmx, _⟩
    · omega
    · obtain ⟨rfl, rfl, rfl⟩ : a = some ⟨g, 0, none⟩ ∧ m = n + 1 ∧ c = cap := by cases hv; exact ⟨rfl, rfl, rfl⟩
      exact ⟨g, c, rfl, ⟨hle, by unfold maxLen at hmx; omega⟩, ⟨hints, fun b hb => by cases hb; show g ≠ bl; omega⟩, (same_grown hg (fun k h => h)).mono (fun k h => by cases h)⟩
  cases aa with
  | none =>
    obtain rfl := hnil rfl
    have hx : xs = [] := List.eq_nil_of_length_eq_zero hlen
    subst hx
    obtain ⟨v', w5, hap, hown5, hgr5, _, _⟩ := run_append_own_at (P := Try.prog) (w := w) w.heap.size 31 31 3 i0 (.int .i64 0) 1 8 intsUnder hi hz0 hz1 hz2 rfl (by decide) (.slice none 0 0) 0 [] (World.ownsRow_nil _ _ _ _) ⟨bt, 0, none⟩ 1 1 [.int .i64 t] rfl hnews
      (fun u hu => by simp at hu; subst hu; rfl) (by unfold maxLen; omega) (by omega) (Nat.le_refl _)
    obtain ⟨rb, rc, rfl, h⟩ := key v' w5 hown5 hgr5
    exact ⟨rb, rc, w5, hap, h⟩
  | some b =>
    obtain ⟨v', w5, hap, hown5, hgr5⟩ := run_append_arg_grows (P := Try.prog) (w := w) 31 31 3 i0 (.int .i64 0) 1 8 intsUnder hi hz0 hz1 hz2 rfl (by decide) b n n (xs.map intV) (by simp [hlen])
      (fun j u hj => by
        have hjn : j < n := by have := (List.getElem?_eq_some_iff.1 hj).1; simpa [hlen] using this
        obtain ⟨bb, o, hbb, _, hc⟩ := ha.1.get j hjn
        cases hbb
        rw [List.getElem?_map, List.getElem?_eq_getElem (by omega)] at hj
        cases hj
        rw [Addr.add_mid, (hc j hjn).1, gi_eq (by omega)])
      ⟨bt, 0, none⟩ 1 1 [.int .i64 t] rfl hnews (by omega) (by unfold maxLen; omega) (by omega)
    obtain ⟨rb, rc, rfl, h⟩ := key v' w5 hown5 hgr5
    exact ⟨rb, rc, w5, hap, h⟩

theorem results_sb {tmps : Array Value} {w : World} {b1 b2 : Nat} {v1 v2 : Value} (hp : tmps[8]?.getD undef = .pointer (some ⟨b1, 0, none⟩)) (hq : tmps[9]?.getD undef = .pointer (some ⟨b2, 0, none⟩))
    (h1 : w.cell? ⟨b1, 0, none⟩ = some v1) (h2 : w.cell? ⟨b2, 0, none⟩ = some v2) : (results Try.f105 tmps).run Try.prog w = .ok (.tuple #[v1, v2]) w := by
  simp [results, Try.results105, go_sem, hp, hq, h1, h2]

theorem dead_lookup {w : World} {md : Nat} {D : Key → Option Bool} (h : MapAt w md keyV boolV D) (M : Nat → Bool) :
    (Instr.lookup 145 (.map (some md)) (.agg (encIn M)) false).run Try.prog w = .ok (.bool ((D (keyOf M)).getD false)) w := by
  have := run_lookup (T := 145) (enc := keyV) (encV := boolV) inchesOk deadUnder zeroBool h (keyOf M) false
  rw [keyV_of] at this
  rw [this]
  cases D (keyOf M) <;> rfl

theorem dead_update {w : World} {md : Nat} {D : Key → Option Bool} (h : MapAt w md keyV boolV D) (M : Nat → Bool) :
    ∃ w', (Instr.mapUpdate 145 (.map (some md)) (.agg (encIn M)) (.bool true)).run Try.prog w = .ok () w' ∧ MapAt w' md keyV boolV (setKey D (keyOf M) true) ∧ SameBut (fun k => k = md) w w' := by
  have := run_update (T := 145) inchesOk deadUnder h (keyOf M) true
  rw [keyV_of] at this
  exact this

/-- What the search owes. -/
def NextPost (bl md : Nat) (long : Int) (ka : Option Addr) (kn kc : Nat) (sa : Option Addr) (sn sc mb : Nat) (bm : Int × Int → Option Int) (ps : List Shape) (parts : List Int) (r an : Nat) (M : Nat → Bool) (at_ : List Int) (w : World) (e : Ending) (w' : World) : Prop :=
  SameBut (fun k => k = bl ∨ k = md) w w' ∧
    ((∃ l ra rn rc, srch bm ps long parts r M an = some l ∧ e = .returned (.tuple #[.slice ra rn rc, .bool true]) ∧ IntsOff bl w' ra rn (at_ ++ l)) ∨
     (srch bm ps long parts r M an = none ∧ e = .returned (.tuple #[.slice none 0 0, .bool false]) ∧ Blk w' bl (layerRow long ka kn kc sa sn sc mb M) ∧ ∃ D, MapAt w' md keyV boolV D ∧ DeadOk bm ps long parts D))

set_option maxRecDepth 100000 in
set_option maxHeartbeats 2000000 in
theorem next_zero {B Bp bl Bdd Bd Bc Bn : Nat} {pa : Option Addr} {pn pc : Nat} {parts : List Int} {long : Int} {ka : Option Addr} {kn kc : Nat} {sa : Option Addr} {sn sc : Nat} {ps : List Shape} {mb md : Nat} {bm : Int × Int → Option Int}
    {w : World} {aa : Option Addr} {ac : Nat} {at_ : List Int} {M : Nat → Bool} (hE : LayEnv w B Bp bl Bdd Bd Bc Bn pa pn pc parts long ka kn kc sa sn sc ps mb md bm) (ha : IntsOff bl w aa pn at_) :
    Calls Try.prog 105 #[.slice aa pn ac, .pointer (some ⟨Bp, 0, none⟩), .pointer (some ⟨bl, 0, none⟩), .pointer (some ⟨Bdd, 0, none⟩), .pointer (some ⟨Bd, 0, none⟩), .pointer (some ⟨Bc, 0, none⟩), .pointer (some ⟨Bn, 0, none⟩)] w
      (NextPost bl md long ka kn kc sa sn sc mb bm ps parts 0 pn M at_ w) := by
  have c0 : w.cell? ⟨Bp, 0, none⟩ = some (.slice pa pn pc) := hE.bparts.cell
  have l0 := hE.bparts.lt
  have l0' : Bp < w.heap.size + 1 := by omega
  have l0'' : Bp < w.heap.size + 1 + 1 := by omega
  refine (callsIn_wide (n := 0)).1 ?_
  have hO := open_wide
  refine callsIn_of_wp_marks Try.func105 rfl trivial ?_ rfl
  simp only [Try.ntmps105, List.size_toArray, List.length_cons, List.length_nil, Nat.reduceAdd, Nat.reduceSub, Array.replicate_succ, Array.replicate_zero, List.push_toArray, List.append_toArray, List.nil_append, List.cons_append]
  have hF := hO.fn
  have hd := hO.depth
  gi_wp2
  have hs : SameBut (fun _ => False) w (((w.alloc (.cells #[.slice aa pn ac] 31)).alloc (.cells #[.slice aa pn ac] 31)).alloc (.cells #[.bool true] 4)) := (((SameBut.refl _ w).alloc _).alloc _).alloc _
  refine ⟨_, results_sb rfl rfl (v1 := .slice aa pn ac) (v2 := .bool true) (by simp [go_sem]) (by simp [go_sem]), hs.mono (fun _ h => h.elim), .inl ⟨[], _, _, _, rfl, rfl, ?_⟩⟩
  rw [List.append_nil]
  exact ha.keep hs (fun _ h => h.elim)

set_option maxRecDepth 100000 in
set_option maxHeartbeats 2000000 in
theorem next_succ {B Bp bl Bdd Bd Bc Bn : Nat} {pa : Option Addr} {pn pc : Nat} {parts : List Int} {long : Int} {ka : Option Addr} {kn kc : Nat} {sa : Option Addr} {sn sc : Nat} {ps : List Shape} {mb md : Nat} {bm : Int × Int → Option Int} {r : Nat}
    (ih : ∀ {w : World} {aa : Option Addr} {an ac : Nat} {at_ : List Int} {M : Nat → Bool} {D : Key → Option Bool}, LayEnv w B Bp bl Bdd Bd Bc Bn pa pn pc parts long ka kn kc sa sn sc ps mb md bm → IntsOff bl w aa an at_ → Room aa an ac → an + r = pn → Low M → (cntU M 16 : Int) = preLen ps parts an →
      MapAt w md keyV boolV D → DeadOk bm ps long parts D → Blk w bl (layerRow long ka kn kc sa sn sc mb M) →
      Calls Try.prog 105 #[.slice aa an ac, .pointer (some ⟨Bp, 0, none⟩), .pointer (some ⟨bl, 0, none⟩), .pointer (some ⟨Bdd, 0, none⟩), .pointer (some ⟨Bd, 0, none⟩), .pointer (some ⟨Bc, 0, none⟩), .pointer (some ⟨Bn, 0, none⟩)] w
        (NextPost bl md long ka kn kc sa sn sc mb bm ps parts r an M at_ w))
    {w : World} {aa : Option Addr} {an ac : Nat} {at_ : List Int} {M : Nat → Bool} {D : Key → Option Bool} (hE : LayEnv w B Bp bl Bdd Bd Bc Bn pa pn pc parts long ka kn kc sa sn sc ps mb md bm) (hN : LayNums pn parts long sn ps bm) (ha : IntsOff bl w aa an at_) (hroom : Room aa an ac) (hr : an + (r + 1) = pn) (hM : Low M) (hc : (cntU M 16 : Int) = preLen ps parts an)
    (hD : MapAt w md keyV boolV D) (hDk : DeadOk bm ps long parts D) (hl : Blk w bl (layerRow long ka kn kc sa sn sc mb M)) :
    Calls Try.prog 105 #[.slice aa an ac, .pointer (some ⟨Bp, 0, none⟩), .pointer (some ⟨bl, 0, none⟩), .pointer (some ⟨Bdd, 0, none⟩), .pointer (some ⟨Bd, 0, none⟩), .pointer (some ⟨Bc, 0, none⟩), .pointer (some ⟨Bn, 0, none⟩)] w
      (NextPost bl md long ka kn kc sa sn sc mb bm ps parts (r + 1) an M at_ w) := by
  have c0 : w.cell? ⟨Bp, 0, none⟩ = some (.slice pa pn pc) := hE.bparts.cell
  have l0 := hE.bparts.lt
  have l0' : Bp < w.heap.size + 1 := by omega
  have l0'' : Bp < w.heap.size + 1 + 1 := by omega
  have hne : (an == pn) = false := by simp; omega
  refine (callsIn_wide (n := 0)).1 ?_
  have hO := open_wide
  refine callsIn_of_wp_marks Try.func105 rfl trivial ?_ rfl
  simp only [Try.ntmps105, List.size_toArray, List.length_cons, List.length_nil, Nat.reduceAdd, Nat.reduceSub, Array.replicate_succ, Array.replicate_zero, List.push_toArray, List.append_toArray, List.nil_append, List.cons_append]
  have hF := hO.fn
  have hd := hO.depth
  gi_wp2
  obtain ⟨W1, hW1⟩ : ∃ W1, W1 = (((w.alloc (.cells #[.slice aa an ac] 31)).alloc (.cells #[.slice none 0 0] 31)).alloc (.cells #[.bool false] 4)) := ⟨_, rfl⟩
  have hs1 : SameBut (fun _ => False) w W1 := by rw [hW1]; exact (((SameBut.refl _ w).alloc _).alloc _).alloc _
  have hz1 : W1.heap.size = w.heap.size + 3 := by rw [hW1]; simp
  have b7 : Blk W1 w.heap.size #[.slice aa an ac] := by rw [hW1]; exact ((Blk.new w _ _).alloc _).alloc _
  have b8 : Blk W1 (w.heap.size + 1) #[.slice none 0 0] := by
    rw [hW1]
    have := (Blk.new (w.alloc (.cells #[.slice aa an ac] 31)) #[.slice none 0 0] 31).alloc (.cells #[.bool false] 4)
    rw [World.size_alloc] at this
    exact this
  have b9 : Blk W1 (w.heap.size + 1 + 1) #[.bool false] := by
    rw [hW1]
    have := Blk.new ((w.alloc (.cells #[.slice aa an ac] 31)).alloc (.cells #[.slice none 0 0] 31)) #[.bool false] 4
    simp only [World.size_alloc] at this
    exact this
  rw [← hW1]
  clear hW1
  have E1 := hE.keep hs1 (fun _ h => h.elim)
  have a1 := ha.keep hs1 (fun _ h => h.elim)
  have D1 := hD.same hs1 (fun e => e)
  have l1 := hl.same hs1 (fun e => e)
  have E0 := Lib.hid hE
  have a0 := Lib.hid ha
  have hbm : bl ≠ md := by
    rintro rfl
    obtain ⟨t, h⟩ := hl
    obtain ⟨es, c, _, h', _⟩ := hD
    rw [h] at h'
    cases h'
  have hDm : ∃ es c, w.heap[md]? = some (.map es c) := by obtain ⟨es, c, _, h, _⟩ := hD; exact ⟨es, c, h⟩
  have hld := layer_load l1
  have hbl := hl.lt
  have hmd := hD.lt
  obtain ⟨W2, hW2⟩ : ∃ W2, W2 = (W1.alloc (.cells #[.bool false, .bool false, .bool false, .bool false, .bool false, .bool false, .bool false, .bool false, .bool false, .bool false, .bool false, .bool false, .bool false, .bool false, .bool false, .bool false] 142)).setRow (w.heap.size + 3) (encIn M) := ⟨_, rfl⟩
  have hs2 : SameBut (fun _ => False) W1 W2 := by rw [hW2]; exact (((SameBut.refl _ W1).alloc _).setRow (.inr (by omega)) _)
  have hz2 : W2.heap.size = w.heap.size + 4 := by rw [hW2, size_setRow, World.size_alloc]; omega
  have b10 : InBlk W2 (w.heap.size + 3) M := by
    rw [hW2, ← hz1]
    exact (InBlk.new W1 (fun _ => false) 142).row M
  have E2 := E1.keep hs2 (fun _ h => h.elim)
  have a2 := a1.keep hs2 (fun _ h => h.elim)
  have D2 := D1.same hs2 (fun e => e)
  have l2 := l1.same hs2 (fun e => e)
  have b7' := b7.same hs2 (fun e => e)
  have b8' := b8.same hs2 (fun e => e)
  have b9' := b9.same hs2 (fun e => e)
  have hlk := dead_lookup D2 M
  have c3 : W2.cell? ⟨Bdd, 0, none⟩ = some (.map (some md)) := E2.dead.cell
  have c8 : W2.cell? ⟨w.heap.size + 1, 0, none⟩ = some (.slice none 0 0) := b8'.cell
  have c9 : W2.cell? ⟨w.heap.size + 1 + 1, 0, none⟩ = some (.bool false) := b9'.cell
  have f8 : W2.frozen? ⟨w.heap.size + 1, 0, none⟩ = false := b8'.frozen
  have f9 : W2.frozen? ⟨w.heap.size + 1 + 1, 0, none⟩ = false := b9'.frozen
  have hld2 : Sem.run Try.prog (loadIn (.pointer (some ⟨w.heap.size + 3, 0, none⟩))) W2 = .ok (.agg (encIn M)) W2 := by
    have := run_load_in (.pointer (some ⟨w.heap.size + 3, 0, none⟩)) W2 (by simp) (by rw [blkOf_mk, b10.row_eq, encIn_size])
    rw [blkOf_mk, b10.row_eq] at this
    exact this
  obtain ⟨G, hG⟩ : ∃ G, G = (D (keyOf M)).getD false := ⟨_, rfl⟩
  rw [← hG] at hlk
  have hG' := Lib.hid hG
  rw [hW2] at c3
  clear b7 b8 b9 E1 a1 D1 l1 hE ha hD hl hG
  go_simp
  gi_wp2
  rw [← hW2] at c3 ⊢
  clear hW2 c3 hld
  have hpl := E2.ints.len
  cases G
  case true =>
    go_simp
    gi_wp2
    have hs3 : SameBut (fun _ => False) w ((W2.setCell ⟨w.heap.size + 1, 0, none⟩ (.slice none 0 0)).setCell ⟨w.heap.size + 1 + 1, 0, none⟩ (.bool false)) := ((hs1.trans hs2).setCell (.inr (Nat.le_succ _)) _).setCell (.inr (by show w.heap.size ≤ w.heap.size + 1 + 1; omega)) _
    have hs4 : SameBut (fun k => k = w.heap.size + 1 ∨ k = w.heap.size + 1 + 1) W2 ((W2.setCell ⟨w.heap.size + 1, 0, none⟩ (.slice none 0 0)).setCell ⟨w.heap.size + 1 + 1, 0, none⟩ (.bool false)) := ((SameBut.refl _ W2).setCell (.inl (.inl rfl)) _).setCell (.inl (.inr rfl)) _
    refine ⟨_, results_sb rfl rfl (v1 := .slice none 0 0) (v2 := .bool false) ?_ ?_, hs3.mono (fun _ h => h.elim), .inr ⟨hDk M an (r + 1) hM (by omega) hc hG'.out.symm, rfl, l2.same hs4 (by omega), D, D2.same hs4 (by omega), hDk⟩⟩
    · exact ((b8'.set1 _).setOther (by omega) _).cell
    · exact ((b9'.setOther (by omega) _).set1 _).cell
  case false =>
  go_simp
  gi_wp2
  have hp := hN.part an (by omega)
  obtain ⟨q, hq⟩ : ∃ q : Nat, gi parts an = q := ⟨(gi parts an).toNat, by omega⟩
  have hqs : q < sn := by omega
  have hlen : lenOf ps parts an = (gs ps q).long := by unfold lenOf; rw [hq]; rfl
  have hsh := hN.shape q hqs
  have hlg := hN.long
  have E2' := Lib.hid E2
  obtain ⟨pb, po, hpa, hpB, hpc⟩ := E2.ints.get an (by omega)
  subst hpa
  have hpi := (hpc an (by omega)).1
  rw [hq] at hpi
  clear hpc
  have hread : ∀ w', SameBut (fun _ => False) W2 w' → w'.cell? ⟨Bd, 0, none⟩ = some (.int .i64 long) ∧ w'.cell? ⟨Bd, 1, none⟩ = some (.slice ka kn kc) ∧ w'.cell? ⟨Bd, 2, none⟩ = some (.slice sa sn sc) ∧ w'.cell? ⟨Bd, 3, none⟩ = some (.map (some mb)) ∧
      w'.cell? ⟨Bp, 0, none⟩ = some (.slice (some ⟨pb, po, none⟩) pn pc) ∧ w'.cell? ⟨w.heap.size, 0, none⟩ = some (.slice aa an ac) ∧ w'.cell? ⟨pb, po + an, none⟩ = some (.int .i64 q) := fun w' h => by
    have k1 := E2'.out.board.same h (fun e => e)
    exact ⟨k1.cell, k1.cell, k1.cell, k1.cell, (E2'.out.bparts.same h (fun e => e)).cell, (b7'.same h (fun e => e)).cell, (h.cell (by have := E2'.out.low; omega) (fun e => e)).trans hpi⟩
  clear E2
  have hanp : (an : Int) < pn := by omega
  refine region_plan hO (fun w' => SameBut (fun _ => False) W2 w') [(0, true), (1, true), (2, true), (3, true), (4, true), (5, true), (6, false)] (by kernel_rfl) (by kernel_rfl) (by kernel_rfl) (by decide) (by kernel_rfl) ?_
  have hS0 : SameBut (fun _ => False) W2 W2.drew := (SameBut.refl _ _).drew
  iterate 6
    (refine plan_take ?_ rfl hS0 (by rfl) ?_ ?_
     rotate_left
     · intro w' hw'
       obtain ⟨r1, r2, r3, r4, r5, r6, r7⟩ := hread w' hw'
       go_simp
       with_reducible rfl
     simp only [Act.put, List.setIfInBounds_toArray, List.set_cons_zero, List.set_cons_succ])
  refine plan_one rfl (by rfl) (fun K hK => ?_)
  go_simp
  have hsP := E2'.out.shapes.keep (Nat.le_refl B) (fun b o hb => hS0.cell (b := b) (o := o) (by have := E2'.out.low; omega) (fun e => e))
  refine (hO.calls (places_any (B := B) (by have := E2'.out.low; show B ≤ W2.heap.size; omega) hsP hqs (by omega) hlg.2 (by omega) hsh.2)).mono ?_
  rintro e w3 ⟨rfl, rfl⟩
  obtain ⟨N, hNN⟩ : ∃ N, N = many long (gs ps q).long := ⟨_, rfl⟩
  rw [← hNN]
  have hN16 : N ≤ 16 := by rw [hNN]; unfold many; omega
  have hTN : ∀ t, t < N → (t : Int) + (gs ps q).long ≤ 16 := by rw [hNN]; unfold many; omega
  have hNN' := Lib.hid hNN
  clear hNN
  obtain ⟨W3, hW3⟩ : ∃ W3, W3 = (((W2.drew.alloc (.cells #[.int .i64 long, .slice ka kn kc, .slice sa sn sc, .map (some mb)] 86)).alloc (.cells #[.int .i64 q] 3)).alloc (.cells #[.int .i64 q, .int .i64 N] 89)).drew := ⟨_, rfl⟩
  have hs3 : SameBut (fun _ => False) W2 W3 := by rw [hW3]; exact (((hS0.alloc _).alloc _).alloc _).drew
  have hz3 : W3.heap.size = w.heap.size + 7 := by rw [hW3]; simp; omega
  have bq : Blk W3 (w.heap.size + 5) #[.int .i64 q] := by
    rw [hW3]
    have := ((Blk.new (W2.drew.alloc (.cells #[.int .i64 long, .slice ka kn kc, .slice sa sn sc, .map (some mb)] 86)) #[.int .i64 q] 3).alloc (.cells #[.int .i64 q, .int .i64 N] 89)).drew
    rw [World.size_alloc, show W2.drew.heap.size = W2.heap.size from rfl, hz2] at this
    exact this
  have bN : Blk W3 (w.heap.size + 6) #[.int .i64 q, .int .i64 N] := by
    rw [hW3]
    have := (Blk.new ((W2.drew.alloc (.cells #[.int .i64 long, .slice ka kn kc, .slice sa sn sc, .map (some mb)] 86)).alloc (.cells #[.int .i64 q] 3)) #[.int .i64 q, .int .i64 N] 89).drew
    simp only [World.size_alloc] at this
    rw [show W2.drew.heap.size = W2.heap.size from rfl, hz2] at this
    exact this
  have E3 := Lib.hid (E2'.out.keep hs3 (fun _ h => h.elim))
  have a3 := a2.keep hs3 (fun _ h => h.elim)
  have D3 := D2.same hs3 (fun e => e)
  have l3 := l2.same hs3 (fun e => e)
  have b73 := b7'.same hs3 (fun e => e)
  have b83 := b8'.same hs3 (fun e => e)
  have b93 := b9'.same hs3 (fun e => e)
  have b103 : InBlk W3 (w.heap.size + 3) M := by obtain ⟨t, h⟩ := b10; exact ⟨t, by rw [hs3.block _ (by omega) (fun e => e)]; exact h⟩
  have hws : SameBut (fun _ => False) w W3 := (hs1.trans hs2).trans hs3
  simp only [show W2.drew.heap.size = W2.heap.size from rfl, hz2]
  rw [show w.heap.size + 4 + 1 = w.heap.size + 5 from rfl, show w.heap.size + 4 + 2 = w.heap.size + 6 from rfl]
  refine hK _ _ (by rw [← hW3]; exact hs3) ?_
  rw [← hW3]
  clear hW3 hK K hsP E2' a2 D2 l2 b7' b8' b9' b10 hlk hld2 hs1 hs2 hs3 hread hS0
  unfold planW okN
  gi_wp2
  have hws' : SameBut (fun k => k = bl ∨ k = md) w W3 := hws.mono (fun _ h => h.elim)
  have hww : ∀ Wc, SameBut (fun k => k = bl ∨ k = md ∨ k = w.heap.size + 1 ∨ k = w.heap.size + 1 + 1) W3 Wc → SameBut (fun k => k = bl ∨ k = md) w Wc := fun Wc h => hws'.shift h (fun i hi => by
    rcases hi with h | h | h | h
    · exact .inl (.inl h)
    · exact .inl (.inr h)
    · exact .inr (by omega)
    · exact .inr (by omega))
  refine wpIn_range hO rfl (gf := 103) (lb := #[.pointer (some ⟨w.heap.size + 5, 0, none⟩), .pointer (some ⟨w.heap.size + 6, 0, none⟩)]) rfl (enters_of Try.func103 (by kernel_rfl) rfl)
    (places_seq hO rfl bq bN (by omega)) (fun _ => rfl) (fun k => k = bl ∨ k = md ∨ k = w.heap.size + 1 ∨ k = w.heap.size + 1 + 1) (fun k hk => by have hk' : k = bl ∨ k = md ∨ k = w.heap.size + 1 ∨ k = w.heap.size + 1 + 1 := hk; omega)
    (fun k hk => by
      have hk' : k = w.heap.size + 5 ∨ k = w.heap.size + 6 := hk
      exact ⟨by omega, fun e => by have e' : k = bl ∨ k = md ∨ k = w.heap.size + 1 ∨ k = w.heap.size + 1 + 1 := e; omega⟩)
    (fun pre Wc => (Blk Wc bl (layerRow long ka kn kc sa sn sc mb M) ∧ (∃ D, MapAt Wc md keyV boolV D ∧ DeadOk bm ps long parts D) ∧ (∀ x, x ∈ pre → tryF bm ps long parts r M an x = none) ∧ Blk Wc (w.heap.size + 1) #[.slice none 0 0] ∧ Blk Wc (w.heap.size + 1 + 1) #[.bool false]) ∧ SameBut (fun k => k = bl ∨ k = md ∨ k = w.heap.size + 1 ∨ k = w.heap.size + 1 + 1) W3 Wc)
    (fun c pre Wc => (c = .ret ∧ ∃ l ra rn rc pre' t, pre = pre' ++ [t] ∧ (∀ x ∈ pre', tryF bm ps long parts r M an x = none) ∧ tryF bm ps long parts r M an t = some l ∧ Blk Wc (w.heap.size + 1) #[.slice ra rn rc] ∧ Blk Wc (w.heap.size + 1 + 1) #[.bool true] ∧ IntsOff bl Wc ra rn (at_ ++ l)) ∧ SameBut (fun k => k = bl ∨ k = md ∨ k = w.heap.size + 1 ∨ k = w.heap.size + 1 + 1) W3 Wc)
    ?hI ?hIx ⟨⟨l3, ⟨D, D3, hDk⟩, fun x h => absurd h (List.not_mem_nil), b83, b93⟩, SameBut.refl _ _⟩
    (fun t a' Wc => ∃ bx, (Blk Wc bx #[.int .i64 q, .int .i64 t] ∧ w.heap.size + 6 < bx) ∧ a' = { tmps := #[.slice aa an ac, .pointer (some ⟨Bp, 0, none⟩), .pointer (some ⟨bl, 0, none⟩), .pointer (some ⟨Bdd, 0, none⟩), .pointer (some ⟨Bd, 0, none⟩), .pointer (some ⟨Bc, 0, none⟩), .pointer (some ⟨Bn, 0, none⟩), .pointer (some ⟨w.heap.size, 0, none⟩), .pointer (some ⟨w.heap.size + 1, 0, none⟩), .pointer (some ⟨w.heap.size + 1 + 1, 0, none⟩), .pointer (some ⟨w.heap.size + 3, 0, none⟩),
      .pointer (some ⟨bx, 0, none⟩), undef, undef, .slice aa an ac, .int .i64 an, .slice (some ⟨pb, po, none⟩) pn pc, .int .i64 pn, .bool false, undef, .pointer (some ⟨bl, 4, none⟩), .agg (encIn M), .map (some md), .agg (encIn M), .bool false, .agg #[.int .i64 long, .slice ka kn kc, .slice sa sn sc, .map (some mb)], .slice (some ⟨pb, po, none⟩) pn pc, .slice aa an ac, .int .i64 an, .pointer (some ⟨pb, po + an, none⟩), .int .i64 q,
      .func (.func 103) #[] #[.pointer (some ⟨w.heap.size + 5, 0, none⟩), .pointer (some ⟨w.heap.size + 6, 0, none⟩)], placeV q t, undef, undef, undef, undef, undef, undef, undef, undef, undef, undef, undef, undef, undef, undef, undef, undef, undef, undef, undef, undef, undef, undef, undef, undef, undef, undef, undef, undef, undef, undef, undef], defers := [] })
    ?hAx ?assign ?body ?done ?stop
  case hI =>
    refine Stable.and ?_ (stable_same (Nat.le_refl _))
    rintro s X Y ⟨h1, ⟨D', h2, h3⟩, h4, h5, h6⟩ hc
    exact ⟨h1.calm hc, ⟨D', h2.calm hc, h3⟩, h4, h5.calm hc, h6.calm hc⟩
  case hIx =>
    intro c
    refine Stable.and ?_ (stable_same (Nat.le_refl _))
    rintro s X Y ⟨h0, l, ra, rn, rc, pre', t, h1, h2, h3, h4, h5, h6⟩ hc
    exact ⟨h0, l, ra, rn, rc, pre', t, h1, h2, h3, h4.calm hc, h5.calm hc, h6.calm hc⟩
  case hAx =>
    rintro x a' u X Y ⟨bx, ⟨hb, hn⟩, ha⟩ hc
    exact ⟨bx, ⟨hb.calm hc, hn⟩, ha⟩
  case assign =>
    rintro l2 pre x Wc K hpre ⟨⟨h1, ⟨D', h2, h3⟩, h4, h5, h6⟩, hsb⟩ hK
    gi_wp2
    have hcl := calm_alloc 0 Wc (.cells #[.int .i64 q, .int .i64 x] 89)
    exact hK _ _ ((SameBut.refl _ _).alloc _) ⟨⟨h1.calm hcl, ⟨D', h2.calm hcl, h3⟩, h4, h5.calm hcl, h6.calm hcl⟩, hsb.alloc _⟩ ⟨Wc.heap.size, ⟨Blk.new Wc _ _, by have := hsb.size; omega⟩, rfl⟩
  case body =>
    rintro l2 pre t a' Wc hpre hl2 hrec ⟨⟨h1, ⟨D', h2, h3⟩, h4, h5, h6⟩, hsb⟩ ⟨bx, ⟨hbx, hn⟩, rfl⟩
    have hO2 := hO.inRound l2
    have hd2 : (Fence.wide.inRound l2).depth = none := hd
    have hF2 : ∀ f, (Fence.wide.inRound l2).fn f := hF
    obtain ⟨hpre1, htN⟩ := pre_range hpre
    have htl := hTN t htN
    have hsz := hsb.size
    have Ec := E0.out.keep (hww Wc hsb) (fun i h => h.imp id .inl)
    have aic := a0.out.keep (hww Wc hsb) (fun i h => by
      have h' : i = bl ∨ i = md := h
      rcases h' with rfl | rfl
      · exact .inl rfl
      · exact .inr (.inl hDm))
    have b7c := b73.same hsb (by omega)
    have c10 : InBlk Wc (w.heap.size + 3) M := by obtain ⟨t, h⟩ := b103; exact ⟨t, by rw [hsb.block _ (by omega) (by omega)]; exact h⟩
    have c5 : Wc.cell? ⟨Bc, 0, none⟩ = some (.func (.func 104) #[.pointer (some ⟨bl, 0, none⟩)] #[]) := Ec.can.cell
    have d0 : Wc.cell? ⟨bx, 0, none⟩ = some (.int .i64 q) := hbx.cell
    have d1 : Wc.cell? ⟨bx, 1, none⟩ = some (.int .i64 t) := hbx.cell
    have hcan := canLie_any (B := B) (w := Wc) Ec.low.2.2.2.2 Ec.shapes hqs hsh.1 htl h1 Ec.map (hN.b012 _)
    obtain ⟨X, hX⟩ : ∃ X, X = (decide ((bm ((q : Int), (t : Int))).getD 0 = 2) && freeB M t (gs ps q).long) := ⟨_, rfl⟩
    rw [← hX] at hcan
    have Ec' := Lib.hid Ec
    have hX' := Lib.hid hX
    clear Ec hX
    gi_wp2_with (gi_at_call 104; refine (hO2.calls hcan).mono ?_; rintro e w4 ⟨rfl, hb4⟩)
    · have hXf : X = false := by
        have h : (!X) = true := by assumption
        simpa using h
      rw [hXf] at hX'
      have hX2 := hX'.out
      have hS4 : SameBut (fun _ => False) Wc w4 := SameBut.of_below hb4 (Nat.le_refl _)
      have hS4' : SameBut (fun k => k = bl ∨ k = md ∨ k = w.heap.size + 1 ∨ k = w.heap.size + 1 + 1) Wc w4 := hS4.mono (fun _ h => h.elim)
      have htry : tryF bm ps long parts r M an t = none := by
        unfold tryF
        rw [if_neg]
        rintro ⟨e1, e2⟩
        rw [hq] at e1
        rw [hlen] at e2
        rw [decide_eq_true e1, e2] at hX2
        cases hX2
      refine ⟨hS4', ⟨h1.same hS4 (fun e => e), ⟨D', h2.same hS4 (fun e => e), h3⟩, fun x hx => ?_, h5.same hS4 (fun e => e), h6.same hS4 (fun e => e)⟩, hsb.trans hS4'⟩
      rw [List.mem_append] at hx
      rcases hx with hx | hx
      · exact h4 x hx
      · simp only [List.mem_cons, List.not_mem_nil, or_false] at hx
        rw [hx]; exact htry
    · have hXt : X = true := by
        have h : (!X) = false := by assumption
        simpa using h
      rw [hXt] at hX'
      have hX2 := hX'.out
      rw [eq_comm, Bool.and_eq_true, decide_eq_true_eq] at hX2
      obtain ⟨M2, hM2⟩ : ∃ M2, M2 = orM M (betM t ((t : Int) + (gs ps q).long - 1)) := ⟨_, rfl⟩
      have htry : tryF bm ps long parts r M an t = (srch bm ps long parts r M2 (an + 1)).map fun l => (t : Int) :: l := by
        unfold tryF
        rw [if_pos ⟨by rw [hq]; exact hX2.1, by rw [hlen]; exact hX2.2⟩, hlen, hM2]
      have hlow2 : Low M2 := by rw [hM2]; exact low_or hM (by omega)
      have hcnt2 : (cntU M2 16 : Int) = preLen ps parts (an + 1) := by
        rw [hM2, cnt_take hX2.2 (by omega) (by omega) (by omega), hc]
        simp only [preLen]
        rw [hlen]
      have htry' := Lib.hid htry
      have hM2' := Lib.hid hM2
      clear hX' hX2 htry hcan
      have hS4 : SameBut (fun _ => False) Wc w4 := SameBut.of_below hb4 (Nat.le_refl _)
      have E4 := Lib.hid (Ec'.out.keep hS4 (fun _ h => h.elim))
      have l4 := h1.same hS4 (fun e => e)
      have b74 := b7c.same hS4 (fun e => e)
      have bx4 := hbx.same hS4 (fun e => e)
      have c104 : InBlk w4 (w.heap.size + 3) M := by obtain ⟨t, h⟩ := c10; exact ⟨t, by rw [hS4.block _ (by omega) (fun e => e)]; exact h⟩
      have hz4 := hS4.size
      have hbxl := hbx.lt
      have hread9 : ∀ w', SameBut (fun k => k = bl) w4 w' → Sem.run Try.prog (loadIn (.pointer (some ⟨w.heap.size + 3, 0, none⟩))) w' = .ok (.agg (encIn M)) w' ∧ w'.cell? ⟨Bd, 0, none⟩ = some (.int .i64 long) ∧ w'.cell? ⟨Bd, 1, none⟩ = some (.slice ka kn kc) ∧ w'.cell? ⟨Bd, 2, none⟩ = some (.slice sa sn sc) ∧ w'.cell? ⟨Bd, 3, none⟩ = some (.map (some mb)) ∧
          w'.cell? ⟨bx, 0, none⟩ = some (.int .i64 q) ∧ w'.cell? ⟨bx, 1, none⟩ = some (.int .i64 t) := fun w' h => by
        have k0 : InBlk w' (w.heap.size + 3) M := by obtain ⟨t, h'⟩ := c104; exact ⟨t, by rw [h.block _ (by omega) (by omega)]; exact h'⟩
        have k1 := E4.out.board.same h E4.out.ne.1.2.2.1
        have k2 := bx4.same h (by omega)
        refine ⟨?_, k1.cell, k1.cell, k1.cell, k1.cell, k2.cell, k2.cell⟩
        have := run_load_in (.pointer (some ⟨w.heap.size + 3, 0, none⟩)) w' (by simp) (by rw [blkOf_mk, k0.row_eq, encIn_size])
        rw [blkOf_mk, k0.row_eq] at this
        exact this
      refine region_plan hO2 (fun w' => SameBut (fun k => k = bl) w4 w') [(0, true), (1, true), (2, true), (3, false), (4, false), (5, true), (6, false)] (by kernel_rfl) (by kernel_rfl) (by kernel_rfl) (by decide) (by kernel_rfl) ?_
      have hS0 : SameBut (fun k => k = bl) w4 w4.drew := (SameBut.refl _ _).drew
      iterate 3
        (refine plan_take ?_ rfl hS0 (by rfl) ?_ ?_
         rotate_left
         · intro w' hw'
           obtain ⟨r1, r2, r3, r4, r5, r6, r7⟩ := hread9 w' hw'
           go_simp
           with_reducible rfl
         simp only [Act.put, List.setIfInBounds_toArray, List.set_cons_zero, List.set_cons_succ])
      refine plan_one rfl (by rfl) (fun K hK => ?_)
      go_simp
      have hSD : SameBut (fun _ => False) w4 w4.drew := (SameBut.refl _ _).drew
      have E4d := E4.out.keep hSD (fun _ h => h.elim)
      refine (hO2.calls (under_any (B := B) (ps := ps) (p := q) (t := (t : Int)) E4d.low.2.2.2.2 E4d.shapes hqs (by omega) hsh.1 htl)).mono ?_
      rintro e w5 ⟨rfl, hb5⟩
      have hS5 : SameBut (fun _ => False) w4 w5 := hSD.below hb5
      refine hK _ _ (hS5.mono (fun _ h => h.elim)) ?_
      clear hK K hb5 E4d
      refine plan_one rfl (by rfl) (fun K hK => ?_)
      go_simp
      refine (hO2.calls or_any).mono ?_
      rintro e w6 ⟨rfl, hb6⟩
      have hS6 : SameBut (fun _ => False) w4 w6 := hS5.below hb6
      have hS6' : SameBut (fun k => k = bl) w4 w6 := hS6.mono (fun _ h => h.elim)
      refine hK _ _ hS6' ?_
      clear hK K hb6
      refine plan_take ?_ rfl hS6' (by rfl) ?_ ?_
      rotate_left
      · intro w' hw'
        go_simp
        with_reducible rfl
      simp only [Act.put, List.setIfInBounds_toArray, List.set_cons_zero, List.set_cons_succ]
      refine plan_one rfl (by rfl) (fun K hK => ?_)
      obtain ⟨w7, hst, l7, hs7⟩ := layer_store (l4.same hS6 (fun e => e)) M2
      rw [hM2'.out] at hst
      go_simp
      refine hK _ _ (hS6'.trans hs7) ?_
      clear hK K hst
      unfold planW okN
      gi_wp2
      have hS7 : SameBut (fun k => k = bl) Wc w7 := ((hS4.mono (fun _ h => h.elim)).trans hS6').trans hs7
      have E7 := Lib.hid (Ec'.out.keep hS7 (fun i h => .inl h))
      have a7 := aic.keep hS7 (fun i h => .inl h)
      have b77 := b7c.same hS7 (by omega)
      have bx7 := hbx.same hS7 (by omega)
      have D7 := h2.same hS7 (by omega)
      have hz7 := hS7.size
      clear l4 b74 bx4 c104 E4 hS6' hs7 hS6 hS5 hSD hS0 hread9 hb4
      have hread : ∀ w', SameBut (fun k => k = bl ∨ k = md) w7 w' → w'.cell? ⟨Bn, 0, none⟩ = some (.func (.func 105) #[] #[.pointer (some ⟨Bp, 0, none⟩), .pointer (some ⟨bl, 0, none⟩), .pointer (some ⟨Bdd, 0, none⟩), .pointer (some ⟨Bd, 0, none⟩), .pointer (some ⟨Bc, 0, none⟩), .pointer (some ⟨Bn, 0, none⟩)]) ∧
          w'.cell? ⟨w.heap.size, 0, none⟩ = some (.slice aa an ac) ∧ w'.cell? ⟨bx, 1, none⟩ = some (.int .i64 t) := fun w' h =>
        ⟨(E7.out.next.same h (fun e => e.elim E7.out.ne.1.2.2.2.2 E7.out.ne.2.2.2.2.2)).cell, (b77.same h (by omega)).cell, (bx7.same h (by omega)).cell⟩
      have han : an ≤ 5 := by have := hN.few; omega
      refine region_plan hO2 (fun w' => SameBut (fun k => k = bl ∨ k = md) w7 w') [(0, true), (1, true), (2, true), (3, true), (4, true), (5, true), (6, true), (7, true), (8, true), (9, false), (10, false), (11, false), (12, true), (13, true), (14, true), (15, true), (16, true)] (by kernel_rfl) (by kernel_rfl) (by kernel_rfl) (by decide) (by kernel_rfl) ?_
      have hS0 : SameBut (fun k => k = bl ∨ k = md) w7 w7.drew := (SameBut.refl _ _).drew
      iterate 6
        (refine plan_take ?_ rfl hS0 (by rfl) ?_ ?_
         rotate_left
         · intro w' hw'
           obtain ⟨r1, r2, r3⟩ := hread w' hw'
           go_simp
           with_reducible rfl
         simp only [Act.put, List.setIfInBounds_toArray, List.set_cons_zero, List.set_cons_succ])
      refine plan_take (slV aa an) rfl hS0 (by rfl) ?_ ?_
      · intro w' hw'
        clear hread E7 ih
        rcases hroom with ⟨g1, g2, g3⟩ | ⟨b, g1, g2, g3⟩
        · rw [g1, g2, g3]
          go_simp
          rfl
        · rw [g1]
          have g4 : (an : Int) ≤ ac := by omega
          go_simp
          rfl
      simp only [Act.put, List.setIfInBounds_toArray, List.set_cons_zero, List.set_cons_succ]
      iterate 2
        (refine plan_take ?_ rfl hS0 (by rfl) ?_ ?_
         rotate_left
         · intro w' hw'
           obtain ⟨r1, r2, r3⟩ := hread w' hw'
           go_simp
           with_reducible rfl
         simp only [Act.put, List.setIfInBounds_toArray, List.set_cons_zero, List.set_cons_succ])
      refine plan_one rfl (by rfl) (fun K hK => ?_)
      go_simp
      refine hK _ _ (hS0.alloc _) ?_
      clear hK K
      have hS8 : SameBut (fun _ => False) w7 ((w7.alloc (.cells #[.int .i64 t] 3)).drew) := ((SameBut.refl _ w7).alloc _).drew
      have b8 : Blk ((w7.alloc (.cells #[.int .i64 t] 3)).drew) w7.heap.size #[.int .i64 t] := (Blk.new w7 _ _).drew
      obtain ⟨rb, rc, w9, hap, hrc, hio, hs9⟩ := append_fresh (t := (t : Int)) (a7.keep hS8 (fun i h => h.elim)) (by omega) (by unfold I64; omega) (fun e => by rcases hroom with ⟨_, h, _⟩ | ⟨b, h, _⟩; exact h; rw [h] at e; cases e) b8 (by show bl < (w7.alloc _).heap.size; rw [World.size_alloc]; omega)
      have hS9 : SameBut (fun _ => False) w7 w9 := hS8.trans hs9
      refine plan_one rfl (by rfl) (fun K hK => ?_)
      go_simp
      refine hK _ _ (hS9.mono (fun _ h => h.elim)) ?_
      clear hK K hap b8
      refine plan_one rfl (by rfl) (fun K hK => ?_)
      go_simp
      refine (hO2.calls (ih (E7.out.keep hS9 (fun _ h => h.elim)) hio (.inr ⟨_, rfl, hrc⟩) (by omega) hlow2 hcnt2 (D7.same hS9 (fun e => e)) h3 (l7.same hS9 (fun e => e)))).mono ?_
      rintro e w10 ⟨hs10, hres⟩
      have hS10 : SameBut (fun k => k = bl ∨ k = md) w7 w10 := (hS9.mono (fun _ h => h.elim)).trans hs10
      rcases hres with ⟨l, ra, rn, rc2, hsr, rfl, hir⟩ | ⟨hsr, rfl, l10, D10, hD10, hDk10⟩
      · refine hK _ _ hS10 ?_
        clear hK K
        iterate 5
          (refine plan_take ?_ rfl hS10 (by rfl) ?_ ?_
           rotate_left
           · intro w' hw'
             go_simp
             with_reducible rfl
           simp only [Act.put, List.setIfInBounds_toArray, List.set_cons_zero, List.set_cons_succ])
        unfold planW okN
        have k8 := (h5.same hS7 (by omega)).same hS10 (by omega)
        have k9 := (h6.same hS7 (by omega)).same hS10 (by omega)
        have e8 : w10.cell? ⟨w.heap.size + 1, 0, none⟩ = some (.slice none 0 0) := k8.cell
        have e9 : w10.cell? ⟨w.heap.size + 1 + 1, 0, none⟩ = some (.bool false) := k9.cell
        have f8 : w10.frozen? ⟨w.heap.size + 1, 0, none⟩ = false := k8.frozen
        have f9 : w10.frozen? ⟨w.heap.size + 1 + 1, 0, none⟩ = false := k9.frozen
        clear ih
        gi_wp2
        have hsF : SameBut (fun k => k = w.heap.size + 1 ∨ k = w.heap.size + 1 + 1) w10 ((w10.setCell ⟨w.heap.size + 1, 0, none⟩ (.slice ra rn rc2)).setCell ⟨w.heap.size + 1 + 1, 0, none⟩ (.bool true)) := ((SameBut.refl _ w10).setCell (.inl (.inl rfl)) _).setCell (.inl (.inr rfl)) _
        have hs11 : SameBut (fun k => k = bl ∨ k = md ∨ k = w.heap.size + 1 ∨ k = w.heap.size + 1 + 1) Wc ((w10.setCell ⟨w.heap.size + 1, 0, none⟩ (.slice ra rn rc2)).setCell ⟨w.heap.size + 1 + 1, 0, none⟩ (.bool true)) := ((hS7.mono (fun _ h => .inl h)).trans (hS10.mono (fun _ h => h.imp id .inl))).trans (hsF.mono (fun _ h => .inr (.inr h)))
        refine ⟨hs11, ⟨rfl, (t : Int) :: l, ra, rn, rc2, pre, t, rfl, h4, by rw [htry'.out, hsr]; rfl, (k8.set1 _).setOther (by omega) _, (k9.setOther (by omega) _).set1 _, ?_⟩, hsb.trans hs11⟩
        rw [List.append_assoc] at hir
        refine hir.keep' hsF (fun i h => ?_)
        rcases h with rfl | rfl
        · exact k8.one_no_int (fun x h => by cases h)
        · exact k9.one_no_int (fun x h => by cases h)
      · refine hK _ _ hS10 ?_
        clear hK K
        iterate 5
          (refine plan_take ?_ rfl hS10 (by rfl) ?_ ?_
           rotate_left
           · intro w' hw'
             go_simp
             with_reducible rfl
           simp only [Act.put, List.setIfInBounds_toArray, List.set_cons_zero, List.set_cons_succ])
        unfold planW okN
        have k10 : InBlk w10 (w.heap.size + 3) M := by obtain ⟨t, h⟩ := c10; exact ⟨t, by rw [hS10.block _ (by omega) (by omega), hS7.block _ (by omega) (by omega)]; exact h⟩
        have hld : Sem.run Try.prog (loadIn (.pointer (some ⟨w.heap.size + 3, 0, none⟩))) w10 = .ok (.agg (encIn M)) w10 := by
          have := run_load_in (.pointer (some ⟨w.heap.size + 3, 0, none⟩)) w10 (by simp) (by rw [blkOf_mk, k10.row_eq, encIn_size])
          rw [blkOf_mk, k10.row_eq] at this
          exact this
        obtain ⟨w11, hst, l11, hs11⟩ := layer_store l10 M
        clear ih
        gi_wp2
        have hs12 : SameBut (fun k => k = bl ∨ k = md ∨ k = w.heap.size + 1 ∨ k = w.heap.size + 1 + 1) Wc w11 := ((hS7.mono (fun _ h => .inl h)).trans (hS10.mono (fun _ h => h.imp id .inl))).trans (hs11.mono (fun _ h => .inl h))
        refine ⟨hs12, ⟨l11, ⟨D10, hD10.same hs11 (by omega), hDk10⟩, fun x hx => ?_, ((h5.same hS7 (by omega)).same hS10 (by omega)).same hs11 (by omega), ((h6.same hS7 (by omega)).same hS10 (by omega)).same hs11 (by omega)⟩, hsb.trans hs12⟩
        rw [List.mem_append] at hx
        rcases hx with hx | hx
        · exact h4 x hx
        · simp only [List.mem_cons, List.not_mem_nil, or_false] at hx
          rw [hx, htry'.out, hsr]; rfl
  case done =>
    rintro Wc ⟨⟨h1, ⟨D', h2, h3⟩, h4, h5, h6⟩, hsb⟩ hDf
    obtain ⟨wU, hU, hmU, hsU⟩ := dead_update h2 M
    have c3 : Wc.cell? ⟨Bdd, 0, none⟩ = some (.map (some md)) := (E0.out.keep (hww Wc hsb) (fun i h => h.imp id .inl)).dead.cell
    have c10 : InBlk Wc (w.heap.size + 3) M := by obtain ⟨t, h⟩ := b103; exact ⟨t, by rw [hsb.block _ (by omega) (by omega)]; exact h⟩
    have hld : Sem.run Try.prog (loadIn (.pointer (some ⟨w.heap.size + 3, 0, none⟩))) Wc = .ok (.agg (encIn M)) Wc := by
      have := run_load_in (.pointer (some ⟨w.heap.size + 3, 0, none⟩)) Wc (by simp) (by rw [blkOf_mk, c10.row_eq, encIn_size])
      rw [blkOf_mk, c10.row_eq] at this
      exact this
    have k8 := h5.same hsU (by omega)
    have k9 := h6.same hsU (by omega)
    have e8 : wU.cell? ⟨w.heap.size + 1, 0, none⟩ = some (.slice none 0 0) := k8.cell
    have e9 : wU.cell? ⟨w.heap.size + 1 + 1, 0, none⟩ = some (.bool false) := k9.cell
    have f8 : wU.frozen? ⟨w.heap.size + 1, 0, none⟩ = false := k8.frozen
    have f9 : wU.frozen? ⟨w.heap.size + 1 + 1, 0, none⟩ = false := k9.frozen
    gi_wp2
    obtain ⟨Wf, hWf⟩ : ∃ Wf, Wf = (wU.setCell ⟨w.heap.size + 1, 0, none⟩ (.slice none 0 0)).setCell ⟨w.heap.size + 1 + 1, 0, none⟩ (.bool false) := ⟨_, rfl⟩
    have hsF : SameBut (fun k => k = w.heap.size + 1 ∨ k = w.heap.size + 1 + 1) wU Wf := by rw [hWf]; exact ((SameBut.refl _ wU).setCell (.inl (.inl rfl)) _).setCell (.inl (.inr rfl)) _
    have m8 : Blk Wf (w.heap.size + 1) #[.slice none 0 0] := by rw [hWf]; exact (k8.set1 _).setOther (by omega) _
    have m9 : Blk Wf (w.heap.size + 1 + 1) #[.bool false] := by rw [hWf]; exact (k9.setOther (by omega) _).set1 _
    rw [← hWf]
    clear hWf e8 e9 f8 f9 hU
    have hszc := hsb.size
    have hszu := hsU.size
    have hdl := (Array.getElem?_eq_some_iff.1 hDf).1
    have hDf2 : Wf.heap[W3.heap.size]? = some (.deferred (some [])) := by rw [hsF.block _ (by omega) (by omega), hsU.block _ hdl (by omega)]; exact hDf
    refine ⟨by simp, .inl ⟨_, _, rfl, run_takeDeferred hDf2, ?_⟩⟩
    have hcm := calm_put (B := 0) (W := Wf) (.deferred none) hDf2 (by omega) rfl
    have hnone : srch bm ps long parts (r + 1) M an = none := by
      rw [srch_succ, hlen, ← hNN'.out]
      exact find_none.2 (fun t ht => h4 t (by simpa using ht))
    have hs9 : SameBut (fun k => k = bl ∨ k = md ∨ k = w.heap.size + 1 ∨ k = w.heap.size + 1 + 1) W3 Wf := (hsb.trans (hsU.mono (fun k h => .inr (.inl h)))).trans (hsF.mono (fun k h => .inr (.inr h)))
    refine ⟨_, results_sb rfl rfl (m8.calm hcm).cell (m9.calm hcm).cell, same_put (hww Wf hs9) _ (.inr (by omega)), .inr ⟨hnone, rfl, ((h1.same hsU (by omega)).same hsF (by omega)).calm hcm, setKey D' (keyOf M) true, (hmU.same hsF (by omega)).calm hcm, ?_⟩⟩
    refine dead_add h3 (fun k hk => ?_) hM (by omega) hc hnone
    have hpk := hN.part k (by omega)
    unfold lenOf
    exact (hN.shape _ (by omega)).1
  case stop =>
    rintro c pre Wc hpre ⟨⟨rfl, l, ra, rn, rc, pre', t, h1, h2, h3, h4, h5, h6⟩, hsb⟩ hDf
    gi_wp2
    refine ⟨by simp, .inl ⟨_, _, rfl, run_takeDeferred hDf, ?_⟩⟩
    have hcm := calm_put (B := 0) (W := Wc) (.deferred none) hDf (by omega) rfl
    subst h1
    obtain ⟨hp1, hp2⟩ := pre_range hpre
    refine ⟨_, results_sb rfl rfl (h4.calm hcm).cell (h5.calm hcm).cell, same_put (hww Wc hsb) _ (.inr (by omega)), .inl ⟨l, ra, rn, rc, ?_, rfl, h6.calm hcm⟩⟩
    rw [srch_succ, hlen, ← hNN'.out]
    exact find_some hp2 (fun i hi => h2 i (by rw [hp1]; simpa using hi)) h3

theorem next_any {B Bp bl Bdd Bd Bc Bn : Nat} {pa : Option Addr} {pn pc : Nat} {parts : List Int} {long : Int} {ka : Option Addr} {kn kc : Nat} {sa : Option Addr} {sn sc : Nat} {ps : List Shape} {mb md : Nat} {bm : Int × Int → Option Int} (hN : LayNums pn parts long sn ps bm) :
    ∀ (r : Nat) {w : World} {aa : Option Addr} {an ac : Nat} {at_ : List Int} {M : Nat → Bool} {D : Key → Option Bool}, LayEnv w B Bp bl Bdd Bd Bc Bn pa pn pc parts long ka kn kc sa sn sc ps mb md bm → IntsOff bl w aa an at_ → Room aa an ac → an + r = pn → Low M → (cntU M 16 : Int) = preLen ps parts an →
      MapAt w md keyV boolV D → DeadOk bm ps long parts D → Blk w bl (layerRow long ka kn kc sa sn sc mb M) →
      Calls Try.prog 105 #[.slice aa an ac, .pointer (some ⟨Bp, 0, none⟩), .pointer (some ⟨bl, 0, none⟩), .pointer (some ⟨Bdd, 0, none⟩), .pointer (some ⟨Bd, 0, none⟩), .pointer (some ⟨Bc, 0, none⟩), .pointer (some ⟨Bn, 0, none⟩)] w
        (NextPost bl md long ka kn kc sa sn sc mb bm ps parts r an M at_ w)
  | 0, w, aa, an, ac, at_, M, D, hE, ha, _, hr, _, _, _, _, _ => by
    obtain rfl : an = pn := by omega
    exact next_zero hE ha
  | r + 1, w, aa, an, ac, at_, M, D, hE, ha, hroom, hr, hM, hc, hD, hDk, hl =>
    next_succ (fun {w} {aa} {an} {ac} {at_} {M} {D} h1 h2 h3 h4 h5 h6 h7 h8 h9 => next_any hN r h1 h2 h3 h4 h5 h6 h7 h8 h9) hE hN ha hroom hr hM hc hD hDk hl
end Go.Proofs.Ytbbolibkheelmaa
