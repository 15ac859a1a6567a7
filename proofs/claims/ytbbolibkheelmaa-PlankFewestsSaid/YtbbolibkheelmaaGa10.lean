/- Walks: parts that are laid together. Walks: Lay. Walks: bits of small numbers. Walks: the members of a set. Sets of sets of parts ([32]bool). Walks: what can be cut. -/
import Derived.Test.YtbbolibkheelmaaGa09
import Derived.Test.YtbbolibkheelmaaGa06
import Derived.Test.YtbbolibkheelmaaGa07
import Derived.Test.YtbbolibkheelmaaGa02
namespace Go.Proofs.Ytbbolibkheelmaa
open Go.RowKit Go.Shelf

def layL (bm : Int × Int → Option Int) (ps : List Shape) (long : Int) (parts : List Int) : Option (List Int) := srch bm ps long parts parts.length (fun _ => false) 0

theorem cnt_zero : ∀ n, cntU (fun _ => false) n = 0
  | 0 => rfl
  | n + 1 => by simp [cntU, cnt_zero n]

theorem lyInfo : (Try.prog.info? 144).map (·.size) = some 20 := by kernel_rfl
/-- A store of a whole layer: kept shut. -/
def storeLy (p v : Value) : Sem Unit := Instr.storeAt 144 p v
theorem storeAt_ly (p v : Value) : Instr.storeAt 144 p v = storeLy p v := rfl
attribute [local go_sem ↓] storeAt_ly

theorem alloc_step {w V : World} {c : Array Value} {t : TypeId} (h : V = w.alloc (.cells c t)) : Blk V w.heap.size c ∧ SameBut (fun _ => False) w V ∧ V.heap.size = w.heap.size + 1 := by
  subst h
  exact ⟨Blk.new w c t, (SameBut.refl _ w).alloc _, by simp⟩

set_option maxRecDepth 100000 in
set_option maxHeartbeats 2000000 in
theorem lay_any {B : Nat} {long : Int} {ka : Option Addr} {kn kc : Nat} {sa : Option Addr} {sn sc mb : Nat} {ps : List Shape} {bm : Int × Int → Option Int} {pa : Option Addr} {pn pc : Nat} {parts : List Int} {w : World} (hB : B ≤ w.heap.size)
    (hp : IntsAt B w pa pn parts) (hs : ShapesAt B w sa sn ps) (hm : MapAt w mb placeK intV bm) (hN : LayNums pn parts long sn ps bm) :
    Calls Try.prog 72 #[.agg #[.int .i64 long, .slice ka kn kc, .slice sa sn sc, .map (some mb)], .slice pa pn pc] w fun e w' =>
      ∃ ra rn rc, e = .returned (.tuple #[.slice ra rn rc, .bool (layL bm ps long parts).isSome]) ∧ IntsAt w'.heap.size w' ra rn ((layL bm ps long parts).getD []) ∧ Below w.heap.size w w' := by
  have hmm := @run_makeMap Try.prog
  have hml := hm.lt
  have hm' := Lib.hid hm
  have hp' := Lib.hid hp
  have hs' := Lib.hid hs
  clear hm hp hs
  obtain ⟨V1, hV1⟩ : ∃ V, V = w.alloc (.cells #[.int .i64 long, .slice ka kn kc, .slice sa sn sc, .map (some mb)] 86) := ⟨_, rfl⟩
  obtain ⟨b1, s1, z1⟩ := alloc_step hV1
  obtain ⟨V2, hV2⟩ : ∃ V, V = V1.alloc (.cells #[.slice pa pn pc] 31) := ⟨_, rfl⟩
  obtain ⟨b2, s2, z2⟩ := alloc_step hV2
  obtain ⟨V2z, hV2z⟩ : ∃ V, V = V2.alloc (.cells #[.int .i64 0, .slice none 0 0, .slice none 0 0, .map none, .bool false, .bool false, .bool false, .bool false, .bool false, .bool false, .bool false, .bool false, .bool false, .bool false, .bool false, .bool false, .bool false, .bool false, .bool false, .bool false] 144) := ⟨_, rfl⟩
  obtain ⟨b3z, s3z, z3z⟩ := alloc_step hV2z
  have hrow : rowOf V2z V2.heap.size = #[.int .i64 0, .slice none 0 0, .slice none 0 0, .map none, .bool false, .bool false, .bool false, .bool false, .bool false, .bool false, .bool false, .bool false, .bool false, .bool false, .bool false, .bool false, .bool false, .bool false, .bool false, .bool false] := by
    obtain ⟨t, ht⟩ := b3z; exact rowOf_of ht
  have hst := run_storeAt_row (P := Try.prog) (ty := 144) lyInfo (.pointer (some ⟨V2.heap.size, 0, none⟩)) (.agg #[.int .i64 long, .slice ka kn kc, .slice sa sn sc, .map (some mb), .bool false, .bool false, .bool false, .bool false, .bool false, .bool false, .bool false, .bool false, .bool false, .bool false, .bool false, .bool false, .bool false, .bool false, .bool false, .bool false]) V2z rfl (by rw [blkOf_mk, hrow]; rfl) (by simp [isAgg, Value.oneCell'])
  rw [blkOf_mk, storeAt_ly] at hst
  obtain ⟨V3, hV3⟩ : ∃ V, V = V2z.setRow V2.heap.size #[.int .i64 long, .slice ka kn kc, .slice sa sn sc, .map (some mb), .bool false, .bool false, .bool false, .bool false, .bool false, .bool false, .bool false, .bool false, .bool false, .bool false, .bool false, .bool false, .bool false, .bool false, .bool false, .bool false] := ⟨_, rfl⟩
  have hst' : Sem.run Try.prog (storeLy (.pointer (some ⟨V2.heap.size, 0, none⟩)) (.agg #[.int .i64 long, .slice ka kn kc, .slice sa sn sc, .map (some mb), .bool false, .bool false, .bool false, .bool false, .bool false, .bool false, .bool false, .bool false, .bool false, .bool false, .bool false, .bool false, .bool false, .bool false, .bool false, .bool false])) V2z = .ok () V3 := by rw [hV3]; exact hst
  have b3 : Blk V3 V2.heap.size #[.int .i64 long, .slice ka kn kc, .slice sa sn sc, .map (some mb), .bool false, .bool false, .bool false, .bool false, .bool false, .bool false, .bool false, .bool false, .bool false, .bool false, .bool false, .bool false, .bool false, .bool false, .bool false, .bool false] := by
    obtain ⟨t, ht⟩ := b3z; rw [hV3]; exact ⟨t, setRow_heap V2z _ _ _ t _ ht⟩
  have s3 : SameBut (fun _ => False) V2 V3 := by rw [hV3]; exact s3z.setRow (.inr (Nat.le_refl _)) _
  have z3 : V3.heap.size = w.heap.size + 3 := by rw [hV3, size_setRow]; omega
  clear hV3 hst hrow b3z s3z
  rw [z2, z1] at hst'
  obtain ⟨V4, hV4⟩ : ∃ V, V = V3.alloc (.cells #[.func (.func 104) #[.pointer (some ⟨w.heap.size + 1 + 1, 0, none⟩)] #[]] 140) := ⟨_, rfl⟩
  obtain ⟨b4, s4, z4⟩ := alloc_step hV4
  rw [z3] at b4 z4
  obtain ⟨V5, hV5⟩ : ∃ V, V = V4.alloc (.map #[] 0) := ⟨_, rfl⟩
  have b5 : MapAt V5 V4.heap.size keyV boolV (fun _ => none) := by rw [hV5]; exact MapAt.new V4
  have s5 : SameBut (fun _ => False) V4 V5 := by rw [hV5]; exact (SameBut.refl _ V4).alloc _
  have z5 : V5.heap.size = V4.heap.size + 1 := by rw [hV5]; simp
  rw [z4] at b5 z5
  obtain ⟨V6, hV6⟩ : ∃ V, V = V5.alloc (.cells #[.map (some (w.heap.size + 3 + 1))] 145) := ⟨_, rfl⟩
  obtain ⟨b6, s6, z6⟩ := alloc_step hV6
  rw [z5] at b6 z6
  obtain ⟨V7, hV7⟩ : ∃ V, V = V6.alloc (.cells #[.func (.func 105) #[] #[.pointer (some ⟨w.heap.size + 1, 0, none⟩), .pointer (some ⟨w.heap.size + 1 + 1, 0, none⟩), .pointer (some ⟨w.heap.size + 3 + 1 + 1, 0, none⟩), .pointer (some ⟨w.heap.size, 0, none⟩), .pointer (some ⟨w.heap.size + 3, 0, none⟩), .pointer (some ⟨w.heap.size + 3 + 1 + 1 + 1, 0, none⟩)]] 100) := ⟨_, rfl⟩
  obtain ⟨b7, s7, z7⟩ := alloc_step hV7
  rw [z6] at b7 z7
  rw [z2, z1] at b3
  rw [z1] at b2
  have t6 := s7
  have t5 := s6.trans t6
  have t4 := s5.trans t5
  have t3 := s4.trans t4
  have t2 := s3.trans t3
  have t1 := s2.trans t2
  have t0 := s1.trans t1
  have hE : LayEnv V7 B (w.heap.size + 1) (w.heap.size + 1 + 1) (w.heap.size + 3 + 1 + 1) w.heap.size (w.heap.size + 3) (w.heap.size + 3 + 1 + 1 + 1) pa pn pc parts long ka kn kc sa sn sc ps mb (w.heap.size + 3 + 1) bm :=
    ⟨b2.same t2 (fun e => e), b6.same t6 (fun e => e), b1.same t1 (fun e => e), b4.same t4 (fun e => e), b7, ⟨⟨by omega, by omega, by omega, by omega, by omega⟩, by omega, by omega, by omega, by omega, by omega⟩, hp'.out.keep (Nat.le_refl _) (fun b o hb => t0.cell (by omega) (fun e => e)), hs'.out.keep (Nat.le_refl _) (fun b o hb => t0.cell (by omega) (fun e => e)), hm'.out.same t0 (fun e => e), by omega⟩
  have hcall := next_any hN pn (at_ := []) (aa := none) (an := 0) (ac := 0) hE ⟨⟨rfl, by omega, fun i hi => absurd hi (by omega)⟩, fun b h => by cases h⟩ (.inl ⟨rfl, rfl, rfl⟩) (Nat.zero_add pn) (fun _ _ => rfl) (by rw [cnt_zero]; rfl) (b5.same t5 (fun e => e)) (fun M k r _ _ _ h => by cases h) (b3.same t3 (fun e => e))
  have hL : layL bm ps long parts = srch bm ps long parts pn (fun _ => false) 0 := by unfold layL; rw [hp'.out.len]
  rw [hL]
  clear hL
  have hz : V7.heap.size = w.heap.size + 7 := by omega
  clear hE b1 b2 b3 b4 b5 b6 b7 t6 t5 t4 t3 t2 t1 s1 s2 s3 s4 s5 s6 s7 z1 z2 z4 z5 z6 z7 z3z
  have t0' := Lib.hid t0
  have hz' := Lib.hid hz
  clear t0 hz
  subst hV7
  subst hV6
  subst hV5
  subst hV4
  subst hV2z
  subst hV2
  subst hV1
  go_enter Try.func72, Try.ntmps72
  go_wp2_with (go_at_call 105; refine hcall.mono ?_; rintro e w8 ⟨hs8, ⟨l, ra, rn, rc, hsr, rfl, hi⟩ | ⟨hsr, rfl, _, _, _⟩⟩)
  all_goals
    go_ret2
    rw [hsr]
    refine ⟨_, _, _, rfl, ?_, (t0'.out.mono (fun k h => h.elim)).trans hs8 |>.toBelow (Nat.le_refl _) (fun k hk => by have hk' : k = w.heap.size + 1 + 1 ∨ k = w.heap.size + 3 + 1 := hk; omega)⟩
  · exact hi.1
  · exact ⟨rfl, by omega, fun i hi => absurd hi (by omega)⟩
end Go.Proofs.Ytbbolibkheelmaa
namespace Go.Proofs.Ytbbolibkheelmaa
open Go.RowKit Go.Shelf

def layO : Option (List Int) → List Int × Int
  | some l => (l, 0)
  | none => ([], 4)
def layR (x : Book) (i : Int) (parts : List Int) : List Int × Int :=
  if askE x i parts = 0 then (if incB parts = true then layO (layL (boardM (gw x.planks i.toNat) x.parts x.parts.length) x.parts (gw x.planks i.toNat).long parts) else ([], 11)) else ([], askE x i parts)

theorem board_012 (x : Wood) (ps : List Shape) (n : Nat) (k : Int × Int) : (boardM x ps n k).getD 0 = 0 ∨ (boardM x ps n k).getD 0 = 1 ∨ (boardM x ps n k).getD 0 = 2 := by
  unfold boardM ansOf
  split
  · simp only [Option.getD_some]
    (repeat' split) <;> simp
  · exact .inl rfl

theorem inc_bound {xs : List Int} {m : Nat} (h : incB xs = true) (h0 : ∀ k, k < xs.length → 0 ≤ gi xs k ∧ gi xs k < m) : xs.length ≤ m := by
  unfold incB at h
  rw [allB_iff] at h
  have key : ∀ k, k < xs.length → (k : Int) ≤ gi xs k := by
    intro k
    induction k with
    | zero => intro hk; exact (h0 0 hk).1
    | succ k ih =>
      intro hk
      have h1 := ih (by omega)
      have h2 := h k (by omega)
      simp only [decide_eq_true_eq] at h2
      omega
  by_cases hx : xs.length = 0
  · omega
  · have h1 := key (xs.length - 1) (by omega)
    have h2 := (h0 (xs.length - 1) (by omega)).2
    omega

theorem layNums_of {x : Book} {i : Nat} {parts : List Int} (hk : bookOk x = true) (hi : i < x.planks.length) (hp : ∀ k, k < parts.length → 0 ≤ gi parts k ∧ gi parts k < x.parts.length) (hc : incB parts = true) :
    LayNums parts.length parts (gw x.planks i).long x.parts.length x.parts (boardM (gw x.planks i) x.parts x.parts.length) := by
  have hG := good_of hk
  exact ⟨hp, ⟨by have := inc_bound hc hp; have := hG.parts; omega, hG.parts.2⟩, ⟨(hG.wood i hi).1, (hG.wood i hi).2.1⟩, fun q hq => ⟨(hG.shape q hq).1, (hG.shape q hq).2.1⟩, fun k => board_012 _ _ _ _⟩

set_option maxRecDepth 100000 in
set_option maxHeartbeats 2000000 in
theorem Lay_any {B : Nat} {pa sa la : Option Addr} {pn pc sn sc ln lc : Nat} {x : Book} {i : Int} {parts : List Int} {w : World} (hB : B ≤ w.heap.size) (hx : BookAt B w pa pn sa sn x) (hl : IntsAt B w la ln parts) :
    Calls Try.prog 24 #[.agg #[.slice pa pn pc, .slice sa sn sc], .int .i64 i, .slice la ln lc] w fun e w' =>
      ∃ ra rn rc, e = .returned (.tuple #[.slice ra rn rc, .int .i64 (layR x i parts).2]) ∧ IntsAt w'.heap.size w' ra rn (layR x i parts).1 ∧ Below w.heap.size w w' := by
  have hpn := hx.planks.len
  have hsn := hx.parts.len
  have hln := hl.len
  obtain ⟨W1, hW1⟩ : ∃ V, V = w.alloc (.cells #[.slice pa pn pc, .slice sa sn sc] 25) := ⟨_, rfl⟩
  obtain ⟨b1, s1, z1⟩ := alloc_step hW1
  have hx1 := hx.keep (Nat.le_refl _) (fun b o hb => s1.cell (b := b) (o := o) (by omega) (fun e => e))
  have hl1 := hl.keep (Nat.le_refl _) (fun b o hb => s1.cell (b := b) (o := o) (by omega) (fun e => e))
  have hcA := checkAsk_any (B := B) (C := B) (pc := pc) (sc := sc) (lc := lc) (i := i) (w := W1) (by omega) (by omega) hx1 hl1
  obtain ⟨E, hE⟩ : ∃ E, E = askE x i parts := ⟨_, rfl⟩
  rw [← hE] at hcA
  have hb01 : Below w.heap.size w W1 := s1.toBelow (Nat.le_refl _) (fun _ h => h.elim)
  have nil : ∀ w' : World, IntsAt w'.heap.size w' none 0 [] := fun w' => ⟨rfl, by omega, fun i hi => absurd hi (by omega)⟩
  have nil' := Lib.hid nil
  have b1' := Lib.hid b1
  have hb01' := Lib.hid hb01
  have z1' := Lib.hid z1
  clear nil b1 hb01 z1
  by_cases h0 : E = 0
  case neg =>
    have hne : (E == 0) = false := by simpa using h0
    have hL : layR x i parts = ([], E) := by unfold layR; rw [← hE, if_neg h0]
    rw [hL]
    clear hL hE h0 hx1 hl1 s1
    subst hW1
    go_enter Try.func24, Try.ntmps24
    go_wp2_with (go_at_call 60; refine hcA.mono ?_; rintro e w2 ⟨rfl, hb2⟩)
    go_ret2
    exact ⟨none, 0, 0, rfl, nil'.out _, hb01'.out.trans (hb2.mono hb01'.out.size)⟩
  subst h0
  obtain ⟨hok, hi0, hi1, hpp⟩ := askE_zero hE.symm
  obtain ⟨p, rfl⟩ := Int.eq_ofNat_of_zero_le hi0
  have hx1' := Lib.hid hx1
  have hl1' := Lib.hid hl1
  have hE' := Lib.hid hE
  clear hE hx1 hl1 s1
  by_cases hinc : incB parts = true
  case neg =>
    have hL : layR x p parts = ([], 11) := by unfold layR; rw [← hE'.out, if_pos rfl, if_neg hinc]
    have hinc' : Hid (incB parts = false) := Lib.hid (by simpa using hinc)
    rw [hL]
    clear hL hinc
    subst hW1
    go_enter Try.func24, Try.ntmps24
    go_wp2_with (first | (go_at_call 60; refine hcA.mono ?_; rintro e w2 ⟨rfl, hb2⟩; have hl2 := hl1'.out.keep (Nat.le_refl _) (fun b o hb => bcells hb2 b o (by rw [z1'.out]; omega)); have hbw := hb01'.out.trans (hb2.mono hb01'.out.size); have hl2' := Lib.hid hl2; clear hl2 hb2) | (go_at_call 71; refine (increasing_any hl2'.out).mono ?_; rintro e w3 ⟨rfl, q, rfl⟩; rw [hinc'.out]))
    go_ret2
    exact ⟨none, 0, 0, rfl, nil'.out _, below_drewN hbw q⟩
  have hinc' := Lib.hid hinc
  have hNums := Lib.hid (layNums_of (i := p) hok (by omega) hpp hinc)
  obtain ⟨L, hLL⟩ : ∃ L, L = layL (boardM (gw x.planks p) x.parts x.parts.length) x.parts (gw x.planks p).long parts := ⟨_, rfl⟩
  have hL : layR x p parts = layO L := by unfold layR; rw [← hE'.out, if_pos rfl, if_pos hinc, hLL]; rfl
  have hLL' := Lib.hid hLL
  rw [hL]
  clear hL hinc hLL
  rw [hsn, hln] at hNums
  rw [hsn] at hLL'
  subst hW1
  cases L
  case none =>
    go_enter Try.func24, Try.ntmps24
    go_wp2_with (first | (go_at_call 60; refine hcA.mono ?_; rintro e w2 ⟨rfl, hb2⟩; have hl2 := hl1'.out.keep (Nat.le_refl _) (fun b o hb => bcells hb2 b o (by rw [z1'.out]; omega)); have hx2 := hx1'.out.keep (Nat.le_refl _) (fun b o hb => bcells hb2 b o (by rw [z1'.out]; omega)); have hbw := hb01'.out.trans (hb2.mono hb01'.out.size); have bk2 := b1'.out.below hb2 (by rw [z1'.out]; omega); have q0 : w2.cell? ⟨w.heap.size, 0, none⟩ = some (.slice pa pn pc) := bk2.cell; have q1 : w2.cell? ⟨w.heap.size, 1, none⟩ = some (.slice sa sn sc) := bk2.cell; have hl2' := Lib.hid hl2; have hx2' := Lib.hid hx2; clear hl2 hx2 hb2) | (go_at_call 71; refine (increasing_any hl2'.out).mono ?_; rintro e w3 ⟨rfl, q, rfl⟩; rw [hinc'.out]; have hbq := below_drewN hbw q; have hx3 := hx2'.out.keep (Nat.le_refl B) (fun b o hb => bcells (below_drewN (Below.refl B w2) q) b o hb); have hl3 := hl2'.out.keep (Nat.le_refl B) (fun b o hb => bcells (below_drewN (Below.refl B w2) q) b o hb); have hx3' := Lib.hid hx3; have hl3' := Lib.hid hl3; clear hx3 hl3) | (go_at_call 61; refine (newBoard_any (B := B) (by have := hbq.size; omega) hx3'.out hok (by omega)).mono ?_; rintro e w4 ⟨mb, _, rfl, hmb, hM, ⟨ka, kn, kc, rfl, hks⟩, hb4⟩; have hbw4 := hbq.trans (hb4.mono hbq.size); have hsz4 := hbw4.size; have hl4 := Lib.hid (hl3'.out.keep (Nat.le_refl B) (fun b o hb => bcells hb4 b o (by have := hbq.size; omega))); have hs4 := Lib.hid (hx3'.out.parts.keep (Nat.le_refl B) (fun b o hb => bcells hb4 b o (by have := hbq.size; omega))); clear hks hb4 hmb) | (go_at_call 72; refine (lay_any (B := B) (by omega) hl4.out hs4.out hM hNums.out).mono ?_; rintro e w5 ⟨ra, rn, rc, rfl, hi5, hb5⟩; rw [← hLL'.out] at hi5 ⊢))
    go_ret2
    exact ⟨none, 0, 0, rfl, nil'.out _, hbw4.trans (hb5.mono hbw4.size)⟩
  case some l =>
    go_enter Try.func24, Try.ntmps24
    go_wp2_with (first | (go_at_call 60; refine hcA.mono ?_; rintro e w2 ⟨rfl, hb2⟩; have hl2 := hl1'.out.keep (Nat.le_refl _) (fun b o hb => bcells hb2 b o (by rw [z1'.out]; omega)); have hx2 := hx1'.out.keep (Nat.le_refl _) (fun b o hb => bcells hb2 b o (by rw [z1'.out]; omega)); have hbw := hb01'.out.trans (hb2.mono hb01'.out.size); have bk2 := b1'.out.below hb2 (by rw [z1'.out]; omega); have q0 : w2.cell? ⟨w.heap.size, 0, none⟩ = some (.slice pa pn pc) := bk2.cell; have q1 : w2.cell? ⟨w.heap.size, 1, none⟩ = some (.slice sa sn sc) := bk2.cell; have hl2' := Lib.hid hl2; have hx2' := Lib.hid hx2; clear hl2 hx2 hb2) | (go_at_call 71; refine (increasing_any hl2'.out).mono ?_; rintro e w3 ⟨rfl, q, rfl⟩; rw [hinc'.out]; have hbq := below_drewN hbw q; have hx3 := hx2'.out.keep (Nat.le_refl B) (fun b o hb => bcells (below_drewN (Below.refl B w2) q) b o hb); have hl3 := hl2'.out.keep (Nat.le_refl B) (fun b o hb => bcells (below_drewN (Below.refl B w2) q) b o hb); have hx3' := Lib.hid hx3; have hl3' := Lib.hid hl3; clear hx3 hl3) | (go_at_call 61; refine (newBoard_any (B := B) (by have := hbq.size; omega) hx3'.out hok (by omega)).mono ?_; rintro e w4 ⟨mb, _, rfl, hmb, hM, ⟨ka, kn, kc, rfl, hks⟩, hb4⟩; have hbw4 := hbq.trans (hb4.mono hbq.size); have hsz4 := hbw4.size; have hl4 := Lib.hid (hl3'.out.keep (Nat.le_refl B) (fun b o hb => bcells hb4 b o (by have := hbq.size; omega))); have hs4 := Lib.hid (hx3'.out.parts.keep (Nat.le_refl B) (fun b o hb => bcells hb4 b o (by have := hbq.size; omega))); clear hks hb4 hmb) | (go_at_call 72; refine (lay_any (B := B) (by omega) hl4.out hs4.out hM hNums.out).mono ?_; rintro e w5 ⟨ra, rn, rc, rfl, hi5, hb5⟩; rw [← hLL'.out] at hi5 ⊢))
    go_ret2
    exact ⟨ra, rn, rc, rfl, hi5, hbw4.trans (hb5.mono hbw4.size)⟩
end Go.Proofs.Ytbbolibkheelmaa
namespace Go.Proofs.Ytbbolibkheelmaa
open Go.RowKit Go.Shelf

/-- How many bits a small number has; how many ones. -/
def lenN (n : Nat) : Nat := if n < 1 then 0 else if n < 2 then 1 else if n < 4 then 2 else if n < 8 then 3 else if n < 16 then 4 else 5
def onesN (n : Nat) : Nat := n % 2 + n / 2 % 2 + n / 4 % 2 + n / 8 % 2 + n / 16 % 2

set_option maxRecDepth 10000 in
set_option maxHeartbeats 4000000 in
theorem Len64_at (n : Nat) (hn : n < 32) (w : World) : Calls Try.prog 134 #[.int .u64 n] w fun e w' => e = .returned (.int .i64 (lenN n : Nat)) ∧ w = w' := by
  have h : n = 0 ∨ n = 1 ∨ n = 2 ∨ n = 3 ∨ n = 4 ∨ n = 5 ∨ n = 6 ∨ n = 7 ∨ n = 8 ∨ n = 9 ∨ n = 10 ∨ n = 11 ∨ n = 12 ∨ n = 13 ∨ n = 14 ∨ n = 15 ∨ n = 16 ∨ n = 17 ∨ n = 18 ∨ n = 19 ∨ n = 20 ∨ n = 21 ∨ n = 22 ∨ n = 23 ∨ n = 24 ∨ n = 25 ∨ n = 26 ∨ n = 27 ∨ n = 28 ∨ n = 29 ∨ n = 30 ∨ n = 31 := by omega
  rcases h with rfl | rfl | rfl | rfl | rfl | rfl | rfl | rfl | rfl | rfl | rfl | rfl | rfl | rfl | rfl | rfl | rfl | rfl | rfl | rfl | rfl | rfl | rfl | rfl | rfl | rfl | rfl | rfl | rfl | rfl | rfl | rfl
  all_goals
    go_enter Try.func134, Try.ntmps134
    go_wp2
    go_ret
    exact ⟨by kernel_rfl, rfl⟩
set_option maxRecDepth 10000 in
set_option maxHeartbeats 4000000 in
theorem Ones64_at (n : Nat) (hn : n < 32) (w : World) : Calls Try.prog 136 #[.int .u64 n] w fun e w' => e = .returned (.int .i64 (onesN n : Nat)) ∧ w = w' := by
  have h : n = 0 ∨ n = 1 ∨ n = 2 ∨ n = 3 ∨ n = 4 ∨ n = 5 ∨ n = 6 ∨ n = 7 ∨ n = 8 ∨ n = 9 ∨ n = 10 ∨ n = 11 ∨ n = 12 ∨ n = 13 ∨ n = 14 ∨ n = 15 ∨ n = 16 ∨ n = 17 ∨ n = 18 ∨ n = 19 ∨ n = 20 ∨ n = 21 ∨ n = 22 ∨ n = 23 ∨ n = 24 ∨ n = 25 ∨ n = 26 ∨ n = 27 ∨ n = 28 ∨ n = 29 ∨ n = 30 ∨ n = 31 := by omega
  rcases h with rfl | rfl | rfl | rfl | rfl | rfl | rfl | rfl | rfl | rfl | rfl | rfl | rfl | rfl | rfl | rfl | rfl | rfl | rfl | rfl | rfl | rfl | rfl | rfl | rfl | rfl | rfl | rfl | rfl | rfl | rfl | rfl
  all_goals
    go_enter Try.func136, Try.ntmps136
    go_wp2
    go_ret
    exact ⟨by kernel_rfl, rfl⟩
theorem Len_at (n : Nat) (hn : n < 32) (w : World) : Calls Try.prog 123 #[.int .u64 n] w fun e w' => e = .returned (.int .i64 (lenN n : Nat)) ∧ w = w' := by
  go_enter Try.func123, Try.ntmps123
  go_wp2_with (go_at_call 134; refine (Len64_at n hn _).mono ?_; rintro e w' ⟨rfl, rfl⟩)
  go_ret
  exact ⟨rfl, rfl⟩
theorem Ones_at (n : Nat) (hn : n < 32) (w : World) : Calls Try.prog 126 #[.int .u64 n] w fun e w' => e = .returned (.int .i64 (onesN n : Nat)) ∧ w = w' := by
  go_enter Try.func126, Try.ntmps126
  go_wp2_with (go_at_call 136; refine (Ones64_at n hn _).mono ?_; rintro e w' ⟨rfl, rfl⟩)
  go_ret
  exact ⟨rfl, rfl⟩
end Go.Proofs.Ytbbolibkheelmaa
namespace Go.Proofs.Ytbbolibkheelmaa
open Go.RowKit Go.Shelf

/-- The members of a set below k. -/
def hasN (n k : Nat) : Bool := decide (n / 2 ^ k % 2 = 1)
def memU (n k : Nat) : List Int := ((List.range k).filter (hasN n)).map fun (i : Nat) => (i : Int)
def memL (n : Nat) : List Int := memU n (lenN n)
theorem memU_succ (n k : Nat) : memU n (k + 1) = memU n k ++ (if hasN n k then [(k : Int)] else []) := by
  unfold memU
  rw [List.range_succ, List.filter_append, List.map_append]
  cases h : hasN n k <;> simp [List.filter, h]
theorem memU_len (n k : Nat) : (memU n k).length ≤ k := by
  unfold memU; rw [List.length_map]
  have := List.length_filter_le (hasN n) (List.range k)
  rwa [List.length_range] at this
theorem memU_i64 {n k i : Nat} (hk : k ≤ 100) (h : i < (memU n k).length) : 0 ≤ gi (memU n k) i ∧ gi (memU n k) i < k ∧ I64 (gi (memU n k) i) := by
  rw [gi_eq h]
  have hm := List.getElem_mem h
  unfold memU at hm
  rw [List.mem_map] at hm
  obtain ⟨t, ht, e⟩ := hm
  rw [List.mem_filter, List.mem_range] at ht
  unfold I64 memU
  omega
theorem own_cap {w : World} {base e size n m c : Nat} {a : Option Addr} {xs : List Value} (h : w.ownsRow base e size (.slice a m c) n xs) : m ≤ c := by
  rcases h.2 with ⟨h, _⟩ | ⟨g, cap, cur, h, _, _, h3, _⟩
  · cases h; exact Nat.le_refl _
  · cases h; exact h3
theorem lenN_le (n : Nat) : lenN n ≤ 5 := by unfold lenN; (repeat' split) <;> omega

theorem has_all : (List.range 32).all (fun (n : Nat) => (List.range 5).all fun (k : Nat) => (bits BinOp.and IntKind.i64 ((n : Int) / 2 ^ k) 1 == 1) == hasN n k) = true := by kernel_rfl
theorem has_bit {n k : Nat} (hn : n < 32) (hk : k < 5) : (bits BinOp.and IntKind.i64 ((n : Int) / 2 ^ k) 1 == 1) = hasN n k := by
  have := has_all
  rw [List.all_eq_true] at this
  have := this n (List.mem_range.2 hn)
  rw [List.all_eq_true] at this
  simpa using this k (List.mem_range.2 hk)

attribute [local go_sem ↓] append_alias

set_option maxRecDepth 100000 in
set_option maxHeartbeats 2000000 in
theorem members_any {n : Nat} {w : World} (hn : n < 32) :
    Calls Try.prog 111 #[.int .i64 n] w fun e w' => ∃ a m c, e = .returned (.slice a m c) ∧ IntsAt w'.heap.size w' a m (memL n) ∧ (∀ x, a = some x → w.heap.size ≤ x.block) ∧ m ≤ c ∧ Below w.heap.size w w' := by
  go_enter Try.func111, Try.ntmps111
  have hw : IntKind.u64.wrap (n : Int) = n := by rw [IntKind.wrap_u64]; omega
  go_wp2_with (go_at_call 123; refine (Len_at n hn _).mono ?_; rintro e w' ⟨rfl, rfl⟩)
  obtain ⟨i0, hi, hz0, hz1, hz2⟩ := info_parts intInfo3
  obtain ⟨N, hN⟩ : ∃ N, N = lenN n := ⟨_, rfl⟩
  have hN5 : N ≤ 5 := by rw [hN]; exact lenN_le n
  rw [← hN]
  have hN' := Lib.hid hN
  clear hN
  go_loopw [3, 8] (fun v i wr => ∃ k : Nat, k ≤ N ∧ i = .int .i64 k ∧ wr.ownsRow w.heap.size 3 1 v (memU n k).length ((memU n k).map intV) ∧ Below w.heap.size w wr) (fun _ i _ => (N - intOf i).toNat)
  case atStart => exact ⟨0, by omega, rfl, World.ownsRow_nil _ _ _ _, Below.refl _ _⟩
  case round =>
    obtain ⟨k, hk, rfl, hown, hb⟩ := hrel
    obtain ⟨va, vn, vc, hv⟩ := own_slice hown
    subst hv
    by_cases hlt : k < N
    · have hbit := has_bit (n := n) (k := k) hn (by omega)
      have hsu := memU_succ n k
      have hml := memU_len n k
      rcases Bool.eq_false_or_eq_true (hasN n k) with hh | hh
      · rw [hh] at hbit hsu
        simp only [if_true] at hsu
        clear hh
        obtain ⟨v', w5, hap, hown5, hgr5, _, _⟩ := run_append_own_at (P := Try.prog) (w := wr.alloc (.cells #[.int .i64 k] 3)) w.heap.size 31 31 3 i0 (.int .i64 0) 1 8 intsUnder hi hz0 hz1 hz2 rfl (by decide) (.slice va vn vc) _ _ (hown.alloc _) ⟨wr.heap.size, 0, none⟩ 1 1 [.int .i64 k] rfl
          (fun j u hj => by
            match j, hj with
            | 0, hj =>
              simp at hj; subst hj
              exact (Blk.new wr #[.int .i64 k] 3).cell)
          (fun u hu => by simp at hu; subst hu; rfl) (by unfold maxLen; omega) (by omega) (by have := hb.size; simp; omega)
        have hlt5 := hown.lt
        have hb5 : Below w.heap.size w w5 := by
          have h1 : SameBut (fun i => w.heap.size ≤ i) wr w5 := ((SameBut.refl _ wr).alloc _).trans (same_grown hgr5 (fun k h => (hlt5 k h).1))
          exact hb.trans (h1.toBelow hb.size (fun _ h => h))
        have hown6 : w5.ownsRow w.heap.size 3 1 v' (memU n (k + 1)).length ((memU n (k + 1)).map intV) := by
          rw [hsu, List.length_append, List.map_append]; exact hown5
        rw [append_alias] at hap
        have hown6' := Lib.hid hown6
        clear hown5 hown6 hgr5 hsu hlt5
        go_wp2
        go_roundw
        case rel => exact ⟨k + 1, by omega, rfl, hown6'.out, hb5⟩
        case measure => simp [intOf]; omega
      · rw [hh] at hbit hsu
        simp only [Bool.false_eq_true, if_false, List.append_nil] at hsu
        have hown6 : wr.ownsRow w.heap.size 3 1 (.slice va vn vc) (memU n (k + 1)).length ((memU n (k + 1)).map intV) := by rw [hsu]; exact hown
        have hown6' := Lib.hid hown6
        clear hh hsu hown6
        go_wp2
        go_roundw
        case rel => exact ⟨k + 1, by omega, rfl, hown6'.out, hb⟩
        case measure => simp [intOf]; omega
    · obtain rfl : k = N := by omega
      go_wp2
      go_ret
      obtain ⟨a, m, c, e, hx⟩ := ints_of_own hown (fun i hi => (memU_i64 (by omega) hi).2.2) (by have := memU_len n k; omega)
      refine ⟨va, vn, vc, rfl, ?_, fun x hx => ?_, own_cap hown, hb⟩
      · unfold memL
        rw [← hN'.out]
        cases e
        exact hx
      · subst hx
        exact (hown.lt _ rfl).1
end Go.Proofs.Ytbbolibkheelmaa
namespace Go.Proofs.Ytbbolibkheelmaa
open Go.RowKit Go.Shelf

/-- An array of 32 truth values. -/
def encLC (m : Nat → Bool) : List Value := (List.range 32).map fun i => Value.bool (m i)
def encC (m : Nat → Bool) : Array Value := (encLC m).toArray
theorem encLC_length (m : Nat → Bool) : (encLC m).length = 32 := by simp [encLC]
theorem encC_size (m : Nat → Bool) : (encC m).size = 32 := by simp [encC, encLC]
theorem encC_get (m : Nat → Bool) {i : Nat} (h : i < 32) : (encC m)[i]? = some (.bool (m i)) := by simp [encC, encLC, h]
theorem encC_congr {m n : Nat → Bool} (h : ∀ i, i < 32 → m i = n i) : encC m = encC n := by
  unfold encC encLC
  congr 1
  exact List.map_congr_left fun i hi => by rw [h i (List.mem_range.1 hi)]
theorem encC_set (m : Nat → Bool) {i : Nat} (h : i < 32) (v : Bool) : (encC m).setIfInBounds i (.bool v) = encC (upd m i v) := by
  apply Array.ext_getElem?
  intro j
  rw [Array.getElem?_setIfInBounds]
  by_cases hj : j < 32
  · rw [encC_get (upd m i v) hj]
    by_cases e : i = j
    · subst e; simp [encC_size, h, upd]
    · rw [if_neg e, encC_get m hj]; simp [upd, Ne.symm e]
  · have h1 : (encC (upd m i v))[j]? = none := by rw [Array.getElem?_eq_none]; rw [encC_size]; omega
    have h2 : (encC m)[j]? = none := by rw [Array.getElem?_eq_none]; rw [encC_size]; omega
    rw [h1, h2]
    have : ¬ i = j := by omega
    simp [this]
theorem encC_inj {m n : Nat → Bool} (h : encC m = encC n) : ∀ i, i < 32 → m i = n i := by
  intro i hi
  have := congrArg (fun a : Array Value => a[i]?) h
  simp only [encC_get _ hi, Option.some.injEq, Value.bool.injEq] at this
  exact this
theorem encC_one (m : Nat → Bool) : (encC m).all (·.oneCell') = true := by
  simp [encC, encLC, Value.oneCell']
/-- A block that is such an array. -/
def CutBlk (w : World) (b : Nat) (m : Nat → Bool) : Prop := ∃ t, w.heap[b]? = some (.cells (encC m) t (0, 0))
theorem CutBlk.cell {w : World} {b : Nat} {m : Nat → Bool} (h : CutBlk w b m) {i : Nat} (hi : i < 32) : w.cell? ⟨b, i, none⟩ = some (.bool (m i)) := by
  obtain ⟨t, h⟩ := h; rw [cell_of_row w b i _ t _ h, encC_get _ hi]
theorem CutBlk.frozen {w : World} {b : Nat} {m : Nat → Bool} (h : CutBlk w b m) (i : Nat) : w.frozen? ⟨b, i, none⟩ = false := by
  obtain ⟨t, h⟩ := h; exact frozen_of_row w b i _ t h
theorem CutBlk.set {w : World} {b : Nat} {m : Nat → Bool} (h : CutBlk w b m) {i : Nat} (hi : i < 32) (v : Bool) : CutBlk (w.setCell ⟨b, i, none⟩ (.bool v)) b (upd m i v) := by
  obtain ⟨t, h⟩ := h; exact ⟨t, by rw [heap_setCell_same w b i _ t _ h, encC_set _ hi]⟩
theorem CutBlk.other {w : World} {b : Nat} {m : Nat → Bool} (h : CutBlk w b m) {a : Addr} (ha : b ≠ a.block) (v : Value) : CutBlk (w.setCell a v) b m := by
  obtain ⟨t, h⟩ := h; exact ⟨t, by rw [heap_setCell_other w a b v ha]; exact h⟩
theorem CutBlk.lt {w : World} {b : Nat} {m : Nat → Bool} (h : CutBlk w b m) : b < w.heap.size := by
  obtain ⟨t, h⟩ := h; exact lt_of_block h
theorem CutBlk.alloc {w : World} {b : Nat} {m : Nat → Bool} (h : CutBlk w b m) (o : Obj) : CutBlk (w.alloc o) b m := by
  have hl := h.lt
  obtain ⟨t, h⟩ := h; exact ⟨t, (Below.heap_alloc w o b hl).trans h⟩
theorem CutBlk.new (w : World) (m : Nat → Bool) (t : TypeId) : CutBlk (w.alloc (.cells (encC m) t)) w.heap.size m := ⟨t, heap_alloc_new w _⟩
theorem CutBlk.keep {w w' : World} {B b : Nat} {m : Nat → Bool} (h : CutBlk w b m) (hb : Below B w w') (hlt : b < B) : CutBlk w' b m := by
  obtain ⟨t, h⟩ := h; exact ⟨t, by rw [hb.block b hlt]; exact h⟩
theorem CutBlk.congr {w : World} {b : Nat} {m n : Nat → Bool} (h : CutBlk w b m) (e : ∀ i, i < 32 → m i = n i) : CutBlk w b n := by
  obtain ⟨t, h⟩ := h; exact ⟨t, by rw [← encC_congr e]; exact h⟩
@[go_sem] theorem size_encC (m : Nat → Bool) : (encC m).size = 32 := encC_size m
theorem CutBlk.range {w : World} {b : Nat} {m : Nat → Bool} (h : CutBlk w b m) : w.rangeAt b 0 (encLC m) := fun j v hv => by
  have hj : j < 32 := by have := (List.getElem?_eq_some_iff.1 hv).1; rwa [encLC_length] at this
  rw [Nat.zero_add, h.cell hj]
  simpa [encLC, hj] using hv
theorem CutBlk.row_eq {w : World} {b : Nat} {m : Nat → Bool} (h : CutBlk w b m) : rowOf w b = encC m := by obtain ⟨t, h⟩ := h; exact rowOf_of h
theorem CutBlk.of_row {w : World} {b : Nat} {m : Nat → Bool} (h : rowOf w b = encC m) : CutBlk w b m := by
  obtain ⟨t, ht⟩ := rowOf_inv (n := 31) (by rw [h, encC_size])
  exact ⟨t, by rw [ht, h]⟩
@[simp] theorem isAgg_encC (m : Nat → Bool) : isAgg 32 (.agg (encC m)) = true := by
  show ((encC m).size == 32 && (encC m).all (·.oneCell')) = true
  rw [encC_one, encC_size]; rfl

theorem cutInfo : (Try.prog.info? 109).map (·.size) = some 32 := by kernel_rfl
theorem cutUnder0 : Try.prog.underlying 109 = some (.array 32 4) := by kernel_rfl
theorem cutUnder : ∃ e, Try.prog.underlying 109 = some (.array 32 e) := ⟨_, cutUnder0⟩

/-- A load, a store of the whole array: kept shut till the world is at hand. -/
def loadCut (p : Value) : Sem Value := Instr.loadAt 109 p
def storeCut (p v : Value) : Sem Unit := Instr.storeAt 109 p v
@[go_sem ↓] theorem loadAt_cut (p : Value) : Instr.loadAt 109 p = loadCut p := rfl
@[go_sem ↓] theorem storeAt_cut (p v : Value) : Instr.storeAt 109 p v = storeCut p v := rfl
@[go_sem] theorem run_load_cut (p : Value) (w : World) (hp : ptr0 p = true) (hs : (rowOf w (blkOf p)).size = 32) : Sem.run Try.prog (loadCut p) w = .ok (.agg (rowOf w (blkOf p))) w :=
  run_loadAt_row cutUnder0 cutInfo p w hp hs
@[go_sem] theorem run_store_cut (p v : Value) (w : World) (hp : ptr0 p = true) (hs : (rowOf w (blkOf p)).size = 32) (hv : isAgg 32 v = true) : Sem.run Try.prog (storeCut p v) w = .ok () (w.setRow (blkOf p) v.cells) :=
  run_storeAt_row cutInfo p v w hp hs hv

theorem wpList_load_cut {ops : Array Oper} {rest : List Oper} {a : Act} {w : World} {Q : Exit → Act → World → Prop} {dst : Option Tmp} {x : Operand} {ty : TypeId} {pos : String} {after : Array Edge}
    (b : Nat) (m : Nat → Bool) (hx : a.eval x = .pointer (some ⟨b, 0, none⟩)) (h : CutBlk w b m) (hk : wpList Try.prog ops Q rest (a.put dst (.agg (encC m))) w) :
    wpList Try.prog ops Q ({ dst, op := .load 109 x, type := ty, pos, after, guard := none } :: rest) a w := by
  obtain ⟨t, h⟩ := h
  obtain ⟨e, he⟩ := cutUnder
  exact wpList_load_row rfl 109 x rfl b hx t (encC m) (0, 0) _ h he rfl (by rw [encC_size]; exact cutInfo) hk

theorem CutBlk.row {w : World} {b : Nat} {m : Nat → Bool} (h : CutBlk w b m) (m' : Nat → Bool) : CutBlk (w.setRow b (encC m')) b m' := by
  obtain ⟨t, h⟩ := h; exact ⟨t, setRow_heap w b _ _ t _ h⟩
theorem CutBlk.row_other {w : World} {b : Nat} {m : Nat → Bool} (h : CutBlk w b m) {b' : Nat} (hb : b ≠ b') (cs : Array Value) : CutBlk (w.setRow b' cs) b m := by
  obtain ⟨t, h⟩ := h; exact ⟨t, by rw [setRow_other w b' b cs hb]; exact h⟩

theorem wpList_store_cut {ops : Array Oper} {rest : List Oper} {a : Act} {w : World} {Q : Exit → Act → World → Prop} {dst : Option Tmp} {x y : Operand} {ty : TypeId} {pos : String} {after : Array Edge}
    (b : Nat) (m m0 : Nat → Bool) (hx : a.eval x = .pointer (some ⟨b, 0, none⟩)) (hy : a.eval y = .agg (encC m)) (h : CutBlk w b m0) (hk : wpList Try.prog ops Q rest (a.put dst undef) (w.setRow b (encC m))) :
    wpList Try.prog ops Q ({ dst, op := .store 109 x y, type := ty, pos, after, guard := none } :: rest) a w := by
  obtain ⟨t, h⟩ := h
  refine wpList_plain rfl fun K hK => ?_
  unfold Oper.wp execOp
  have hst := run_storeVar_row (P := Try.prog) w b t 109 (encC m0) (encC m) h (by rw [encC_size]; exact cutInfo) (by rw [encC_size, encC_size]) (encC_one m)
  simp only [hx, hy, Instr.storeAt, Instr.sureAddr, Sem.run_bind, Sem.run_pure, Result.andThen_ok, hst]
  exact hK _ _ hk

theorem results_cut {fn : Func} {p : Tmp} (hf : fn.results = #[.cell p 109]) (tmps : Array Value) (w : World) (b : Nat) (m : Nat → Bool) (hp : tmps.getD p undef = .pointer (some ⟨b, 0, none⟩)) (h : CutBlk w b m) :
    (results fn tmps).run Try.prog w = .ok (.agg (encC m)) w := by
  obtain ⟨t, h⟩ := h
  obtain ⟨e, he⟩ := cutUnder
  exact results_cell_row hf tmps w b t (encC m) (0, 0) _ hp h he rfl (by rw [encC_size]; exact cutInfo)

theorem zeroCut : encC (fun _ => false) = #[.bool false, .bool false, .bool false, .bool false, .bool false, .bool false, .bool false, .bool false, .bool false, .bool false, .bool false, .bool false, .bool false, .bool false, .bool false, .bool false, .bool false, .bool false, .bool false, .bool false, .bool false, .bool false, .bool false, .bool false, .bool false, .bool false, .bool false, .bool false, .bool false, .bool false, .bool false, .bool false] := rfl
end Go.Proofs.Ytbbolibkheelmaa
namespace Go.Proofs.Ytbbolibkheelmaa
open Go.RowKit Go.Shelf

theorem firstOnes_any {n : Nat} {w : World} (hn : n ≤ 5) : Calls Try.prog 84 #[.int .i64 n] w fun e w' => e = .returned (.int .i64 ((2 ^ n - 1 : Nat) : Int)) ∧ w = w' := by
  have h : n = 0 ∨ n = 1 ∨ n = 2 ∨ n = 3 ∨ n = 4 ∨ n = 5 := by omega
  rcases h with rfl | rfl | rfl | rfl | rfl | rfl
  all_goals
    go_enter Try.func84, Try.ntmps84
    go_wp2
    go_ret
    exact ⟨by kernel_rfl, rfl⟩

def clrN (s k : Nat) : Nat := if s / 2 ^ k % 2 = 1 then s - 2 ^ k else s
theorem clr_all : (List.range 32).all (fun (s : Nat) => (List.range 5).all fun (q : Nat) => bits BinOp.andNot IntKind.i64 (s : Int) (wrap64 (2 ^ q)) == (clrN s q : Int)) = true := by kernel_rfl
theorem clr_bit {s q : Nat} (hs : s < 32) (hq : q < 5) : bits BinOp.andNot IntKind.i64 (s : Int) (wrap64 (2 ^ q)) = (clrN s q : Int) := by
  have := clr_all
  rw [List.all_eq_true] at this
  have := this s (List.mem_range.2 hs)
  rw [List.all_eq_true] at this
  simpa using this q (List.mem_range.2 hq)
theorem clr_lt {s q : Nat} (hs : s < 32) : clrN s q < 32 := by have := Nat.sub_le s (2 ^ q); unfold clrN; split <;> omega

/-- Can what is left of a set be cut, whichever part is left out? -/
def lessB (m : Nat → Bool) (s : Nat) : Bool := allB (memL s).length fun i => m (clrN s (gi (memL s) i).toNat)

set_option maxRecDepth 10000 in
set_option maxHeartbeats 1000000 in
theorem canLessOne_any {m : Nat → Bool} {s : Nat} {w : World} (hs : s < 32) :
    Calls Try.prog 122 #[.agg (encC m), .int .i64 s] w fun e w' => e = .returned (.bool (lessB m s)) ∧ Below w.heap.size w w' := by
  go_enter Try.func122, Try.ntmps122
  have hc0 : Hid (CutBlk (w.alloc (.cells (encC m) 109)) w.heap.size m) := Lib.hid (CutBlk.new w m _)
  go_wp2_with (go_at_call 111; refine (members_any hs).mono ?_; rintro e w1 ⟨va, vn, vc, rfl, hv, _, _, hb1⟩)
  have hb0 : Below w.heap.size w w1 := ((Below.refl w.heap.size w).alloc (Nat.le_refl _) _).trans (hb1.mono (by simp))
  have hc1 := hc0.out.keep hb1 (by simp)
  clear hb1
  have hlen := hv.len
  have hl5 : (memL s).length ≤ 5 := by have := memU_len s (lenN s); have := lenN_le s; unfold memL; omega
  go_loopw [10] (fun i wr => ∃ k : Nat, k ≤ vn ∧ i = .int .i64 k ∧ w1 = wr ∧ allB k (fun i => m (clrN s (gi (memL s) i).toNat)) = true) (fun i _ => (vn - intOf i).toNat)
  case atStart => exact ⟨0, by omega, rfl, rfl, rfl⟩
  case round =>
    obtain ⟨k, hk, rfl, rfl, hal⟩ := hrel
    by_cases hlt : k < vn
    · obtain ⟨vb, vo, rfl, hvB, hvc⟩ := hv.get k hlt
      obtain ⟨g0, g1⟩ := hvc k hlt
      clear hvc
      have hq := memU_i64 (n := s) (k := lenN s) (i := k) (by have := lenN_le s; omega) (by show k < (memL s).length; omega)
      obtain ⟨q, hqe⟩ := Int.eq_ofNat_of_zero_le hq.1
      have hqe' : gi (memL s) k = (q : Int) := hqe
      rw [hqe'] at g0
      have hq5 : q < 5 := by have h1 := lenN_le s; have h2 := hq.2.1; rw [hqe] at h2; omega
      have hbit := clr_bit hs hq5
      have hlt32 : clrN s q < 32 := clr_lt hs
      have hmc := hc1.cell hlt32
      have hval : m (clrN s (gi (memL s) k).toNat) = m (clrN s q) := by rw [hqe']; rfl
      have hval' := Lib.hid hval
      have hal' := Lib.hid hal
      clear hval hqe hqe' hq hal g1
      generalize clrN s q = z at *
      rcases Bool.eq_false_or_eq_true (m z) with hz | hz
      · rw [hz] at hmc
        have hz' := Lib.hid hz
        clear hz
        go_wp2
        go_roundw
        case rel => exact ⟨k + 1, by omega, rfl, by trivial, by unfold allB; rw [hal'.out]; exact hval'.out.trans hz'.out⟩
        case measure => simp [intOf]; omega
      · rw [hz] at hmc
        have hz' := Lib.hid hz
        clear hz
        go_wp2
        go_ret
        exact ⟨ret_bool (by unfold lessB; rw [allB_false (i := k) (by omega) (hval'.out.trans hz'.out)]), hb0⟩
    · obtain rfl : k = vn := by omega
      go_wp2
      go_ret
      exact ⟨ret_bool (by unfold lessB; rw [hlen]; exact hal.symm), hb0⟩
end Go.Proofs.Ytbbolibkheelmaa
