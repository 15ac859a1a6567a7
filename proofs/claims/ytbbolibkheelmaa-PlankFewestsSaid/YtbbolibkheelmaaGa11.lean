/- Walks: how many parts at most. Walks: what can be cut from one plank. A stock's memory: its book, and three sets of sets of parts. -/
import Derived.Test.YtbbolibkheelmaaGa10
namespace Go.Proofs.Ytbbolibkheelmaa
open Go.RowKit Go.Shelf

/-- The greatest of a number and of the first n of others. -/
def maxU (a : Int) (xs : List Int) : Nat → Int
  | 0 => a
  | n + 1 => max (maxU a xs n) (gi xs n)

set_option maxRecDepth 10000 in
set_option maxHeartbeats 1000000 in
theorem greatest_any {B : Nat} {a : Int} {xs : List Int} {xa : Option Addr} {xn xc : Nat} {w : World} (hx : IntsAt B w xa xn xs) :
    Calls Try.prog 127 #[.int .i64 a, .slice xa xn xc] w fun e w' => e = .returned (.int .i64 (maxU a xs xn)) ∧ w = w' := by
  have hsm := hx.small
  have hlen := hx.len
  go_enter Try.func127, Try.ntmps127
  have hx' := Lib.hid hx
  clear hx
  go_wp2
  go_loopw [0, 9] (fun v i wr => ∃ k : Nat, k ≤ xn ∧ i = .int .i64 k ∧ v = .int .i64 (maxU a xs k) ∧ w = wr) (fun _ i _ => (xn - intOf i).toNat)
  case atStart => exact ⟨0, by omega, rfl, rfl, rfl⟩
  case round =>
    obtain ⟨k, hk, rfl, rfl, rfl⟩ := hrel
    by_cases hlt : k < xn
    · obtain ⟨b, o, rfl, hB, hc⟩ := hx'.out.get k hlt
      obtain ⟨g0, g1⟩ := hc k hlt
      clear hc
      obtain ⟨M, hM⟩ : ∃ M, M = maxU a xs k := ⟨_, rfl⟩
      obtain ⟨y, hy⟩ : ∃ y, y = gi xs k := ⟨_, rfl⟩
      have hs : maxU a xs (k + 1) = max M y := by rw [hM, hy]; rfl
      rw [← hM]
      rw [← hy] at g0
      have hs' := Lib.hid hs
      clear hs hM hy g1
      go_wp2
      go_roundw
      case rel => exact ⟨k + 1, by omega, rfl, by rw [hs'.out]; congr 1; rw [Int.max_def]; split <;> split <;> omega, by trivial⟩
      case measure => simp [intOf]; omega
    · obtain rfl : k = xn := by omega
      go_wp2
      go_ret
      exact ⟨rfl, rfl⟩

/-- The sizes of the first k sets that can be cut. -/
def sizesU (m : Nat → Bool) (k : Nat) : List Int := ((List.range k).filter m).map fun (i : Nat) => ((onesN i : Nat) : Int)
def mostN (m : Nat → Bool) : Int := maxU 0 (sizesU m 32) (sizesU m 32).length
theorem sizesU_succ (m : Nat → Bool) (k : Nat) : sizesU m (k + 1) = sizesU m k ++ (if m k then [((onesN k : Nat) : Int)] else []) := by
  unfold sizesU
  rw [List.range_succ, List.filter_append, List.map_append]
  cases h : m k <;> simp [List.filter, h]
theorem sizesU_len (m : Nat → Bool) (k : Nat) : (sizesU m k).length ≤ k := by
  unfold sizesU; rw [List.length_map]
  have := List.length_filter_le m (List.range k)
  rwa [List.length_range] at this
theorem onesN_le (n : Nat) : onesN n ≤ 5 := by unfold onesN; omega
theorem sizesU_i64 {m : Nat → Bool} {k i : Nat} (h : i < (sizesU m k).length) : 0 ≤ gi (sizesU m k) i ∧ gi (sizesU m k) i ≤ 5 ∧ I64 (gi (sizesU m k) i) := by
  rw [gi_eq h]
  have hm := List.getElem_mem h
  unfold sizesU at hm
  rw [List.mem_map] at hm
  obtain ⟨t, ht, e⟩ := hm
  have := onesN_le t
  unfold I64 sizesU
  omega

theorem run_index_cut (m : Nat → Bool) {k : Nat} (hk : k < 32) (w : World) : (Instr.index 109 (.agg (encC m)) (.int .i64 k)).run Try.prog w = .ok (.bool (m k)) w := by
  cases hb : Try.prog.info? 4 with
  | none => have := boolInfo; rw [hb] at this; cases this
  | some i =>
    have hs : i.size = 1 := by have := boolInfo; rw [hb] at this; simpa using this
    have hg := encC_get m hk
    simp [Instr.index, run_underlying cutUnder0, asIntOf, sizeOf, typeInfo, hb, hs, part, hk, hg]

attribute [local go_sem ↓] append_alias

set_option maxRecDepth 100000 in
set_option maxHeartbeats 2000000 in
theorem most_any {m : Nat → Bool} {w : World} :
    Calls Try.prog 114 #[.agg (encC m)] w fun e w' => e = .returned (.int .i64 (mostN m)) ∧ Below w.heap.size w w' := by
  go_enter Try.func114, Try.ntmps114
  obtain ⟨i0, hi, hz0, hz1, hz2⟩ := info_parts intInfo3
  go_wp2
  have hb0 : Below w.heap.size w (w.alloc (.cells (encC m) 109)) := (Below.refl _ _).alloc (Nat.le_refl _) _
  go_loopw [3, 7] (fun v i wr => ∃ k : Nat, k ≤ 32 ∧ i = .int .i64 k ∧ wr.ownsRow w.heap.size 3 1 v (sizesU m k).length ((sizesU m k).map intV) ∧ Below w.heap.size w wr) (fun _ i _ => (32 - intOf i).toNat)
  case atStart => exact ⟨0, by omega, rfl, World.ownsRow_nil _ _ _ _, hb0⟩
  case round =>
    obtain ⟨k, hk, rfl, hown, hb⟩ := hrel
    obtain ⟨va, vn, vc, hv⟩ := own_slice hown
    subst hv
    clear hb0
    by_cases hlt : k < 32
    · have hg := fun w => run_index_cut m hlt w
      have hsu := sizesU_succ m k
      have hml := sizesU_len m k
      have hw : IntKind.u64.wrap (k : Int) = k := by rw [IntKind.wrap_u64]; omega
      rcases Bool.eq_false_or_eq_true (m k) with hh | hh
      · rw [hh] at hg hsu
        simp only [if_true] at hsu
        clear hh
        obtain ⟨v', w5, hap, hown5, hgr5, _, _⟩ := run_append_own_at (P := Try.prog) (w := wr.alloc (.cells #[.int .i64 ((onesN k : Nat) : Int)] 3)) w.heap.size 31 31 3 i0 (.int .i64 0) 1 8 intsUnder hi hz0 hz1 hz2 rfl (by decide) (.slice va vn vc) _ _ (hown.alloc _) ⟨wr.heap.size, 0, none⟩ 1 1 [.int .i64 ((onesN k : Nat) : Int)] rfl
          (fun j u hj => by
            match j, hj with
            | 0, hj =>
              simp at hj; subst hj
              exact (Blk.new wr #[.int .i64 ((onesN k : Nat) : Int)] 3).cell)
          (fun u hu => by simp at hu; subst hu; rfl) (by unfold maxLen; omega) (by omega) (by have := hb.size; simp; omega)
        have hlt5 := hown.lt
        have hb5 : Below w.heap.size w w5 := by
          have h1 : SameBut (fun i => w.heap.size ≤ i) wr w5 := ((SameBut.refl _ wr).alloc _).trans (same_grown hgr5 (fun k h => (hlt5 k h).1))
          exact hb.trans (h1.toBelow hb.size (fun _ h => h))
        have hown6 : w5.ownsRow w.heap.size 3 1 v' (sizesU m (k + 1)).length ((sizesU m (k + 1)).map intV) := by
          rw [hsu, List.length_append, List.map_append]; exact hown5
        rw [append_alias] at hap
        have hown6' := Lib.hid hown6
        clear hown5 hown6 hgr5 hsu hlt5
        go_wp2_with (go_at_call 126; refine (Ones_at k hlt _).mono ?_; rintro e w' ⟨rfl, rfl⟩)
        go_roundw
        case rel => exact ⟨k + 1, by omega, rfl, hown6'.out, hb5⟩
        case measure => simp [intOf]; omega
      · rw [hh] at hg hsu
        simp only [Bool.false_eq_true, if_false, List.append_nil] at hsu
        have hown6 : wr.ownsRow w.heap.size 3 1 (.slice va vn vc) (sizesU m (k + 1)).length ((sizesU m (k + 1)).map intV) := by rw [hsu]; exact hown
        have hown6' := Lib.hid hown6
        clear hh hsu hown6
        go_wp2
        go_roundw
        case rel => exact ⟨k + 1, by omega, rfl, hown6'.out, hb⟩
        case measure => simp [intOf]; omega
    · obtain rfl : k = 32 := by omega
      obtain ⟨xa, xn, xc, e, hx⟩ := ints_of_own hown (fun i hi => (sizesU_i64 hi).2.2) (by have := sizesU_len m 32; omega)
      cases e
      have hx' := Lib.hid hx
      have hlen := hx.len
      clear hx hown
      go_wp2_with (go_at_call 127; refine (greatest_any hx'.out).mono ?_; rintro e w' ⟨rfl, rfl⟩)
      go_ret
      exact ⟨ret_int (by unfold mostN; rw [hlen]), hb⟩
end Go.Proofs.Ytbbolibkheelmaa
namespace Go.Proofs.Ytbbolibkheelmaa
open Go.RowKit Go.Shelf

attribute [local go_sem] Oper.semAt_some

theorem CutBlk.load {w : World} {b : Nat} {m : Nat → Bool} (h : CutBlk w b m) : Sem.run Try.prog (loadCut (.pointer (some ⟨b, 0, none⟩))) w = .ok (.agg (encC m)) w := by
  have := run_load_cut (.pointer (some ⟨b, 0, none⟩)) w (by simp) (by rw [blkOf_mk, h.row_eq, encC_size])
  rw [blkOf_mk, h.row_eq] at this
  exact this
theorem CutBlk.store {w : World} {b : Nat} {m : Nat → Bool} (h : CutBlk w b m) (m' : Nat → Bool) : Sem.run Try.prog (storeCut (.pointer (some ⟨b, 0, none⟩)) (.agg (encC m'))) w = .ok () (w.setRow b (encC m')) := by
  have := run_store_cut (.pointer (some ⟨b, 0, none⟩)) (.agg (encC m')) w (by simp) (by rw [blkOf_mk, h.row_eq, encC_size]) (by simp)
  rw [blkOf_mk] at this
  exact this
theorem CutBlk.same {M : Nat → Prop} {w w' : World} {b : Nat} {m : Nat → Bool} (h : CutBlk w b m) (hs : SameBut M w w') (hm : ¬ M b) : CutBlk w' b m := by
  have hl := h.lt
  obtain ⟨t, h⟩ := h; exact ⟨t, by rw [hs.block b hl hm]; exact h⟩

def canLay (x : Book) (p s : Nat) : Bool := (layL (boardM (gw x.planks p) x.parts x.parts.length) x.parts (gw x.planks p).long (memL s)).isSome
def cutsU (f : Nat → Bool) : Nat → Nat → Bool
  | 0 => fun _ => false
  | k + 1 => if lessB (cutsU f k) k = true then upd (cutsU f k) k (f k) else cutsU f k
theorem cutsU_no {f : Nat → Bool} {k : Nat} (h : lessB (cutsU f k) k = false) : cutsU f (k + 1) = cutsU f k := by
  show (if lessB (cutsU f k) k = true then upd (cutsU f k) k (f k) else cutsU f k) = _
  rw [if_neg (by rw [h]; simp)]
theorem cutsU_yes {f : Nat → Bool} {k : Nat} (h : lessB (cutsU f k) k = true) : cutsU f (k + 1) = upd (cutsU f k) k (f k) := by
  show (if lessB (cutsU f k) k = true then upd (cutsU f k) k (f k) else cutsU f k) = _
  rw [if_pos h]
/-- What can be cut from the plank p. -/
def cutsM (x : Book) (p : Nat) : Nat → Bool := cutsU (canLay x p) (2 ^ x.parts.length)

theorem lenN_pow {k n : Nat} (h : k < 2 ^ n) (hn : n ≤ 5) : lenN k ≤ n := by
  have h5 : n = 0 ∨ n = 1 ∨ n = 2 ∨ n = 3 ∨ n = 4 ∨ n = 5 := by omega
  unfold lenN
  rcases h5 with rfl | rfl | rfl | rfl | rfl | rfl <;> simp only [Nat.reducePow] at h <;> (repeat' split) <;> omega
theorem pow_le32 {n : Nat} (hn : n ≤ 5) : 2 ^ n ≤ 32 := by
  have h5 : n = 0 ∨ n = 1 ∨ n = 2 ∨ n = 3 ∨ n = 4 ∨ n = 5 := by omega
  rcases h5 with rfl | rfl | rfl | rfl | rfl | rfl <;> decide

theorem layNums_mem {x : Book} {p k : Nat} (hk : bookOk x = true) (hi : p < x.planks.length) (hs : k < 2 ^ x.parts.length) :
    LayNums (memL k).length (memL k) (gw x.planks p).long x.parts.length x.parts (boardM (gw x.planks p) x.parts x.parts.length) := by
  have hG := good_of hk
  have hl := lenN_pow hs hG.parts.2
  refine ⟨fun i hi => ?_, ⟨?_, hG.parts.2⟩, ⟨(hG.wood p hi).1, (hG.wood p hi).2.1⟩, fun q hq => ⟨(hG.shape q hq).1, (hG.shape q hq).2.1⟩, fun k => board_012 _ _ _ _⟩
  · have h := memU_i64 (n := k) (k := lenN k) (i := i) (by have := lenN_le k; omega) hi
    exact ⟨h.1, by have h2 := h.2.1; show gi (memU k (lenN k)) i < _; omega⟩
  · have := memU_len k (lenN k); have := lenN_le k; show (memU k (lenN k)).length ≤ 5; omega

set_option maxRecDepth 100000 in
set_option maxHeartbeats 2000000 in
theorem cutsOf_any {B : Nat} {pa sa : Option Addr} {pn pc sn sc p : Nat} {x : Book} {w : World} (hB : B ≤ w.heap.size) (hx : BookAt B w pa pn sa sn x) (hok : bookOk x = true) (hp : p < pn) :
    Calls Try.prog 110 #[.agg #[.slice pa pn pc, .slice sa sn sc], .int .i64 p] w fun e w' => e = .returned (.agg (encC (cutsM x p))) ∧ Below w.heap.size w w' := by
  have hpn := hx.planks.len
  have hsn := hx.parts.len
  have hG := good_of hok
  have hsn5 : sn ≤ 5 := by have := hG.parts; omega
  obtain ⟨V1, hV1⟩ : ∃ V, V = w.alloc (.cells #[.slice pa pn pc, .slice sa sn sc] 25) := ⟨_, rfl⟩
  obtain ⟨b1, s1, z1⟩ := alloc_step hV1
  obtain ⟨V2, hV2⟩ : ∃ V, V = V1.alloc (.cells (encC (fun _ => false)) 109) := ⟨_, rfl⟩
  have b2 : CutBlk V2 V1.heap.size (fun _ => false) := by rw [hV2]; exact CutBlk.new _ _ _
  obtain ⟨s2, z2⟩ := (alloc_step hV2).2
  have s0 := s1.trans s2
  have hx2 := hx.keep (Nat.le_refl _) (fun b o hb => s0.cell (b := b) (o := o) (by omega) (fun e => e))
  have b12 := b1.same s2 (fun e => e)
  have hb02 : Below w.heap.size w V2 := s0.toBelow (Nat.le_refl _) (fun _ h => h.elim)
  have hnew := newBoard_any (B := B) (pc := pc) (sc := sc) (w := V2) (by omega) hx2 hok hp
  rw [z1] at b2
  have h' := Lib.hid (And.intro b12 (And.intro b2 (And.intro hb02 (And.intro hx2 (by omega : V2.heap.size = w.heap.size + 2)))))
  clear b1 b12 s1 s2 s0 z1 z2 b2 hb02 hx2 hx
  rw [zeroCut] at hV2
  subst hV2
  subst hV1
  obtain ⟨N, hN⟩ : ∃ N, N = 2 ^ sn := ⟨_, rfl⟩
  have hpow : N ≤ 32 := by rw [hN]; exact pow_le32 hsn5
  have hwr : wrap64 (2 ^ sn) = (N : Int) := by
    rw [hN]
    unfold wrap64
    have h5 : sn = 0 ∨ sn = 1 ∨ sn = 2 ∨ sn = 3 ∨ sn = 4 ∨ sn = 5 := by omega
    rcases h5 with rfl | rfl | rfl | rfl | rfl | rfl <;> decide
  have hN' := Lib.hid hN
  clear hN
  go_enter Try.func110, Try.ntmps110
  go_wp2_with (go_at_call 61; refine hnew.mono ?_; rintro e w3 ⟨mb, _, rfl, hmb, hM, ⟨ka, kn, kc, rfl, hks⟩, hb3⟩; have bk3 := h'.out.1.below hb3 (by rw [h'.out.2.2.2.2]; omega); have q1 : w3.cell? ⟨w.heap.size, 1, none⟩ = some (.slice sa sn sc) := bk3.cell; have hsz3 := hb3.size; rw [h'.out.2.2.2.2] at hsz3; have l0 : w.heap.size < w3.heap.size := (by omega); have l1 : w.heap.size < w3.heap.size + 1 := (by omega))
  obtain ⟨W3, hW3⟩ : ∃ V, V = ((w3.alloc (.cells #[.int .i64 (gw x.planks p).long, .slice ka kn kc, .slice sa sn sc, .map (some mb)] 86)).alloc (.cells (encC (fun _ => false)) 109)) := ⟨_, rfl⟩
  have hS3 : SameBut (fun _ => False) w3 W3 := by rw [hW3]; exact ((SameBut.refl _ w3).alloc _).alloc _
  have hz3 : W3.heap.size = w3.heap.size + 2 := by rw [hW3]; simp
  have cb : Blk W3 w3.heap.size #[.int .i64 (gw x.planks p).long, .slice ka kn kc, .slice sa sn sc, .map (some mb)] := by rw [hW3]; exact (Blk.new w3 _ _).alloc _
  have cc : CutBlk W3 (w3.heap.size + 1) (fun _ => false) := by
    rw [hW3]
    have := CutBlk.new (w3.alloc (.cells #[.int .i64 (gw x.planks p).long, .slice ka kn kc, .slice sa sn sc, .map (some mb)] 86)) (fun _ => false) 109
    rw [World.size_alloc] at this
    exact this
  rw [zeroCut] at hW3
  rw [← hW3]
  clear hW3
  obtain ⟨hb2, hr2, hbw2, hx2, hz2⟩ := h'.out
  have hbw3 := hbw2.trans (hb3.mono hbw2.size)
  have hbwW : Below w.heap.size w W3 := hbw3.trans (hS3.toBelow (by omega) (fun _ h => h.elim))
  have hr3 := (hr2.keep hb3 (by omega)).same hS3 (fun e => e)
  have hM3 := hM.same hS3 (fun e => e)
  have hs3 : ShapesAt B W3 sa sn x.parts := hx2.parts.keep (Nat.le_refl _) (fun b o hb => (hS3.cell (by omega) (fun e => e)).trans (bcells hb3 b o (by omega)))
  have hmlt := hM.lt
  clear q1 l0 l1 bk3 hb2 hr2 hx2 hS3 hM hks hnew
  have hbw3' := Lib.hid hbwW
  have hs3' := Lib.hid hs3
  have hM3' := Lib.hid hM3
  have hr3' := Lib.hid hr3
  clear h' hb3 hbw2 hbw3 hbwW hs3 hM3 hr3 hz2
  rw [hwr]
  clear hwr
  go_loopw [15] (fun i wr => ∃ k : Nat, k ≤ N ∧ i = .int .i64 k ∧ CutBlk wr (w3.heap.size + 1) (cutsU (canLay x p) k) ∧ SameBut (fun i => i = w3.heap.size + 1) W3 wr) (fun i _ => (N - intOf i).toNat)
  case atStart => exact ⟨0, by omega, rfl, cc, SameBut.refl _ _⟩
  case round =>
    obtain ⟨k, hk, rfl, hC, hsb⟩ := hrel
    clear cc
    by_cases hlt : k < N
    · have hszr := hsb.size
      have hld := hC.load
      obtain ⟨G, hG2⟩ : ∃ G, G = lessB (cutsU (canLay x p) k) k := ⟨_, rfl⟩
      have hless := canLessOne_any (m := cutsU (canLay x p) k) (s := k) (w := wr) (by omega)
      rw [← hG2] at hless
      have hG2' := Lib.hid hG2
      clear hG2
      cases G
      case false =>
        go_wp2_with (go_at_call 122; refine hless.mono ?_; rintro e w4 ⟨rfl, hb4⟩)
        have hs4 : SameBut (fun _ => False) wr w4 := SameBut.of_below hb4 (Nat.le_refl _)
        go_roundw
        case rel =>
          refine ⟨k + 1, by omega, rfl, ?_, hsb.trans (hs4.mono (fun _ h => h.elim))⟩
          have e : cutsU (canLay x p) (k + 1) = cutsU (canLay x p) k := cutsU_no hG2'.out.symm
          rw [e]; exact hC.same hs4 (fun e => e)
        case measure => simp [intOf]; omega
      case true =>
        go_wp2_with (go_at_call 122; refine hless.mono ?_; rintro e w4 ⟨rfl, hb4⟩)
        have hs4 : SameBut (fun _ => False) wr w4 := SameBut.of_below hb4 (Nat.le_refl _)
        have hsb4 := hsb.trans (hs4.mono (fun _ h => h.elim))
        have hC4 := hC.same hs4 (fun e => e)
        have cb4 := cb.same hsb4 (by omega)
        have hz4 := hs4.size
        have hk32 : k < 32 := by omega
        have hread : ∀ w', SameBut (fun i => i = w3.heap.size + 1) w4 w' → w'.cell? ⟨w3.heap.size, 0, none⟩ = some (.int .i64 (gw x.planks p).long) ∧ w'.cell? ⟨w3.heap.size, 1, none⟩ = some (.slice ka kn kc) ∧ w'.cell? ⟨w3.heap.size, 2, none⟩ = some (.slice sa sn sc) ∧ w'.cell? ⟨w3.heap.size, 3, none⟩ = some (.map (some mb)) := fun w' h => by
          have k1 := cb4.same h (by omega)
          exact ⟨k1.cell, k1.cell, k1.cell, k1.cell⟩
        refine region_planW (fun w' => SameBut (fun i => i = w3.heap.size + 1) w4 w') [(0, true), (1, true), (2, true), (3, false), (4, false), (5, true), (6, true), (7, true), (8, true), (9, false)] (by kernel_rfl) (by kernel_rfl) (by kernel_rfl) (by decide) (by kernel_rfl) ?_
        have hO := open_wide
        have hF := hO.fn
        have hd := hO.depth
        have hS0 : SameBut (fun i => i = w3.heap.size + 1) w4 w4.drew := (SameBut.refl _ _).drew
        have hSD : SameBut (fun _ => False) w4 w4.drew := (SameBut.refl _ _).drew
        iterate 3
          (refine plan_take ?_ rfl hS0 (by rfl) ?_ ?_
           rotate_left
           · intro w' hw'
             obtain ⟨r1, r2, r3, r4⟩ := hread w' hw'
             go_simp
             with_reducible rfl
           simp only [Act.put, List.setIfInBounds_toArray, List.set_cons_zero, List.set_cons_succ])
        refine plan_one rfl (by rfl) (fun K hK => ?_)
        go_simp
        refine (open_wide.calls (members_any hk32)).mono ?_
        rintro e w5 ⟨va, vn, vc, rfl, hv, _, _, hb5⟩
        have hS5 : SameBut (fun _ => False) w4 w5 := hSD.below hb5
        refine hK _ _ (hS5.mono (fun _ h => h.elim)) ?_
        clear hK K hb5
        refine plan_one rfl (by rfl) (fun K hK => ?_)
        go_simp
        have hsW5 : SameBut (fun i => i = w3.heap.size + 1) W3 w5 := hsb4.trans (hS5.mono (fun _ h => h.elim))
        have hnums := layNums_mem (x := x) (p := p) (k := k) hok (by omega) (by rw [hsn, ← hN'.out]; exact hlt)
        rw [hsn, hv.len] at hnums
        have hsB : ∀ b, b < B → ¬ b = w3.heap.size + 1 := fun b hb => by omega
        have hlay := lay_any (B := w5.heap.size) (ka := ka) (kn := kn) (kc := kc) (sc := sc) (pc := vc) (Nat.le_refl _) hv (hs3'.out.keep (B' := w5.heap.size) (by have := hsW5.size; omega) (fun b o hb => hsW5.cell (by omega) (hsB b hb))) (hM3'.out.same hsW5 (by omega)) hnums
        obtain ⟨L, hL⟩ : ∃ L, L = layL (boardM (gw x.planks p) x.parts sn) x.parts (gw x.planks p).long (memL k) := ⟨_, rfl⟩
        rw [← hL] at hlay
        have hL' := Lib.hid hL
        clear hL hnums
        refine (open_wide.calls hlay).mono ?_
        rintro e w6 ⟨ra, rn, rc, rfl, _, hb6⟩
        have hS6 : SameBut (fun _ => False) w4 w6 := hS5.below hb6
        have hS6' : SameBut (fun i => i = w3.heap.size + 1) w4 w6 := hS6.mono (fun _ h => h.elim)
        refine hK _ _ hS6' ?_
        clear hK K hb6 hlay
        have hki : (k : Int) < 32 := by omega
        iterate 4
          (refine plan_take ?_ rfl hS6' (by rfl) ?_ ?_
           rotate_left
           · intro w' hw'
             go_simp
             with_reducible rfl
           simp only [Act.put, List.setIfInBounds_toArray, List.set_cons_zero, List.set_cons_succ])
        have hC6 := hC4.same hS6 (fun e => e)
        have hcell := hC6.cell hk32
        have hfroz := hC6.frozen k
        refine plan_one rfl (by rfl) (fun K hK => ?_)
        go_simp
        have hS7 : SameBut (fun i => i = w3.heap.size + 1) w4 (w6.setCell ⟨w3.heap.size + 1, k, none⟩ (.bool L.isSome)) := hS6'.setCell (.inl rfl) _
        refine hK _ _ hS7 ?_
        clear hK K hcell hfroz
        unfold planW okN
        go_wp2
        go_roundw
        case rel =>
          refine ⟨k + 1, by omega, rfl, ?_, hsb4.trans hS7⟩
          rw [cutsU_yes hG2'.out.symm]
          have e : L.isSome = canLay x p k := by unfold canLay; rw [hL'.out, hsn]
          rw [← e]
          exact hC6.set hk32 _
        case measure => simp [intOf]; omega
    · obtain rfl : k = N := by omega
      have hld := hC.load
      have hst := (hr3'.out.same hsb (by omega)).store (cutsU (canLay x p) k)
      go_wp2
      have hrk := hr3'.out.same hsb (by omega)
      refine bodyPost_ret (v := .agg (encC (cutsU (canLay x p) k))) (results_cut rfl _ _ _ _ rfl (hrk.row _)) rfl ⟨?_, ?_⟩
      · unfold cutsM
        rw [hsn, ← hN'.out]
      · have h0 : SameBut (fun i => w.heap.size ≤ i) W3 wr := hsb.mono (fun i (h : i = w3.heap.size + 1) => by show w.heap.size ≤ i; omega)
        exact below_row (hbw3'.out.trans (h0.toBelow (by omega) (fun _ h => h))) (by omega) _
end Go.Proofs.Ytbbolibkheelmaa
namespace Go.Proofs.Ytbbolibkheelmaa
open Go.RowKit Go.Shelf

attribute [local go_sem] Oper.semAt_some

/-- A stock's cells. -/
def stockRow (pa : Option Addr) (pn pc : Nat) (sa : Option Addr) (sn sc : Nat) (f : Nat → Nat → Bool) : Array Value := #[.slice pa pn pc, .slice sa sn sc] ++ (encC (f 0) ++ (encC (f 1) ++ encC (f 2)))
def updF (f : Nat → Nat → Bool) (k : Nat) (m : Nat → Bool) : Nat → Nat → Bool := fun i => if i = k then m else f i
section
variable {pa sa : Option Addr} {pn pc sn sc : Nat} {f : Nat → Nat → Bool} {w : World} {b : Nat}
theorem stock_size : (stockRow pa pn pc sa sn sc f).size = 98 := by unfold stockRow; simp only [Array.size_append, encC_size, List.size_toArray, List.length_cons, List.length_nil]
theorem stock_one : (stockRow pa pn pc sa sn sc f).all (·.oneCell') = true := by
  unfold stockRow
  rw [Array.all_append, Array.all_append, Array.all_append, encC_one, encC_one, encC_one]
  simp [Value.oneCell']
theorem isAgg_stock : isAgg 98 (.agg (stockRow pa pn pc sa sn sc f)) = true := by
  show ((stockRow pa pn pc sa sn sc f).size == 98 && (stockRow pa pn pc sa sn sc f).all (·.oneCell')) = true
  rw [stock_one, stock_size]; rfl
theorem stockInfo : (Try.prog.info? 112).map (·.size) = some 98 := by kernel_rfl
theorem stockUnder : ∃ d, Try.prog.underlying 112 = some d ∧ d.isRow = true := by
  have h : (Try.prog.underlying 112).map TypeDesc.isRow = some true := by kernel_rfl
  cases hd : Try.prog.underlying 112 with
  | none => rw [hd] at h; cases h
  | some d => rw [hd] at h; exact ⟨d, rfl, by simpa using h⟩

/-- A load, a store of the whole stock: kept shut. -/
def loadSt (p : Value) : Sem Value := Instr.loadAt 112 p
def storeSt (p v : Value) : Sem Unit := Instr.storeAt 112 p v
@[go_sem ↓] theorem loadAt_st (p : Value) : Instr.loadAt 112 p = loadSt p := rfl
@[go_sem ↓] theorem storeAt_st (p v : Value) : Instr.storeAt 112 p v = storeSt p v := rfl

theorem blk_range {c : Array Value} {o : Nat} {cs : List Value} (h : Blk w b c) (hc : ∀ j v, cs[j]? = some v → c[o + j]? = some v) : w.rangeAt b o cs := fun j v hv => by rw [h.cell]; exact hc j v hv

theorem stock_load (h : Blk w b (stockRow pa pn pc sa sn sc f)) : Sem.run Try.prog (loadSt (.pointer (some ⟨b, 0, none⟩))) w = .ok (.agg (stockRow pa pn pc sa sn sc f)) w := by
  obtain ⟨d, hd, hr⟩ := stockUnder
  have hi : (Try.prog.info? 112).map (·.size) = some (stockRow pa pn pc sa sn sc f).toList.length := by rw [Array.length_toList, stock_size]; exact stockInfo
  have := run_loadAt_mid (P := Try.prog) w b 0 112 (stockRow pa pn pc sa sn sc f).toList d (blk_range h (fun j v hv => by rw [Nat.zero_add]; simpa using hv)) hd hr hi
  rw [Array.toArray_toList] at this
  unfold loadSt
  exact this
theorem stock_store {c : Array Value} (h : Blk w b c) (hc : c.size = 98) : ∃ w', Sem.run Try.prog (storeSt (.pointer (some ⟨b, 0, none⟩)) (.agg (stockRow pa pn pc sa sn sc f))) w = .ok () w' ∧ Blk w' b (stockRow pa pn pc sa sn sc f) ∧ SameBut (fun k => k = b) w w' ∧ w'.heap.size = w.heap.size := by
  obtain ⟨t, ht⟩ := h
  have hro : rowOf w b = c := rowOf_of ht
  have := run_storeAt_row (P := Try.prog) (ty := 112) stockInfo (.pointer (some ⟨b, 0, none⟩)) (.agg (stockRow pa pn pc sa sn sc f)) w (by simp) (by rw [blkOf_mk, hro, hc]) isAgg_stock
  rw [blkOf_mk] at this
  exact ⟨_, this, ⟨t, setRow_heap w b _ _ t _ ht⟩, (SameBut.refl (fun k => k = b) w).setRow (.inl rfl) _, size_setRow _ _ _⟩

theorem stock_get {k j : Nat} (hk : k < 3) (hj : j < 32) : (stockRow pa pn pc sa sn sc f)[2 + k * 32 + j]? = some (.bool (f k j)) := by
  unfold stockRow
  rw [Array.getElem?_append_right (by simp; omega)]
  simp only [List.size_toArray, List.length_cons, List.length_nil]
  rcases (by omega : k = 0 ∨ k = 1 ∨ k = 2) with rfl | rfl | rfl
  · rw [Array.getElem?_append_left (by rw [encC_size]; omega), show 2 + 0 * 32 + j - (0 + 1 + 1) = j by omega, encC_get _ hj]
  · rw [Array.getElem?_append_right (by rw [encC_size]; omega), Array.getElem?_append_left (by rw [encC_size, encC_size]; omega), encC_size, show 2 + 1 * 32 + j - (0 + 1 + 1) - 32 = j by omega, encC_get _ hj]
  · rw [Array.getElem?_append_right (by rw [encC_size]; omega), Array.getElem?_append_right (by rw [encC_size, encC_size]; omega), encC_size, encC_size, show 2 + 2 * 32 + j - (0 + 1 + 1) - 32 - 32 = j by omega, encC_get _ hj]
theorem stock_head : (stockRow pa pn pc sa sn sc f)[0]? = some (.slice pa pn pc) ∧ (stockRow pa pn pc sa sn sc f)[1]? = some (.slice sa sn sc) := by
  unfold stockRow
  constructor <;> (rw [Array.getElem?_append_left (by simp)]; rfl)
theorem stock_range (h : Blk w b (stockRow pa pn pc sa sn sc f)) {k : Nat} (hk : k < 3) : w.rangeAt b (2 + k * 32) (encLC (f k)) := blk_range h (fun j v hv => by
  have hj : j < 32 := by have := (List.getElem?_eq_some_iff.1 hv).1; rwa [encLC_length] at this
  rw [stock_get hk hj]
  simpa [encLC, hj] using hv)
theorem stock_part_load (h : Blk w b (stockRow pa pn pc sa sn sc f)) {k : Nat} (hk : k < 3) : Sem.run Try.prog (loadCut (.pointer (some ⟨b, 2 + k * 32, none⟩))) w = .ok (.agg (encC (f k))) w := by
  have hi : (Try.prog.info? 109).map (·.size) = some (encLC (f k)).length := by rw [encLC_length]; exact cutInfo
  have := run_loadAt_mid (P := Try.prog) w b (2 + k * 32) 109 (encLC (f k)) (.array 32 4) (stock_range h hk) cutUnder0 (Eq.refl true) hi
  unfold loadCut
  exact this
theorem stock_set {k : Nat} (hk : k < 3) (m : Nat → Bool) : setFrom (stockRow pa pn pc sa sn sc f) (2 + k * 32) (encLC m) = stockRow pa pn pc sa sn sc (updF f k m) := by
  apply Array.ext_getElem?
  intro i
  rw [setFrom_get _ _ _ _ (by rw [stock_size, encLC_length]; omega), encLC_length]
  by_cases hi : i < 98
  · by_cases h0 : i < 2
    · rw [if_neg (by omega)]
      rcases (by omega : i = 0 ∨ i = 1) with rfl | rfl
      · rw [stock_head.1, stock_head.1]
      · rw [stock_head.2, stock_head.2]
    · obtain ⟨q, j, hq, hj, rfl⟩ : ∃ q j, q < 3 ∧ j < 32 ∧ i = 2 + q * 32 + j := ⟨(i - 2) / 32, (i - 2) % 32, by omega, by omega, by omega⟩
      rw [stock_get hq hj]
      by_cases e : q = k
      · subst e
        rw [if_pos (by omega), stock_get hq hj]
        unfold updF
        rw [if_pos rfl, show 2 + q * 32 + j - (2 + q * 32) = j by omega]
        simp [encLC, hj]
      · rw [if_neg (by omega), stock_get hq hj]
        unfold updF
        rw [if_neg e]
  · rw [if_neg (by omega), Array.getElem?_eq_none (by rw [stock_size]; omega), Array.getElem?_eq_none (by rw [stock_size]; omega)]
theorem stock_part_store (h : Blk w b (stockRow pa pn pc sa sn sc f)) {k : Nat} (hk : k < 3) (m : Nat → Bool) :
    ∃ w', Sem.run Try.prog (storeCut (.pointer (some ⟨b, 2 + k * 32, none⟩)) (.agg (encC m))) w = .ok () w' ∧ Blk w' b (stockRow pa pn pc sa sn sc (updF f k m)) ∧ SameBut (fun k => k = b) w w' := by
  have hi : (Try.prog.info? 109).map (·.size) = some (encC m).size := by rw [encC_size]; exact cutInfo
  have hr := stock_range h hk
  have hth : w.there b (2 + k * 32) (encC m).size := fun j hj => by
    rw [encC_size] at hj
    exact ⟨hr.isSome j (by rw [encLC_length]; exact hj), h.frozen⟩
  have hst := run_storeAt_mid (P := Try.prog) w b (2 + k * 32) 109 (encC m) hth hi (encC_one m)
  refine ⟨w.setCells b (2 + k * 32) (encLC m), hst, ?_, same_setCells _ _ (SameBut.refl _ w)⟩
  obtain ⟨t, ht⟩ := h
  exact ⟨t, by rw [heap_setCells_row b _ _ w _ t ht, stock_set hk]⟩
theorem results_stock {fn : Func} {p : Tmp} (hf : fn.results = #[.cell p 112]) (tmps : Array Value) (hp : tmps.getD p undef = .pointer (some ⟨b, 0, none⟩)) (h : Blk w b (stockRow pa pn pc sa sn sc f)) :
    (results fn tmps).run Try.prog w = .ok (.agg (stockRow pa pn pc sa sn sc f)) w := by
  obtain ⟨t, h⟩ := h
  obtain ⟨d, hd, hr⟩ := stockUnder
  exact results_cell_row hf tmps w b t (stockRow pa pn pc sa sn sc f) (0, 0) d hp h hd (by cases d <;> first | rfl | cases hr) (by rw [stock_size]; exact stockInfo)
end
theorem zeroSt0 : stockRow none 0 0 none 0 0 (fun _ _ => false) = Try.zeroCells112 := by kernel_rfl
theorem zeroSt1 (pa : Option Addr) (pn pc : Nat) (sa : Option Addr) (sn sc : Nat) : stockRow pa pn pc sa sn sc (fun _ _ => false) = (Try.zeroCells112.setIfInBounds 0 (.slice pa pn pc)).setIfInBounds 1 (.slice sa sn sc) := by kernel_rfl
theorem stock_new (w : World) (pa : Option Addr) (pn pc : Nat) (sa : Option Addr) (sn sc : Nat) (f : Nat → Nat → Bool) :
    ∃ V, Sem.run Try.prog (storeSt (.pointer (some ⟨w.heap.size, 0, none⟩)) (.agg (stockRow pa pn pc sa sn sc f))) (w.alloc (.cells Try.zeroCells112 112)) = .ok () V ∧ Blk V w.heap.size (stockRow pa pn pc sa sn sc f) ∧ SameBut (fun _ => False) w V ∧ V.heap.size = w.heap.size + 1 := by
  rw [← zeroSt0]
  obtain ⟨b1, s1, z1⟩ := alloc_step (w := w) (c := stockRow none 0 0 none 0 0 (fun _ _ => false)) (t := 112) rfl
  obtain ⟨V, h1, h2, h3, h4⟩ := stock_store (pa := pa) (pn := pn) (pc := pc) (sa := sa) (sn := sn) (sc := sc) (f := f) b1 stock_size
  exact ⟨V, h1, h2, SameBut.shift (M := fun _ => False) (M' := fun k => k = w.heap.size) s1 h3 (fun i h => .inr (by omega)), by omega⟩
end Go.Proofs.Ytbbolibkheelmaa
