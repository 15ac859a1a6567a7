/- MakerLooks Look and Wrong return what the reference says; for every book; no condition. Law: MakerLooks. Contracts of the reference of maker: Look, Wrong. Slices that are built, and appended to, within a tree. Mathematics of maker: a mark that stands for all of its kind. -/
import Derived.Test.YthaplmohhbdfeaaZy10
import Derived.Test.YthaplmohhbdfeaaZy05
import Derived.Test.YthaplmohhbdfeaaGa16
namespace Go.Proofs.Ythaplmohhbdfeaa.Mk
open Go.RowKit Ls
theorem who_ext {x y : MBook} (h1 : x.makers = y.makers) (h2 : x.repairs = y.repairs) (h3 : x.fixed = y.fixed) (h4 : ∀ p, seenN x p = seenN y p) : whoL x = whoL y := by
  have s1 : Sub x y := ⟨h1, fun p i h => by rw [← h4]; exact h, by omega, h3⟩
  have s2 : Sub y x := ⟨h1.symm, fun p i h => by rw [h4]; exact h, by omega, h3.symm⟩
  unfold whoL
  rw [h1]
  refine List.filter_congr fun m _ => ?_
  rw [Bool.eq_iff_iff]
  exact ⟨s1.poss, s2.poss⟩
def moreB (b : MBook) (m : Int × Int) : MBook := { b with seen := b.seen ++ [m] }
/-- All marks but those of a kind. -/
def otherL (l : List (Int × Int)) (q : Nat) : List (Int × Int) := l.filter fun m => decide (¬ m.1 = (q : Int))
def otherB (b : MBook) (q : Nat) : MBook := { b with seen := otherL b.seen q }
def onlyB (b : MBook) (q v : Nat) : MBook := moreB (otherB b q) ((q : Int), ((2 ^ v : Nat) : Int))
theorem mem_other {l : List (Int × Int)} {q : Nat} {m : Int × Int} : m ∈ otherL l q ↔ m ∈ l ∧ ¬ m.1 = (q : Int) := by
  unfold otherL
  rw [List.mem_filter, decide_eq_true_eq]
theorem other_next {l : List (Int × Int)} {q j : Nat} (hj : j < l.length) : otherL (l.take (j + 1)) q = otherL (l.take j) q ++ if l[j].1 = (q : Int) then [] else [l[j]] := by
  unfold otherL
  rw [List.take_succ_eq_append_getElem hj, List.filter_append]
  congr 1
  by_cases h : l[j].1 = (q : Int)
  · simp [h]
  · simp [h]
theorem other_len (l : List (Int × Int)) (q : Nat) : (otherL l q).length ≤ l.length := List.length_filter_le ..
theorem only_seen {b : MBook} {q v : Nat} (hv : (seenN b q).testBit v = true) (p i : Nat) : (seenN (onlyB b q v) p).testBit i = true ↔ (seenN b p).testBit i = true ∧ (p = q → i = v) := by
  rw [seen_bit, seen_bit]
  have hv2 := seen_bit.1 hv
  constructor
  · rintro ⟨h1, h2⟩
    by_cases e : p = q
    · subst e
      have h3 := h2 ((p : Int), ((2 ^ v : Nat) : Int)) (List.mem_append_right _ (List.mem_singleton.2 rfl)) rfl
      rw [Int.toNat_natCast, Nat.testBit_two_pow, decide_eq_true_eq] at h3
      subst h3
      exact ⟨hv2, fun _ => rfl⟩
    · refine ⟨⟨h1, fun m hm he => h2 m (List.mem_append_left _ (mem_other.2 ⟨hm, fun h => ?_⟩)) he⟩, fun h => absurd h e⟩
      omega
  · rintro ⟨⟨h1, h2⟩, h3⟩
    refine ⟨h1, fun m hm he => ?_⟩
    rcases List.mem_append.1 hm with hm | hm
    · exact h2 m (mem_other.1 hm).1 he
    · have := List.mem_singleton.1 hm
      subst this
      have e : p = q := by
        have he2 : (q : Int) = (p : Int) := he
        omega
      rw [h3 e, Int.toNat_natCast, Nat.testBit_two_pow_self]
theorem know_seen {b : MBook} {q v : Nat} (p i : Nat) : (seenN (knowB b q v) p).testBit i = true ↔ (seenN b p).testBit i = true ∧ (p = q → i = v) := by
  rw [seen_bit, seen_bit]
  have ee : ((2 : Int) ^ v).toNat = 2 ^ v := by
    have : ((2 : Int) ^ v) = ((2 ^ v : Nat) : Int) := by norm_cast
    rw [this, Int.toNat_natCast]
  constructor
  · rintro ⟨h1, h2⟩
    refine ⟨⟨h1, fun m hm he => h2 m (List.mem_append_left _ hm) he⟩, fun e => ?_⟩
    subst e
    have h3 := h2 ((p : Int), 2 ^ v) (List.mem_append_right _ (List.mem_singleton.2 rfl)) rfl
    rw [ee, Nat.testBit_two_pow, decide_eq_true_eq] at h3
    exact h3.symm
  · rintro ⟨⟨h1, h2⟩, h3⟩
    refine ⟨h1, fun m hm he => ?_⟩
    rcases List.mem_append.1 hm with hm | hm
    · exact h2 m hm he
    · have := List.mem_singleton.1 hm
      subst this
      have e : p = q := by
        have he2 : (q : Int) = (p : Int) := he
        omega
      rw [h3 e, ee, Nat.testBit_two_pow_self]
theorem values_seen {b : MBook} {q v : Nat} (h : v ∈ valuesL b q) : v < 5 ∧ (seenN b q).testBit v = true := by
  unfold valuesL at h
  obtain ⟨h1, h2⟩ := List.mem_filter.1 h
  obtain ⟨m, c, -, -, hb⟩ := can_bit.1 h2
  exact ⟨List.mem_range.1 h1, val_seen hb⟩
theorem only_who {b : MBook} {q v : Nat} (h : v ∈ valuesL b q) : whoL (onlyB b q v) = whoL (knowB b q v) := by
  refine who_ext rfl rfl rfl fun p => ?_
  refine Nat.eq_of_testBit_eq fun i => ?_
  rw [Bool.eq_iff_iff, only_seen (values_seen h).2, know_seen]
theorem only_right {b : MBook} {q v : Nat} (h : v ∈ valuesL b q) (hr : rightB b = true) : rightB (onlyB b q v) = true := by
  refine List.all_eq_true.2 fun p hp => decide_eq_true (ne_bit.2 ?_)
  have h0 : seenN b p ≠ 0 := of_decide_eq_true (List.all_eq_true.1 hr p hp)
  by_cases e : p = q
  · subst e
    exact ⟨v, (only_seen (values_seen h).2 p v).2 ⟨(values_seen h).2, fun _ => rfl⟩⟩
  · obtain ⟨i, hi⟩ := ne_bit.1 h0
    exact ⟨i, (only_seen (values_seen h).2 p i).2 ⟨hi, fun h => absurd h e⟩⟩
theorem other_ok {b : MBook} (h : okBook b) (q : Nat) : okBook (otherB b q) := ⟨h.1.unseen _ fun _ hm => (mem_other.1 hm).1, Nat.le_trans (other_len b.seen q) h.2⟩
theorem more_ok {b : MBook} (h : okBook b) {q v : Nat} (hq : q < nK b) (hv : v < 5) (h8 : b.seen.length < 8) : okBook (moreB b ((q : Int), ((2 ^ v : Nat) : Int))) := by
  obtain ⟨⟨h1, h2, h3, h4, h5⟩, -⟩ := h
  have hle : 2 ^ v ≤ 16 := Nat.pow_le_pow_right (n := 2) (by decide) (show v ≤ 4 by omega)
  have hge : 1 ≤ 2 ^ v := Nat.one_le_two_pow
  refine ⟨⟨h1, h2, h3, fun m hm => ?_, h5⟩, ?_⟩
  · rcases List.mem_append.1 hm with hm | hm
    · exact h4 m hm
    · have := List.mem_singleton.1 hm
      subst this
      show (0 ≤ (q : Int) ∧ (q : Int) < (nK b : Int)) ∧ 1 ≤ ((2 ^ v : Nat) : Int) ∧ ((2 ^ v : Nat) : Int) ≤ 31
      omega
  · show (b.seen ++ [_]).length ≤ 8
    rw [List.length_append]
    simp only [List.length_cons, List.length_nil]
    omega
def worstF (b : MBook) (q j : Nat) : Nat := ((valuesL b q).take j).foldl (fun m v => max m (whoL (knowB b q v)).length) 0
theorem worstF_next {b : MBook} {q j : Nat} (hj : j < (valuesL b q).length) : worstF b q (j + 1) = max (worstF b q j) (whoL (knowB b q (valuesL b q)[j])).length := by
  unfold worstF
  rw [List.take_succ_eq_append_getElem hj, List.foldl_append]
  rfl
theorem worstF_end (b : MBook) (q : Nat) : worstF b q (valuesL b q).length = worstN b q := by
  unfold worstF worstN
  rw [List.take_length]
theorem worstF_le {b : MBook} (h : okC b) {q : Nat} : ∀ j, j ≤ (valuesL b q).length → worstF b q j ≤ 5
  | 0, _ => by simp [worstF]
  | j + 1, hj => by
    have h1 := worstF_le h (q := q) j (by omega)
    have h2 := who_len (knowB b q (valuesL b q)[j])
    have h3 : (knowB b q (valuesL b q)[j]).makers.length ≤ 5 := h.1.2
    rw [worstF_next hj]
    omega
def fullB (b : MBook) (q : Nat) : Bool := decide (valuesL b q ≠ [] ∧ (otherL b.seen q).length = 8)
end Go.Proofs.Ythaplmohhbdfeaa.Mk
namespace Go.Proofs.Ythaplmohhbdfeaa
open Go.RowKit
section
variable {C : Con} {rd : List Nat} {d : Option Nat} {i : Nat} {tk lst : Bool} {s : AS} {K : List Nat → AS → Prop}
def bslG2 (v : Option (List PV)) (sz n : Nat) (d : Option Nat) (s : AS) (K : AS → Prop) : Prop :=
  match v with
  | some l => K (s.put d (.p (.sl .full sz (rows sz n l))))
  | none => False
def bslG (v : Option (List AV)) (sz n : Nat) (d : Option Nat) (s : AS) (K : AS → Prop) : Prop :=
  match v with
  | some cs => bslG2 (pures cs) sz n d s K
  | none => False
theorem gs_bsl {e : TypeId} {sz n : Nat} {z : List PV} {ps : List (Nat × Nat × AX)} : gstep C rd ⟨d, .bslice false e sz n z ps, none, i, tk, lst⟩ s K = bslG (fillA s ps ((repl n z).map .p)) sz n d s (K (bif lst then [] else rd)) := by
  rw [gs_eff rfl]
  simp only [effQ, bslG]
  cases fillA s ps ((repl n z).map .p) with
  | none => rfl
  | some cs =>
    simp only [bslG2]
    cases pures cs <;> rfl
theorem bslG_some {sz n : Nat} {cs : List AV} {K : AS → Prop} : bslG (some cs) sz n d s K = bslG2 (pures cs) sz n d s K := rfl
theorem bslG2_some {sz n : Nat} {l : List PV} {K : AS → Prop} : bslG2 (some l) sz n d s K = K (s.put d (.p (.sl .full sz (rows sz n l)))) := rfl
def appG (v u : AV) (e : TypeId) (sz : Nat) (d : Option Nat) (s : AS) (K : AS → Prop) : Prop :=
  match v, u with
  | .p (.sl k sz1 es), .p (.sl _ sz2 news) => (sz1 = sz ∨ es = []) ∧ (sz2 = sz ∨ news = []) ∧ es.length + news.length ≤ 1000000 ∧ canApp s.live e sz k ∧ ∀ t, t ∉ s.live → K (({ s with live := t :: liveApp s.live k } : AS).put d (.p (.sl (.own t e sz) sz (es ++ news))))
  | _, _ => False
theorem gs_app {e : TypeId} {sz q : Nat} {z : List PV} {x y : AX} : gstep C rd ⟨d, .app false e sz q z x y, none, i, tk, lst⟩ s K = appG (x.ev s) (y.ev s) e sz d s (K (bif lst then [] else rd)) := by
  rw [gs_eff rfl]
  simp only [effQ, appG]
  cases x.ev s with
  | p v =>
    cases v with
    | sl k sz1 es =>
      cases y.ev s with
      | p u => cases u <;> rfl
      | _ => rfl
    | _ => rfl
  | _ => rfl
theorem appG_sl {k k2 : SK} {sz1 sz2 : Nat} {es news : List (List PV)} {e : TypeId} {sz : Nat} {K : AS → Prop} : appG (.p (.sl k sz1 es)) (.p (.sl k2 sz2 news)) e sz d s K = ((sz1 = sz ∨ es = []) ∧ (sz2 = sz ∨ news = []) ∧ es.length + news.length ≤ 1000000 ∧ canApp s.live e sz k ∧ ∀ t, t ∉ s.live → K (({ s with live := t :: liveApp s.live k } : AS).put d (.p (.sl (.own t e sz) sz (es ++ news))))) := rfl
end
end Go.Proofs.Ythaplmohhbdfeaa
namespace Go.Proofs.Ythaplmohhbdfeaa.Mk
open Go.RowKit Ls
def ac87 : AC := (AC.seq (AC.ops [(AOp.mk (some 3) (AK.box 4 (AX.t 0)) none 0 false true), (AOp.mk (some 6) (AK.new (PV.agg [(PV.sl SK.full 0 []), (PV.sl SK.full 0 []), (PV.val (Value.int IntKind.i64 0)), (PV.val (Value.int IntKind.i64 0))])) none 1 false true)]) (AC.seq (AC.ops [(AOp.mk (some 8) (AK.ld (some 4) (AX.t 3)) none 0 false true), (AOp.mk (some 7) (AK.new (PV.agg [(PV.sl SK.full 0 []), (PV.sl SK.full 0 []), (PV.val (Value.int IntKind.i64 0)), (PV.val (Value.int IntKind.i64 0))])) none 1 false true), (AOp.mk none (AK.st 4 (AX.t 7) (AX.t 8)) none 2 false true)]) (AC.seq (AC.ops [(AOp.mk (some 9) (AK.bslice false 59 2 0 [(PV.val (Value.int IntKind.i64 0)), (PV.val (Value.int IntKind.i64 0))] []) none 0 false true), (AOp.mk (some 10) (AK.fadr 1 (AX.t 3)) none 1 false true), (AOp.mk (some 11) (AK.ld none (AX.t 10)) none 2 false true), (AOp.mk (some 12) (AK.app false 59 2 16 [(PV.val (Value.int IntKind.i64 0)), (PV.val (Value.int IntKind.i64 0))] (AX.t 9) (AX.t 11)) none 3 false true), (AOp.mk (some 13) (AK.fadr 1 (AX.t 7)) none 4 false true), (AOp.mk none (AK.st 1 (AX.t 13) (AX.t 12)) none 5 false true)]) (AC.seq (AC.ops [(AOp.mk (some 14) (AK.fadr 1 (AX.t 7)) none 0 true false), (AOp.mk (some 15) (AK.ld none (AX.t 14)) none 1 true false), (AOp.mk (some 16) (AK.mv (AX.t 1)) none 2 true false), (AOp.mk (some 17) (AK.mv (AX.t 2)) none 3 true false), (AOp.mk (some 18) (AK.bin false BinOp.shl (AX.c (PV.val (Value.int IntKind.i64 1))) (AX.t 17)) none 4 true false), (AOp.mk (some 19) (AK.build [(PV.val (Value.int IntKind.i64 0)), (PV.val (Value.int IntKind.i64 0))] [(0, (1, (AX.t 16))), (1, (1, (AX.t 18)))]) none 5 true false), (AOp.mk (some 20) (AK.bslice false 59 2 1 [(PV.val (Value.int IntKind.i64 0)), (PV.val (Value.int IntKind.i64 0))] [(0, (2, (AX.t 19)))]) none 6 false false), (AOp.mk (some 21) (AK.app false 59 2 16 [(PV.val (Value.int IntKind.i64 0)), (PV.val (Value.int IntKind.i64 0))] (AX.t 15) (AX.t 20)) none 7 false true), (AOp.mk (some 22) (AK.fadr 1 (AX.t 7)) none 8 true true), (AOp.mk none (AK.st 1 (AX.t 22) (AX.t 21)) none 9 false true)]) (AC.seq (AC.ops [(AOp.mk (some 23) (AK.ld (some 4) (AX.t 7)) none 0 false true), (AOp.mk none (AK.st 4 (AX.t 6) (AX.t 23)) none 1 false true)]) AC.ret)))))
theorem ac87_ok : cCode Try.prog (fun _ => false) Try.f87.ntmps (Try.f87.body.getD .skip) = some ac87 := by kernel_rfl
def ac89 : AC := (AC.seq (AC.ops [(AOp.mk (some 2) (AK.box 4 (AX.t 0)) none 0 false true), (AOp.mk (some 4) (AK.new (PV.agg [(PV.sl SK.full 0 []), (PV.sl SK.full 0 []), (PV.val (Value.int IntKind.i64 0)), (PV.val (Value.int IntKind.i64 0))])) none 1 false true)]) (AC.seq (AC.ops [(AOp.mk (some 7) (AK.ld (some 4) (AX.t 2)) none 0 false true), (AOp.mk (some 5) (AK.new (PV.agg [(PV.sl SK.full 0 []), (PV.sl SK.full 0 []), (PV.val (Value.int IntKind.i64 0)), (PV.val (Value.int IntKind.i64 0))])) none 1 false true), (AOp.mk none (AK.st 4 (AX.t 5) (AX.t 7)) none 2 false true)]) (AC.seq (AC.ops [(AOp.mk (some 8) (AK.fadr 1 (AX.t 5)) none 0 false true), (AOp.mk none (AK.st 1 (AX.t 8) (AX.c (PV.sl SK.full 0 []))) none 1 false true)]) (AC.seq (AC.seq (AC.ops [(AOp.mk (some 6) (AK.mv (AX.c (PV.val (Value.int IntKind.i64 0)))) none 0 false true)]) (AC.block 0 (AC.loop (AC.seq (AC.seq (AC.ops [(AOp.mk (some 9) (AK.mv (AX.t 6)) none 0 false true), (AOp.mk (some 10) (AK.fadr 1 (AX.t 2)) none 1 false true), (AOp.mk (some 11) (AK.ld none (AX.t 10)) none 2 false true), (AOp.mk (some 12) (AK.len (AX.t 11)) none 3 false true), (AOp.mk (some 13) (AK.bin false BinOp.lss (AX.t 9) (AX.t 12)) none 4 false true)]) (AC.cond (AX.t 13) AC.skip (AC.exit 0))) (AC.seq (AC.block 1 (AC.seq (AC.ops [(AOp.mk (some 16) (AK.mv (AX.t 1)) none 0 false true), (AOp.mk (some 17) (AK.mv (AX.t 6)) none 1 false true), (AOp.mk (some 18) (AK.call 44 [(AX.t 16), (AX.t 17)]) none 2 false true), (AOp.mk (some 19) (AK.un UnOp.not (AX.t 18)) none 3 false true)]) (AC.cond (AX.t 19) (AC.ops [(AOp.mk (some 20) (AK.fadr 1 (AX.t 5)) none 0 true false), (AOp.mk (some 21) (AK.ld none (AX.t 20)) none 1 true false), (AOp.mk (some 22) (AK.fadr 1 (AX.t 2)) none 2 true false), (AOp.mk (some 23) (AK.ld none (AX.t 22)) none 3 true false), (AOp.mk (some 24) (AK.mv (AX.t 6)) none 4 true false), (AOp.mk (some 25) (AK.iadrS 2 (AX.t 23) (AX.t 24)) none 5 true false), (AOp.mk (some 26) (AK.ld (some 2) (AX.t 25)) none 6 true false), (AOp.mk (some 27) (AK.bslice false 59 2 1 [(PV.val (Value.int IntKind.i64 0)), (PV.val (Value.int IntKind.i64 0))] [(0, (2, (AX.t 26)))]) none 7 false false), (AOp.mk (some 28) (AK.app false 59 2 16 [(PV.val (Value.int IntKind.i64 0)), (PV.val (Value.int IntKind.i64 0))] (AX.t 21) (AX.t 27)) none 8 false true), (AOp.mk (some 29) (AK.fadr 1 (AX.t 5)) none 9 true true), (AOp.mk none (AK.st 1 (AX.t 29) (AX.t 28)) none 10 false true)]) AC.skip))) (AC.ops [(AOp.mk (some 14) (AK.mv (AX.t 6)) none 0 false true), (AOp.mk (some 15) (AK.bin false BinOp.add (AX.t 14) (AX.c (PV.val (Value.int IntKind.i64 1)))) none 1 false true), (AOp.mk (some 6) (AK.mv (AX.t 15)) none 2 false true)])))))) (AC.seq (AC.ops [(AOp.mk (some 30) (AK.ld (some 4) (AX.t 5)) none 0 false true), (AOp.mk none (AK.st 4 (AX.t 4) (AX.t 30)) none 1 false true)]) AC.ret)))))
theorem ac89_ok : cCode Try.prog (fun _ => false) Try.f89.ntmps (Try.f89.body.getD .skip) = some ac89 := by kernel_rfl
def ac33 : AC := (AC.seq (AC.ops [(AOp.mk (some 1) (AK.box 4 (AX.t 0)) none 0 false true), (AOp.mk (some 2) (AK.mv (AX.c (PV.val (Value.int IntKind.i64 0)))) none 1 false true), (AOp.mk (some 3) (AK.mv (AX.c (PV.val (Value.int IntKind.i64 0)))) none 2 false true)]) (AC.seq (AC.seq (AC.ops [(AOp.mk (some 12) (AK.ld (some 4) (AX.t 1)) none 0 false true), (AOp.mk (some 13) (AK.call 19 [(AX.t 12)]) none 1 false true), (AOp.mk (some 4) (AK.mv (AX.t 13)) none 2 false true)]) (AC.seq (AC.ops [(AOp.mk (some 14) (AK.mv (AX.t 4)) none 0 false true), (AOp.mk (some 15) (AK.bin false BinOp.neq (AX.t 14) (AX.c (PV.val (Value.int IntKind.i64 0)))) none 1 false true)]) (AC.cond (AX.t 15) (AC.seq (AC.ops [(AOp.mk (some 16) (AK.mv (AX.t 4)) none 0 false true), (AOp.mk (some 2) (AK.mv (AX.c (PV.val (Value.int IntKind.i64 0)))) none 1 false true), (AOp.mk (some 3) (AK.mv (AX.t 16)) none 2 false true)]) AC.ret) AC.skip))) (AC.seq (AC.seq (AC.ops [(AOp.mk (some 17) (AK.ld (some 4) (AX.t 1)) none 0 false true), (AOp.mk (some 18) (AK.call 71 [(AX.t 17), (AX.c (PV.val (Value.bool true)))]) none 1 false true), (AOp.mk (some 5) (AK.mv (AX.t 18)) none 2 false true)]) (AC.seq (AC.ops [(AOp.mk (some 19) (AK.mv (AX.t 5)) none 0 false true), (AOp.mk (some 20) (AK.bin false BinOp.neq (AX.t 19) (AX.c (PV.val (Value.int IntKind.i64 0)))) none 1 false true)]) (AC.cond (AX.t 20) (AC.seq (AC.ops [(AOp.mk (some 21) (AK.mv (AX.t 5)) none 0 false true), (AOp.mk (some 2) (AK.mv (AX.c (PV.val (Value.int IntKind.i64 0)))) none 1 false true), (AOp.mk (some 3) (AK.mv (AX.t 21)) none 2 false true)]) AC.ret) AC.skip))) (AC.seq (AC.seq (AC.ops [(AOp.mk (some 22) (AK.ld (some 4) (AX.t 1)) none 0 false true), (AOp.mk (some 23) (AK.call 72 [(AX.t 22)]) none 1 false true), (AOp.mk (some 24) (AK.len (AX.t 23)) none 2 false true), (AOp.mk (some 25) (AK.bin false BinOp.lss (AX.t 24) (AX.c (PV.val (Value.int IntKind.i64 2)))) none 3 false true)]) (AC.cond (AX.t 25) (AC.seq (AC.ops [(AOp.mk (some 2) (AK.mv (AX.c (PV.val (Value.int IntKind.i64 0)))) none 0 false true), (AOp.mk (some 3) (AK.mv (AX.c (PV.val (Value.int IntKind.i64 4)))) none 1 false true)]) AC.ret) AC.skip)) (AC.seq (AC.ops [(AOp.mk (some 6) (AK.mv (AX.c (PV.val (Value.int IntKind.i64 (-1))))) none 0 false true), (AOp.mk (some 7) (AK.mv (AX.c (PV.val (Value.int IntKind.i64 0)))) none 1 false true)]) (AC.seq (AC.seq (AC.ops [(AOp.mk (some 8) (AK.mv (AX.c (PV.val (Value.int IntKind.i64 0)))) none 0 false true)]) (AC.block 0 (AC.loop (AC.seq (AC.seq (AC.ops [(AOp.mk (some 26) (AK.mv (AX.t 8)) none 0 false true), (AOp.mk (some 27) (AK.ld (some 4) (AX.t 1)) none 1 false true), (AOp.mk (some 28) (AK.call 67 [(AX.t 27)]) none 2 false true), (AOp.mk (some 29) (AK.bin false BinOp.lss (AX.t 26) (AX.t 28)) none 3 false true)]) (AC.cond (AX.t 29) AC.skip (AC.exit 0))) (AC.seq (AC.block 1 (AC.seq (AC.ops [(AOp.mk (some 32) (AK.ld (some 4) (AX.t 1)) none 0 false true), (AOp.mk (some 33) (AK.mv (AX.t 8)) none 1 false true), (AOp.mk (some 34) (AK.call 82 [(AX.t 32), (AX.t 33)]) none 2 false true), (AOp.mk (some 35) (AK.call 42 [(AX.t 34), (AX.c (PV.val (Value.int IntKind.i64 5)))]) none 3 false true), (AOp.mk (some 9) (AK.mv (AX.t 35)) none 4 false true), (AOp.mk (some 10) (AK.mv (AX.c (PV.val (Value.int IntKind.i64 0)))) none 5 false true)]) (AC.seq (AC.seq (AC.ops [(AOp.mk (some 11) (AK.mv (AX.c (PV.val (Value.int IntKind.i64 0)))) none 0 false true)]) (AC.block 2 (AC.loop (AC.seq (AC.seq (AC.ops [(AOp.mk (some 36) (AK.mv (AX.t 11)) none 0 false true), (AOp.mk (some 37) (AK.mv (AX.t 9)) none 1 false true), (AOp.mk (some 38) (AK.len (AX.t 37)) none 2 false true), (AOp.mk (some 39) (AK.bin false BinOp.lss (AX.t 36) (AX.t 38)) none 3 false true)]) (AC.cond (AX.t 39) AC.skip (AC.exit 2))) (AC.seq (AC.block 3 (AC.ops [(AOp.mk (some 42) (AK.mv (AX.t 10)) none 0 true false), (AOp.mk (some 43) (AK.ld (some 4) (AX.t 1)) none 1 true false), (AOp.mk (some 44) (AK.mv (AX.t 8)) none 2 true false), (AOp.mk (some 45) (AK.mv (AX.t 9)) none 3 true false), (AOp.mk (some 46) (AK.mv (AX.t 11)) none 4 true false), (AOp.mk (some 47) (AK.iadrS 1 (AX.t 45) (AX.t 46)) none 5 true false), (AOp.mk (some 48) (AK.ld none (AX.t 47)) none 6 true false), (AOp.mk (some 49) (AK.call 87 [(AX.t 43), (AX.t 44), (AX.t 48)]) none 7 false true), (AOp.mk (some 50) (AK.call 72 [(AX.t 49)]) none 8 false true), (AOp.mk (some 51) (AK.len (AX.t 50)) none 9 true true), (AOp.mk (some 52) (AK.mx true [(AX.t 42), (AX.t 51)]) none 10 true true), (AOp.mk (some 10) (AK.mv (AX.t 52)) none 11 true true)])) (AC.ops [(AOp.mk (some 40) (AK.mv (AX.t 11)) none 0 false true), (AOp.mk (some 41) (AK.bin false BinOp.add (AX.t 40) (AX.c (PV.val (Value.int IntKind.i64 1)))) none 1 false true), (AOp.mk (some 11) (AK.mv (AX.t 41)) none 2 false true)])))))) (AC.seq (AC.ops [(AOp.mk (some 53) (AK.mv (AX.t 6)) none 0 false true), (AOp.mk (some 54) (AK.bin false BinOp.lss (AX.t 53) (AX.c (PV.val (Value.int IntKind.i64 0)))) none 1 false true), (AOp.mk (some 55) (AK.mv (AX.t 54)) none 2 false true), (AOp.mk (some 56) (AK.mv (AX.t 10)) (some (55, false)) 3 false true), (AOp.mk (some 57) (AK.mv (AX.t 7)) (some (55, false)) 4 false true), (AOp.mk (some 58) (AK.bin false BinOp.lss (AX.t 56) (AX.t 57)) (some (55, false)) 5 false true), (AOp.mk (some 59) (AK.pick (AX.t 55) (AX.c (PV.val (Value.bool true))) (AX.t 58)) none 6 false true)]) (AC.cond (AX.t 59) (AC.ops [(AOp.mk (some 60) (AK.mv (AX.t 8)) none 0 false true), (AOp.mk (some 61) (AK.mv (AX.t 10)) none 1 false true), (AOp.mk (some 6) (AK.mv (AX.t 60)) none 2 false true), (AOp.mk (some 7) (AK.mv (AX.t 61)) none 3 false true)]) AC.skip))))) (AC.ops [(AOp.mk (some 30) (AK.mv (AX.t 8)) none 0 false true), (AOp.mk (some 31) (AK.bin false BinOp.add (AX.t 30) (AX.c (PV.val (Value.int IntKind.i64 1)))) none 1 false true), (AOp.mk (some 8) (AK.mv (AX.t 31)) none 2 false true)])))))) (AC.seq (AC.ops [(AOp.mk (some 62) (AK.mv (AX.t 6)) none 0 false true), (AOp.mk (some 2) (AK.mv (AX.t 62)) none 1 false true), (AOp.mk (some 3) (AK.mv (AX.c (PV.val (Value.int IntKind.i64 0)))) none 2 false true)]) AC.ret)))))))
theorem ac33_ok : cCode Try.prog (fun _ => false) Try.f33.ntmps (Try.f33.body.getD .skip) = some ac33 := by kernel_rfl
def ac35 : AC := (AC.seq (AC.ops [(AOp.mk (some 1) (AK.box 4 (AX.t 0)) none 0 false true), (AOp.mk (some 2) (AK.mv (AX.c (PV.sl SK.full 0 []))) none 1 false true), (AOp.mk (some 3) (AK.mv (AX.c (PV.val (Value.int IntKind.i64 0)))) none 2 false true)]) (AC.seq (AC.seq (AC.ops [(AOp.mk (some 10) (AK.ld (some 4) (AX.t 1)) none 0 false true), (AOp.mk (some 11) (AK.call 19 [(AX.t 10)]) none 1 false true), (AOp.mk (some 4) (AK.mv (AX.t 11)) none 2 false true)]) (AC.seq (AC.ops [(AOp.mk (some 12) (AK.mv (AX.t 4)) none 0 false true), (AOp.mk (some 13) (AK.bin false BinOp.neq (AX.t 12) (AX.c (PV.val (Value.int IntKind.i64 0)))) none 1 false true)]) (AC.cond (AX.t 13) (AC.seq (AC.ops [(AOp.mk (some 14) (AK.mv (AX.t 4)) none 0 false true), (AOp.mk (some 2) (AK.mv (AX.c (PV.sl SK.full 0 []))) none 1 false true), (AOp.mk (some 3) (AK.mv (AX.t 14)) none 2 false true)]) AC.ret) AC.skip))) (AC.seq (AC.ops [(AOp.mk (some 15) (AK.fadr 1 (AX.t 1)) none 0 false true), (AOp.mk (some 16) (AK.ld none (AX.t 15)) none 1 false true), (AOp.mk (some 17) (AK.len (AX.t 16)) none 2 false true), (AOp.mk (some 5) (AK.mv (AX.t 17)) none 3 false true)]) (AC.seq (AC.ops [(AOp.mk (some 18) (AK.mv (AX.t 5)) none 0 false true), (AOp.mk (some 19) (AK.bin false BinOp.shl (AX.c (PV.val (Value.int IntKind.i64 1))) (AX.t 18)) none 1 false true), (AOp.mk (some 20) (AK.bin false BinOp.sub (AX.t 19) (AX.c (PV.val (Value.int IntKind.i64 1)))) none 2 false true), (AOp.mk (some 21) (AK.mv (AX.t 5)) none 3 false true), (AOp.mk (some 22) (AK.call 42 [(AX.t 20), (AX.t 21)]) none 4 false true), (AOp.mk (some 6) (AK.mv (AX.t 22)) none 5 false true)]) (AC.seq (AC.seq (AC.ops [(AOp.mk (some 7) (AK.mv (AX.c (PV.val (Value.int IntKind.i64 0)))) none 0 false true)]) (AC.block 0 (AC.loop (AC.seq (AC.seq (AC.ops [(AOp.mk (some 23) (AK.mv (AX.t 7)) none 0 false true), (AOp.mk (some 24) (AK.mv (AX.t 5)) none 1 false true), (AOp.mk (some 25) (AK.bin false BinOp.shl (AX.c (PV.val (Value.int IntKind.i64 1))) (AX.t 24)) none 2 false true), (AOp.mk (some 26) (AK.bin false BinOp.lss (AX.t 23) (AX.t 25)) none 3 false true)]) (AC.cond (AX.t 26) AC.skip (AC.exit 0))) (AC.seq (AC.block 1 (AC.seq (AC.ops [(AOp.mk (some 29) (AK.ld (some 4) (AX.t 1)) none 0 false true), (AOp.mk (some 30) (AK.mv (AX.t 7)) none 1 false true), (AOp.mk (some 31) (AK.call 89 [(AX.t 29), (AX.t 30)]) none 2 false true), (AOp.mk (some 8) (AK.new (PV.agg [(PV.sl SK.full 0 []), (PV.sl SK.full 0 []), (PV.val (Value.int IntKind.i64 0)), (PV.val (Value.int IntKind.i64 0))])) none 3 false true), (AOp.mk none (AK.st 4 (AX.t 8) (AX.t 31)) none 4 false true)]) (AC.seq (AC.ops [(AOp.mk (some 32) (AK.mv (AX.t 7)) none 0 false true), (AOp.mk (some 33) (AK.mv (AX.t 5)) none 1 false true), (AOp.mk (some 34) (AK.call 42 [(AX.t 32), (AX.t 33)]) none 2 false true), (AOp.mk (some 9) (AK.mv (AX.t 34)) none 3 false true)]) (AC.seq (AC.ops [(AOp.mk (some 35) (AK.mv (AX.t 9)) none 0 false true), (AOp.mk (some 36) (AK.mv (AX.t 6)) none 1 false true), (AOp.mk (some 37) (AK.call 52 [(AX.t 35), (AX.t 36)]) none 2 false true), (AOp.mk (some 38) (AK.mv (AX.t 37)) none 3 false true), (AOp.mk (some 39) (AK.ld (some 4) (AX.t 8)) (some (38, true)) 4 false true), (AOp.mk (some 40) (AK.call 65 [(AX.t 39)]) (some (38, true)) 5 false true), (AOp.mk (some 41) (AK.pick (AX.t 38) (AX.t 40) (AX.c (PV.val (Value.bool false)))) none 6 false true), (AOp.mk (some 42) (AK.mv (AX.t 41)) none 7 false true), (AOp.mk (some 43) (AK.ld (some 4) (AX.t 8)) (some (42, true)) 8 false true), (AOp.mk (some 44) (AK.call 72 [(AX.t 43)]) (some (42, true)) 9 false true), (AOp.mk (some 45) (AK.len (AX.t 44)) (some (42, true)) 10 false true), (AOp.mk (some 46) (AK.bin false BinOp.gtr (AX.t 45) (AX.c (PV.val (Value.int IntKind.i64 0)))) (some (42, true)) 11 false true), (AOp.mk (some 47) (AK.pick (AX.t 42) (AX.t 46) (AX.c (PV.val (Value.bool false)))) none 12 false true)]) (AC.cond (AX.t 47) (AC.ops [(AOp.mk (some 48) (AK.mv (AX.t 9)) none 0 false true), (AOp.mk (some 6) (AK.mv (AX.t 48)) none 1 false true)]) AC.skip))))) (AC.ops [(AOp.mk (some 27) (AK.mv (AX.t 7)) none 0 false true), (AOp.mk (some 28) (AK.bin false BinOp.add (AX.t 27) (AX.c (PV.val (Value.int IntKind.i64 1)))) none 1 false true), (AOp.mk (some 7) (AK.mv (AX.t 28)) none 2 false true)])))))) (AC.seq (AC.ops [(AOp.mk (some 49) (AK.mv (AX.t 6)) none 0 false true), (AOp.mk (some 2) (AK.mv (AX.t 49)) none 1 false true), (AOp.mk (some 3) (AK.mv (AX.c (PV.val (Value.int IntKind.i64 0)))) none 2 false true)]) AC.ret))))))
theorem ac35_ok : cCode Try.prog (fun _ => false) Try.f35.ntmps (Try.f35.body.getD .skip) = some ac35 := by kernel_rfl
theorem rknown_sem (k k2 : SK) {b : MBook} (hl : b.seen.length ≤ 1000) (q : Nat) {v : Nat} (hv : v ≤ 8) : Sem1 87 [.agg (bookC k k2 b), pi q, pi v] (.agg (bookC k .sh (knowB b q v))) := by
  have hx : PV.agg (bookC k .sh (knowB b q v)) = .agg [.sl k 1 (rowsC b.makers), .sl .sh 2 (seenC b.seen ++ [[pi q, pi ((2 ^ v : Nat) : Int)]]), pi b.repairs, pi b.fixed] := by
    have : (2 : Int) ^ v = ((2 ^ v : Nat) : Int) := by norm_cast
    show PV.agg [_, .sl .sh 2 (seenC (b.seen ++ [((q : Int), (2 : Int) ^ v)])), _, _] = _
    rw [this]
    simp only [List.map_append, List.map_cons, List.map_nil]
    rfl
  have hsl : (seenC b.seen).length ≤ 1000 := by simpa using hl
  have key : ∀ (t1 : Nat), PVle (.agg [.sl k 1 (rowsC b.makers), .sl (.own t1 59 2) 2 (seenC b.seen ++ [[pi q, pi ((2 ^ v : Nat) : Int)]]), pi b.repairs, pi b.fixed]) (.agg [.sl k 1 (rowsC b.makers), .sl .sh 2 (seenC b.seen ++ [[pi q, pi ((2 ^ v : Nat) : Int)]]), pi b.repairs, pi b.fixed]) := fun t1 =>
    PVle.agg (show PVleL [_, _, _, _] [_, _, _, _] from ⟨PVle.refl _, PVle.sh _ _ _, PVle.refl _, PVle.refl _, trivial⟩)
  rw [hx]
  refine semC_of_exec' mixed Try.func87 (by kernel_rfl) (by kernel_rfl) ac87_ok 3 rfl (by decide) [(.cell 6 25)] (by kernel_rfl) ?_
  intro hr C hC hI
  unfold ac87
  simp only [go_sem, Nat.reduceBEq, Nat.reduceAdd, Nat.reduceLeDiff, putCells, bin_shl (show ¬ (v : Int) < 0 by omega), shl6 (m := v) hv]
  exact ⟨by omega, fun t _ => ⟨by omega, fun t1 _ => retQ_cell_le (n := some 4) (by kernel_rfl) rfl (key _) rfl⟩⟩
theorem rwithout_sem (k k2 : SK) (b : MBook) (hl : b.seen.length ≤ 64) (c : Nat) : Sem1 89 [.agg (bookC k k2 b), pi c] (.agg (bookC k .sh (withoutB b (listI c b.seen.length)))) := by
  refine semC_of_exec' mixed Try.func89 (by kernel_rfl) (by kernel_rfl) ac89_ok 2 rfl (by decide) [(.cell 4 25)] (by kernel_rfl) ?_
  intro hr C hC hI
  unfold ac89
  simp only [go_sem, Nat.reduceBEq, Nat.reduceAdd, Nat.reduceLeDiff, putCells]
  obtain ⟨out, hout⟩ : ∃ out, listI c b.seen.length = out := ⟨_, rfl⟩
  rw [hout]
  refine loop_g (α := Nat × Option Nat) (fun a => a.1 ≤ b.seen.length ∧ (a.2 = none → seenC (withoutL b out a.1) = [])) (fun a => b.seen.length - a.1) [1, 2, 4, 5] (fun a => [(6, .p (pi a.1))]) (fun a => [.cells ((bookC k k2 b).map .p), .cells [.p (.sl .full 0 []), .p (.sl .full 0 []), .p (pi 0), .p (pi 0)], .cells [.p (.sl k 1 (rowsC b.makers)), .p (slZ 59 2 a.2 (seenC (withoutL b out a.1))), .p (pi b.repairs), .p (pi b.fixed)]]) (fun a => a.2.toList) (0, none) ⟨by omega, fun _ => by simp [withoutL]⟩ (by simp [Wk, wkT, wkL, look, AV.lo, AV.lo.loL, upS_eq, keepS_nil, keepS_cons, slZ]) ?_
  rintro ⟨j, o⟩ ⟨hj, h0⟩
  replace hj : j ≤ b.seen.length := hj
  replace h0 : o = none → seenC (withoutL b out j) = [] := h0
  simp only [go_sem, Nat.reduceBEq, Nat.reduceAdd, List.length_map]
  refine ⟨fun h5 => ?_, fun h5 => ?_⟩
  · have hj2 : j < b.seen.length := by omega
    have hnx := withoutL_next (out := out) hj2
    have hwl := withoutL_len b out j
    have hmi := mem_listI (set := (c : Int)) hj2
    rw [hout, of_bit (by omega)] at hmi
    have hOf := Of_sem (c : Nat) j (by omega)
    rw [of_bit (s := c) (i := j) (by omega)] at hOf
    refine call_pure2 hC (hOf) rfl (PVleL_refl _) ?_
    rintro r rfl
    simp only [go_sem, Nat.reduceBEq]
    cases hb : c.testBit j
    · have hm : (j : Int) ∉ out := fun h => by have := hmi.1 h; rw [hb] at this; cases this
      rw [if_pos hm] at hnx
      have hnx2 : seenC (withoutL b out (j + 1)) = seenC (withoutL b out j) ++ [[pi b.seen[j].1, pi b.seen[j].2]] := by rw [hnx]; simp
      simp only [go_sem, Nat.reduceBEq, Nat.reduceAdd, iadr_map (f := fun m : Int × Int => [pi m.1, pi m.2]) (kd := k2) (sz := 2) hj2, putCells]
      refine app_slZ h0 (by rw [List.length_map]; omega) (by simp) fun tk htk => ?_
      simp only [go_sem, Nat.reduceBEq]
      refine ⟨.inl rfl, by simp, ?_⟩
      simp only [go_sem, Nat.reduceBEq, Nat.reduceAdd, putCells, wrap_succ (k := j) (by omega)]
      refine ⟨⟨(j + 1, some tk), hj2, (fun h => by cases h)⟩, by simp only; omega, ?_⟩
      simp only [hnx2]
      refine ⟨by simp [wkT, look, AV.lo], by simp [wkL, AV.lo, AV.lo.loL, ABlk.toZ], by simp, by simp, rfl, rfl, by simp⟩
    · have hm : (j : Int) ∈ out := hmi.2 hb
      rw [if_neg (by simpa using hm), List.append_nil] at hnx
      simp only [go_sem, Nat.reduceBEq, wrap_succ (k := j) (by omega)]
      refine ⟨⟨(j + 1, o), hj2, fun h => by show seenC (withoutL b out (j + 1)) = []; rw [hnx]; exact h0 h⟩, by simp only; omega, ?_⟩
      simp only [hnx]
      cases o <;> simp [Wk, wkT, wkL, look, AV.lo, AV.lo.loL]
  · have hjn : j = b.seen.length := by omega
    subst hjn
    refine retQ_cell_le (n := some 4) (by kernel_rfl) rfl ?_ rfl
    exact PVle.agg (show PVleL [_, _, _, _] [_, _, _, _] from ⟨PVle.refl _, slZ_le h0, PVle.refl _, PVle.refl _, trivial⟩)
def lookP (b : MBook) (j : Nat) : Nat := (List.range j).foldl (fun best k => if worstN b k < worstN b best then k else best) 0
theorem lookP_next (b : MBook) (j : Nat) : lookP b (j + 1) = if worstN b j < worstN b (lookP b j) then j else lookP b j := by
  unfold lookP
  rw [List.range_succ, List.foldl_append]
  rfl
set_option maxRecDepth 100000 in
set_option maxHeartbeats 2000000 in
theorem rLook_sem (k k2 : SK) (b : MBook) : Sem1 33 [.agg (bookC k k2 b)] (if errR b true = 0 then (if (whoL b).length < 2 then .tup [pi 0, pi 4] else .tup [pi (lookN b : Nat), pi 0]) else .tup [pi 0, pi (errR b true)]) := by
  by_cases ho : okBook b
  rotate_left
  · rw [errR_no ho, if_neg (by decide)]
    refine semC_of_exec' mixed Try.func33 (by kernel_rfl) (by kernel_rfl) ac33_ok 1 rfl (by decide) [(.tmp 2), (.tmp 3)] (by kernel_rfl) ?_
    intro hr C hC hI
    unfold ac33
    simp only [go_sem, Nat.reduceBEq, Nat.reduceAdd]
    refine call_pure2 hC (rCheck_sem k k2 b) rfl (PVleL_refl _) ?_
    rintro r rfl
    simp only [go_sem, Nat.reduceBEq, if_neg ho, decide_true, not_false_eq_true, Int.reduceEq, Int.reduceNeg]
    exact retQ_two rfl rfl rfl
  rw [errR_yes ho]
  have hA := rasked_sem k k2 ho.1 true
  cases hr0 : rightB b
  · rw [hr0] at hA
    rw [if_pos rfl, if_neg Bool.false_ne_true, if_neg (show ¬ (52 : Int) = 0 by decide)]
    refine semC_of_exec' mixed Try.func33 (by kernel_rfl) (by kernel_rfl) ac33_ok 1 rfl (by decide) [(.tmp 2), (.tmp 3)] (by kernel_rfl) ?_
    intro hr C hC hI
    unfold ac33
    simp only [go_sem, Nat.reduceBEq, Nat.reduceAdd]
    refine call_pure2 hC (rCheck_sem k k2 b) rfl (PVleL_refl _) ?_
    rintro r rfl
    simp only [go_sem, Nat.reduceBEq, Nat.reduceAdd, if_pos ho, decide_false, not_true_eq_false, Int.reduceNeg]
    refine call_pure2 hC (hA) rfl (PVleL_refl _) ?_
    rintro r rfl
    simp only [go_sem, Nat.reduceBEq, decide_true, Bool.false_eq_true, not_false_eq_true, Int.reduceEq, Int.reduceNeg]
    exact retQ_two rfl rfl rfl
  rw [hr0] at hA
  rw [if_pos rfl, if_pos rfl, if_pos rfl]
  have hW := rwho_sem k k2 ho.1
  by_cases hlt : (whoL b).length < 2
  · rw [if_pos hlt]
    refine semC_of_exec' mixed Try.func33 (by kernel_rfl) (by kernel_rfl) ac33_ok 1 rfl (by decide) [(.tmp 2), (.tmp 3)] (by kernel_rfl) ?_
    intro hr C hC hI
    unfold ac33
    simp only [go_sem, Nat.reduceBEq, Nat.reduceAdd]
    refine call_pure2 hC (rCheck_sem k k2 b) rfl (PVleL_refl _) ?_
    rintro r rfl
    simp only [go_sem, Nat.reduceBEq, Nat.reduceAdd, if_pos ho, decide_false, not_true_eq_false, Int.reduceNeg]
    refine call_pure2 hC (hA) rfl (PVleL_refl _) ?_
    rintro r rfl
    simp only [go_sem, Nat.reduceBEq, Nat.reduceAdd, decide_false, not_true_eq_false, Int.reduceNeg]
    refine call_pure2 hC (hW) rfl (PVleL_refl _) ?_
    rintro r rfl
    simp only [go_sem, Nat.reduceBEq, List.length_map, natL_len, eq_true (show ((whoL b).length : Int) < 2 by omega), decide_true, Int.reduceNeg]
    exact retQ_two rfl rfl rfl
  rw [if_neg hlt]
  have h2 := ho.1.2.1
  have h8 := ho.2
  have hlo : lookN b = lookP b (nK b) := rfl
  rw [hlo]
  refine semC_of_exec' mixed Try.func33 (by kernel_rfl) (by kernel_rfl) ac33_ok 1 rfl (by decide) [(.tmp 2), (.tmp 3)] (by kernel_rfl) ?_
  intro hr C hC hI
  unfold ac33
  simp only [go_sem, Nat.reduceBEq, Nat.reduceAdd]
  refine call_pure2 hC (rCheck_sem k k2 b) rfl (PVleL_refl _) ?_
  rintro r rfl
  simp only [go_sem, Nat.reduceBEq, Nat.reduceAdd, if_pos ho, decide_false, not_true_eq_false, Int.reduceNeg]
  refine call_pure2 hC (hA) rfl (PVleL_refl _) ?_
  rintro r rfl
  simp only [go_sem, Nat.reduceBEq, Nat.reduceAdd, decide_false, not_true_eq_false, Int.reduceNeg]
  refine call_pure2 hC (hW) rfl (PVleL_refl _) ?_
  rintro r rfl
  simp only [go_sem, Nat.reduceBEq, List.length_map, natL_len, eq_false (show ¬ ((whoL b).length : Int) < 2 by omega), decide_eq_false (show ¬ ((whoL b).length : Int) < 2 by omega), decide_false, Int.reduceNeg]
  refine loop_k (nK b) (fun _ => True) [1] (fun j => [(6, .p (pi (if j = 0 then -1 else (lookP b j : Nat)))), (7, .p (pi (if j = 0 then 0 else (worstN b (lookP b j) : Nat)))), (8, .p (pi j))]) trivial (by simp [loAll, look, AV.lo]) ⟨by simp [loBlk, AV.lo, AV.lo.loL], by simp, by simp⟩ (by simp [wkT, look, AV.lo]) ?_
  rintro j ⟨hj, -⟩
  simp only [go_sem, Nat.reduceBEq, Nat.reduceAdd]
  refine call_pure2 hC (rkinds_sem k k2 ho.1) rfl (PVleL_refl _) ?_
  rintro r rfl
  simp only [go_sem, Nat.reduceBEq, Nat.reduceAdd]
  refine ⟨fun c5 => ?_, fun c5 => ?_⟩
  · have hj2 : j < nK b := by omega
    have hvl : (valuesL b j).length ≤ 5 := Nat.le_trans (List.length_filter_le ..) (by simp)
    have hL5 : Sem1 42 [pi (canN b j : Nat), pi 5] (pis (natL (valuesL b j))) := by
      rw [valuesL_list]
      exact List_sem (canN b j : Nat) 5 (by decide)
    have hwl := worstF_le ho.1 (q := j)
    refine call_pure2 hC (rcan_sem k k2 ho.1 hj2) rfl (PVleL_refl _) ?_
    rintro r rfl
    simp only [go_sem, Nat.reduceBEq]
    refine call_pure2 hC (hL5) rfl (PVleL_refl _) ?_
    rintro r rfl
    simp only [go_sem, Nat.reduceBEq]
    refine loop_k (valuesL b j).length (fun _ => True) [1, 6, 7, 8, 9] (fun i => [(10, .p (pi (worstF b j i))), (11, .p (pi i))]) trivial (by simp [loAll, look, AV.lo]) ⟨by simp [loBlk, AV.lo, AV.lo.loL], by simp, by simp⟩ (by simp [worstF, wkT, look, AV.lo]) ?_
    rintro i ⟨hi, -⟩
    simp only [go_sem, Nat.reduceBEq, Nat.reduceAdd, List.length_map, natL_len]
    refine ⟨fun d5 => ?_, fun d5 => ?_⟩
    · have hi2 : i < (valuesL b j).length := by omega
      have hil : i < (natL (valuesL b j)).length := by rw [natL_len]; exact hi2
      obtain ⟨v, ev⟩ : ∃ v, (valuesL b j)[i] = v := ⟨_, rfl⟩
      have hmv : v ∈ valuesL b j := ev ▸ List.getElem_mem hi2
      have hv5 := (values_seen hmv).1
      have hiv : (natL (valuesL b j))[i] = (v : Int) := by simp [natL, ev]
      have hwn := worstF_next (b := b) (q := j) hi2
      rw [ev] at hwn
      have hkc : okC (knowB b j v) := by
        refine ⟨ho.1.1, ho.1.2.1, ho.1.2.2.1, fun y hy => ?_, ho.1.2.2.2.2⟩
        rcases List.mem_append.1 hy with h | h
        · exact ho.1.2.2.2.1 y h
        · have := List.mem_singleton.1 h
          subst this
          have hle : 2 ^ v ≤ 16 := Nat.pow_le_pow_right (n := 2) (by decide) (show v ≤ 4 by omega)
          have hge : 1 ≤ 2 ^ v := Nat.one_le_two_pow
          have hpw : (2 : Int) ^ v = ((2 ^ v : Nat) : Int) := by norm_cast
          show (0 ≤ (j : Int) ∧ (j : Int) < (nK b : Int)) ∧ 1 ≤ (2 : Int) ^ v ∧ (2 : Int) ^ v ≤ 31
          rw [hpw]
          omega
      have hmx : maxI true (worstF b j i : Int) ((whoL (knowB b j v)).length : Int) = (worstF b j (i + 1) : Int) := by
        rw [hwn]
        unfold maxI
        simp only [if_true]
        omega
      simp only [go_sem, Nat.reduceBEq, iadr_pis hil, hiv]
      refine call_pure2 hC (rknown_sem k k2 (by omega) j (by omega : v ≤ 8)) rfl (PVleL_refl _) ?_
      rintro r rfl
      simp only [go_sem, Nat.reduceBEq]
      refine call_pure2 hC (rwho_sem k .sh hkc) rfl (PVleL_refl _) ?_
      rintro r rfl
      simp only [go_sem, Nat.reduceBEq, List.length_map, natL_len, hmx, wrap_succ (k := i) (by omega)]
      exact ⟨⟨i + 1, hi2, trivial⟩, by simp only; omega, by simp [Wk, wkT, wkL, look, AV.lo, AV.lo.loL, ABlk.toZ]⟩
    · have hin : i = (valuesL b j).length := by omega
      subst hin
      rw [worstF_end]
      have hn := lookP_next b j
      by_cases hj0 : j = 0
      · subst hj0
        have e1 : lookP b 1 = 0 := by
          rw [hn]
          have : lookP b 0 = 0 := rfl
          rw [this, if_neg (by omega)]
        simp only [go_sem, wrap_succ (k := 0) (by omega), if_pos, decide_true, not_true_eq_false, false_implies, true_implies, Int.reduceLT, Int.reduceNeg]
        refine ⟨⟨1, hj2, trivial⟩, by simp only; omega, ?_⟩
        simp only [e1]
        exact by simp [Wk, wkT, wkL, look, AV.lo, AV.lo.loL, ABlk.toZ]
      · by_cases hcs : worstN b j < worstN b (lookP b j)
        · rw [if_pos hcs] at hn
          simp only [go_sem, if_neg hj0, eq_false (show ¬ ((lookP b j : Nat) : Int) < 0 by omega), decide_eq_false (show ¬ ((lookP b j : Nat) : Int) < 0 by omega), eq_true (show (worstN b j : Int) < (worstN b (lookP b j) : Int) by omega), wrap_succ (k := j) (by omega), decide_true, decide_false, not_true_eq_false, not_false_eq_true, false_implies, true_implies, Int.reduceNeg]
          refine ⟨⟨j + 1, hj2, trivial⟩, by simp only; omega, ?_⟩
          simp only [hn, if_neg (show ¬ j + 1 = 0 by omega)]
          exact by simp [Wk, wkT, wkL, look, AV.lo, AV.lo.loL, ABlk.toZ]
        · rw [if_neg hcs] at hn
          simp only [go_sem, if_neg hj0, eq_false (show ¬ ((lookP b j : Nat) : Int) < 0 by omega), decide_eq_false (show ¬ ((lookP b j : Nat) : Int) < 0 by omega), eq_false (show ¬ (worstN b j : Int) < (worstN b (lookP b j) : Int) by omega), decide_eq_false (show ¬ (worstN b j : Int) < (worstN b (lookP b j) : Int) by omega), wrap_succ (k := j) (by omega), decide_false, not_false_eq_true, false_implies, true_implies, Int.reduceNeg]
          refine ⟨⟨j + 1, hj2, trivial⟩, by simp only; omega, ?_⟩
          simp only [hn, if_neg (show ¬ j + 1 = 0 by omega)]
          exact by simp [Wk, wkT, wkL, look, AV.lo, AV.lo.loL, ABlk.toZ]
  · have hjn : j = nK b := by omega
    subst hjn
    rw [if_neg (show ¬ nK b = 0 by omega)]
    exact retQ_two rfl rfl rfl
set_option maxRecDepth 100000 in
set_option maxHeartbeats 2000000 in
theorem rWrong_sem (k k2 : SK) (b : MBook) : Sem1 35 [.agg (bookC k k2 b)] (if errA b true = 0 then .tup [pis (wrongI b), pi 0] else .tup [pis [], pi (errA b true)]) := by
  by_cases ho : okBook b
  rotate_left
  · have he : errA b true = 50 := by unfold errA; rw [if_neg ho]
    rw [he, if_neg (by decide)]
    refine semC_of_exec' mixed Try.func35 (by kernel_rfl) (by kernel_rfl) ac35_ok 1 rfl (by decide) [(.tmp 2), (.tmp 3)] (by kernel_rfl) ?_
    intro hr C hC hI
    unfold ac35
    simp only [go_sem, Nat.reduceBEq, Nat.reduceAdd]
    refine call_pure2 hC (rCheck_sem k k2 b) rfl (PVleL_refl _) ?_
    rintro r rfl
    simp only [go_sem, Nat.reduceBEq, if_neg ho, decide_true, not_false_eq_true, Int.reduceEq]
    exact retQ_two_le rfl rfl (PVle.nil _ _ _) (PVle.refl _) rfl
  rw [if_pos (okA ho)]
  have h8 := ho.2
  obtain ⟨e, he⟩ : ∃ e, b.seen.length = e := ⟨_, rfl⟩
  have he8 : e ≤ 8 := by omega
  have hp256 : 2 ^ e ≤ 256 := Nat.pow_le_pow_right (n := 2) (by decide) he8
  have hsl := shl6 (m := e) he8
  have hslm := shl6m (m := e) he8
  have hwi : wrongI b = firstL e (wrongP b) := by rw [← he]; rfl
  have hall : wrongP b (listI (((2 ^ e : Nat) : Int) - 1) e) = true := wrong_all ho.1 fun i hi => full_mem (by omega) (by omega)
  have hend := bestS_end (e := e) (P := wrongP b) (by omega) hall
  have hL0 := List_sem (((2 ^ e : Nat) : Int) - 1) e (by omega)
  rw [hwi, ← hend]
  refine semC_of_exec' mixed Try.func35 (by kernel_rfl) (by kernel_rfl) ac35_ok 1 rfl (by decide) [(.tmp 2), (.tmp 3)] (by kernel_rfl) ?_
  intro hr C hC hI
  unfold ac35
  simp only [go_sem, Nat.reduceBEq, Nat.reduceAdd]
  refine call_pure2 hC (rCheck_sem k k2 b) rfl (PVleL_refl _) ?_
  rintro r rfl
  simp only [go_sem, Nat.reduceBEq, if_pos ho, List.length_map, he, bin_shl (show ¬ (e : Int) < 0 by omega), hsl, hslm, decide_false, not_true_eq_false]
  refine call_pure2 hC (hL0) rfl (PVleL_refl _) ?_
  rintro r rfl
  simp only [go_sem, Nat.reduceBEq]
  refine loop_k (2 ^ e) (fun _ => True) [1, 5] (fun j => [(6, .p (pis (bestS e (wrongP b) j))), (7, .p (pi j))]) trivial (by simp [loAll, look, AV.lo]) ⟨by simp [loBlk, AV.lo, AV.lo.loL], by simp, by simp⟩ (by simp [bestS, wkT, look, AV.lo]) ?_
  rintro j ⟨hj, -⟩
  simp only [go_sem, Nat.reduceBEq, Nat.reduceAdd, bin_shl (show ¬ (e : Int) < 0 by omega), hsl]
  refine ⟨fun c5 => ?_, fun c5 => ?_⟩
  · have hj2 : j < 2 ^ e := by omega
    have hn := bestS_next e (wrongP b) j
    have hWo := rwithout_sem k k2 b (by omega) j
    rw [he] at hWo
    have hoc := ho.1.without (listI (j : Nat) e)
    have hLj := List_sem (j : Nat) e (by omega)
    obtain ⟨B, hB⟩ : ∃ B, bestS e (wrongP b) j = B := ⟨_, rfl⟩
    obtain ⟨X, hX⟩ : ∃ X, listI (j : Nat) e = X := ⟨_, rfl⟩
    have hwp : wrongP b X = decide (whoL (withoutB b X) ≠ []) := rfl
    rw [hX] at hWo hoc hLj hn
    rw [hB] at hn ⊢
    refine call_pure2 hC (hWo) rfl (PVleL_refl _) ?_
    rintro r rfl
    simp only [go_sem, Nat.reduceBEq, Nat.reduceAdd, putCells]
    refine call_pure2 hC (hLj) rfl (PVleL_refl _) ?_
    rintro r rfl
    simp only [go_sem, Nat.reduceBEq]
    refine call_pure2 hC (Shorter_sem X B) rfl (PVleL_refl _) ?_
    rintro r rfl
    simp only [go_sem, Nat.reduceBEq]
    cases hsh : shortB X B
    · rw [hsh, Bool.false_and, if_neg Bool.false_ne_true] at hn
      simp only [go_sem, Nat.reduceBEq, wrap_succ (k := j) (by omega)]
      refine ⟨⟨j + 1, hj2, trivial⟩, by simp only; omega, ?_⟩
      simp only [hn]
      exact by simp [Wk, wkT, wkL, look, AV.lo, AV.lo.loL, ABlk.toZ]
    · rw [hsh, Bool.true_and] at hn
      simp only [go_sem, Nat.reduceBEq, Nat.reduceAdd]
      refine call_pure2 hC (rright_sem k .sh hoc) rfl (PVleL_refl _) ?_
      rintro r rfl
      simp only [go_sem, Nat.reduceBEq]
      cases hrr : rightB (withoutB b X)
      · have hz : wrongP b X = false := by
          rw [hwp]
          refine decide_eq_false fun h => ?_
          have := who_right h
          rw [hrr] at this
          cases this
        rw [hz, if_neg Bool.false_ne_true] at hn
        simp only [go_sem, Nat.reduceBEq, wrap_succ (k := j) (by omega)]
        refine ⟨⟨j + 1, hj2, trivial⟩, by simp only; omega, ?_⟩
        simp only [hn]
        exact by simp [Wk, wkT, wkL, look, AV.lo, AV.lo.loL, ABlk.toZ]
      · have hlz : decide ((0 : Int) < ((whoL (withoutB b X)).length : Int)) = wrongP b X := by
          rw [hwp]
          refine decide_eq_decide.2 ?_
          rw [Int.natCast_pos, List.length_pos_iff]
        obtain ⟨z, hz⟩ : ∃ z, wrongP b X = z := ⟨_, rfl⟩
        rw [hz] at hlz hn
        simp only [go_sem, Nat.reduceBEq, Nat.reduceAdd]
        refine call_pure2 hC (rwho_sem k .sh hoc) rfl (PVleL_refl _) ?_
        rintro r rfl
        simp only [go_sem, Nat.reduceBEq, List.length_map, natL_len, hlz]
        cases z
        · rw [if_neg Bool.false_ne_true] at hn
          simp only [go_sem, Nat.reduceBEq, wrap_succ (k := j) (by omega)]
          refine ⟨⟨j + 1, hj2, trivial⟩, by simp only; omega, ?_⟩
          simp only [hn]
          exact by simp [Wk, wkT, wkL, look, AV.lo, AV.lo.loL, ABlk.toZ]
        · rw [if_pos rfl] at hn
          simp only [go_sem, Nat.reduceBEq, wrap_succ (k := j) (by omega)]
          refine ⟨⟨j + 1, hj2, trivial⟩, by simp only; omega, ?_⟩
          simp only [hn]
          exact by simp [Wk, wkT, wkL, look, AV.lo, AV.lo.loL, ABlk.toZ]
  · have hjn : j = 2 ^ e := by omega
    subst hjn
    exact retQ_two rfl rfl rfl
end Go.Proofs.Ythaplmohhbdfeaa.Mk
namespace Go.Proofs.Ythaplmohhbdfeaa.Mk
open Go.RowKit Ls
def ac5 : AC := (AC.seq (AC.ops [(AOp.mk (some 1) (AK.box 4 (AX.t 0)) none 0 false true), (AOp.mk (some 2) (AK.mv (AX.c (PV.val (Value.bool false)))) none 1 false true)]) (AC.seq (AC.ops [(AOp.mk (some 10) (AK.ld (some 4) (AX.t 1)) none 0 false true), (AOp.mk (some 11) (AK.call 32 [(AX.t 10)]) none 1 false true), (AOp.mk (some 9) (AK.mv (AX.t 11)) none 2 false true), (AOp.mk (some 12) (AK.ext (AX.t 9) 0) none 3 false true), (AOp.mk (some 13) (AK.ext (AX.t 9) 1) none 4 false true), (AOp.mk (some 3) (AK.mv (AX.t 12)) none 5 false true), (AOp.mk (some 4) (AK.mv (AX.t 13)) none 6 false true)]) (AC.seq (AC.ops [(AOp.mk (some 15) (AK.ld (some 4) (AX.t 1)) none 0 false true), (AOp.mk (some 16) (AK.call 33 [(AX.t 15)]) none 1 false true), (AOp.mk (some 14) (AK.mv (AX.t 16)) none 2 false true), (AOp.mk (some 17) (AK.ext (AX.t 14) 0) none 3 false true), (AOp.mk (some 18) (AK.ext (AX.t 14) 1) none 4 false true), (AOp.mk (some 5) (AK.mv (AX.t 17)) none 5 false true), (AOp.mk (some 6) (AK.mv (AX.t 18)) none 6 false true)]) (AC.seq (AC.seq (AC.ops [(AOp.mk (some 19) (AK.mv (AX.t 3)) none 0 false true), (AOp.mk (some 20) (AK.mv (AX.t 5)) none 1 false true), (AOp.mk (some 21) (AK.bin false BinOp.neq (AX.t 19) (AX.t 20)) none 2 false true), (AOp.mk (some 22) (AK.mv (AX.t 21)) none 3 false true), (AOp.mk (some 23) (AK.mv (AX.t 4)) (some (22, false)) 4 false true), (AOp.mk (some 24) (AK.mv (AX.t 6)) (some (22, false)) 5 false true), (AOp.mk (some 25) (AK.bin false BinOp.neq (AX.t 23) (AX.t 24)) (some (22, false)) 6 false true), (AOp.mk (some 26) (AK.pick (AX.t 22) (AX.c (PV.val (Value.bool true))) (AX.t 25)) none 7 false true)]) (AC.cond (AX.t 26) (AC.seq (AC.ops [(AOp.mk (some 2) (AK.mv (AX.c (PV.val (Value.bool false)))) none 0 false true)]) AC.ret) AC.skip)) (AC.seq (AC.ops [(AOp.mk (some 28) (AK.ld (some 4) (AX.t 1)) none 0 false true), (AOp.mk (some 29) (AK.call 34 [(AX.t 28)]) none 1 false true), (AOp.mk (some 27) (AK.mv (AX.t 29)) none 2 false true), (AOp.mk (some 30) (AK.ext (AX.t 27) 0) none 3 false true), (AOp.mk (some 31) (AK.ext (AX.t 27) 1) none 4 false true), (AOp.mk (some 7) (AK.mv (AX.t 30)) none 5 false true), (AOp.mk (some 4) (AK.mv (AX.t 31)) none 6 false true)]) (AC.seq (AC.ops [(AOp.mk (some 33) (AK.ld (some 4) (AX.t 1)) none 0 false true), (AOp.mk (some 34) (AK.call 35 [(AX.t 33)]) none 1 false true), (AOp.mk (some 32) (AK.mv (AX.t 34)) none 2 false true), (AOp.mk (some 35) (AK.ext (AX.t 32) 0) none 3 false true), (AOp.mk (some 36) (AK.ext (AX.t 32) 1) none 4 false true), (AOp.mk (some 8) (AK.mv (AX.t 35)) none 5 false true), (AOp.mk (some 6) (AK.mv (AX.t 36)) none 6 false true)]) (AC.seq (AC.ops [(AOp.mk (some 37) (AK.mv (AX.t 7)) none 0 false true), (AOp.mk (some 38) (AK.mv (AX.t 8)) none 1 false true), (AOp.mk (some 39) (AK.call 22 [(AX.t 37), (AX.t 38)]) none 2 false true), (AOp.mk (some 40) (AK.mv (AX.t 39)) none 3 false true), (AOp.mk (some 41) (AK.mv (AX.t 4)) (some (40, true)) 4 false true), (AOp.mk (some 42) (AK.mv (AX.t 6)) (some (40, true)) 5 false true), (AOp.mk (some 43) (AK.bin false BinOp.eql (AX.t 41) (AX.t 42)) (some (40, true)) 6 false true), (AOp.mk (some 44) (AK.pick (AX.t 40) (AX.t 43) (AX.c (PV.val (Value.bool false)))) none 7 false true), (AOp.mk (some 45) (AK.mv (AX.t 44)) none 8 false true), (AOp.mk (some 46) (AK.call 27 []) (some (45, true)) 9 false true), (AOp.mk (some 47) (AK.pick (AX.t 45) (AX.t 46) (AX.c (PV.val (Value.bool false)))) none 10 false true), (AOp.mk (some 2) (AK.mv (AX.t 47)) none 11 false true)]) AC.ret)))))))
theorem ac5_ok : cCode Try.prog (fun _ => false) Try.f5.ntmps (Try.f5.body.getD .skip) = some ac5 := by kernel_rfl
theorem lookP_ex (b : MBook) : ∃ l e : Int, (if errR b true = 0 then (if (whoL b).length < 2 then PV.tup [pi 0, pi 4] else .tup [pi (lookN b : Nat), pi 0]) else .tup [pi 0, pi (errR b true)]) = .tup [pi l, pi e] := by
  split
  · split
    · exact ⟨_, _, rfl⟩
    · exact ⟨_, _, rfl⟩
  · exact ⟨_, _, rfl⟩
theorem wrongP_ex (b : MBook) : ∃ (l : List Int) (e : Int), (if errA b true = 0 then PV.tup [pis (wrongI b), pi 0] else .tup [pis [], pi (errA b true)]) = .tup [pis l, pi e] := by
  split
  · exact ⟨_, _, rfl⟩
  · exact ⟨_, _, rfl⟩
set_option maxRecDepth 100000 in
set_option maxHeartbeats 2000000 in
theorem Looks_law (k k2 : SK) (b : MBook) : Sem1 5 [.agg (bookC k k2 b)] (pb true) := by
  have A1 := Look_sem k k2 b
  have A2 := rLook_sem k k2 b
  have B1 := Wrong_sem k k2 b
  have B2 := rWrong_sem k k2 b
  obtain ⟨l, le, el⟩ := lookP_ex b
  obtain ⟨u, ue, eu⟩ := wrongP_ex b
  rw [el] at A1 A2
  rw [eu] at B1 B2
  refine semC_of_exec' mixed Try.func5 (by kernel_rfl) (by kernel_rfl) ac5_ok 1 rfl (by decide) [(.tmp 2)] (by kernel_rfl) ?_
  intro hr C hC hI
  unfold ac5
  simp only [go_sem, Nat.reduceBEq, Nat.reduceAdd]
  refine call_pure2 hC (A1) rfl (PVleL_refl _) ?_
  rintro r rfl
  simp only [go_sem, Nat.reduceBEq, Nat.reduceAdd]
  refine call_pure2 hC (A2) rfl (PVleL_refl _) ?_
  rintro r rfl
  simp only [go_sem, Nat.reduceBEq, Nat.reduceAdd, decide_false, not_true_eq_false]
  refine call_pure2 hC (B1) rfl (PVleL_refl _) ?_
  rintro r rfl
  simp only [go_sem, Nat.reduceBEq, Nat.reduceAdd]
  refine call_pure2 hC (B2) rfl (PVleL_refl _) ?_
  rintro r rfl
  simp only [go_sem, Nat.reduceBEq]
  refine call_pure2 hC (Equal_sem u u) rfl (PVleL_refl _) ?_
  rintro r rfl
  simp only [go_sem, Nat.reduceBEq, decide_true]
  refine call_pure2 hC (marked_sem) rfl (PVleL_refl _) ?_
  rintro r rfl
  simp only [go_sem, Nat.reduceBEq]
  exact retQ_one rfl rfl
set_option maxRecDepth 100000 in
theorem Looks_row {l0 : List PV} (T0 : Ty Try.prog 10 25 l0) : SemC Try.prog 5 [argPV Try.prog 25 l0] (fun r => r = pb true) := by
  obtain ⟨b, rfl⟩ := ty_book T0
  rw [argStruct Try.underlying25]
  exact Looks_law .sh .sh b
end Go.Proofs.Ythaplmohhbdfeaa.Mk
namespace Go.Proofs.Ythaplmohhbdfeaa
open Go.Proofs.Ythaplmohhbdfeaa Go.ChangeShapes Go.WideShapes Go.ChangeAt Go.RowKit Go.Deep

set_option maxRecDepth 100000 in
theorem makerLooks_lifted (os : Os) (started : os.Started) (H : Type) (enc : TypeId × Value → H) :
    ReturnsInHanded {} Try.checked os 5 .any (Rows.makerLooksSpec.pre6 enc Try.prog Try.f5 Rows.makerLooksRow.domain false) (Rows.makerLooksSpec.post enc Try.prog Try.f5 false true false false) := by
  refine returnsInHanded_of_change_sized (C := Try.checked) ownKnobs started (by kernel_rfl) Try.func5
    (ChangeSpec.witness6 (enc := enc) (C := Try.checked) false ⟨#[], #[.agg #[.slice none 0 0, .slice none 0 0, .int .i64 0, .int .i64 0]], []⟩ 8 (by kernel_rfl) (by kernel_rfl) (by kernel_rfl) (by kernel_rfl)) ?_
  intro W base args ds gs before hval0 hW hcnd hsz0 _
  have hval : ∀ (j : Nat) t v, Try.f5.params[j]? = some t → args[j]? = some v → Value.okWide Try.prog W .any base t v := hval0
  have hsz : (DataW.weightsEach Try.prog (Try.f5.params.toList ++ Rows.makerLooksSpec.plain.varTypes Try.prog) (ds ++ gs)).all (· ≤ reachBytes) = true := hsz0
  have hW' := hW
  obtain ⟨p, q, hA0, hV, rfl, hfz, hnd⟩ := hW
  have hA : DataW.TrodAll enc Try.prog W 0 (fun _ => true) true Try.f5.params.toList args.toList ds p := hA0
  rw [Try.params5] at hA hval hsz
  obtain ⟨v0, vs0, d0, ds0, p0, q0, hargs, rfl, rfl, h0, r0⟩ := trodAll_cons hA
  obtain ⟨rfl, rfl, rfl⟩ := trodAll_nil r0
  obtain rfl : args = #[v0] := by cases args; simp_all
  obtain ⟨rfl, rfl⟩ := trodVars_none hV
  have lt0 : ∀ x ∈ p0, x.block < W.heap.size := by obtain ⟨m, hm⟩ := h0; exact DataW.trod_lt m _ _ _ hm
  have z0 : SizedP Try.prog 25 d0 := sizedP_each hsz (j := 0) rfl rfl
  obtain ⟨l0, T0, R0⟩ := rd_arg 10 (by kernel_rfl) (hval 0 25 v0 rfl rfl) h0 z0
  clear hA0 hval0 hsz0
  refine (law_calls (Mk.Looks_row T0) (argsP_cons R0 argsP_nil)).mono fun e W' ⟨he, bel⟩ => ?_
  subst he
  exact ⟨_, rfl, _, _, _, [], _, [], hW', trodAll_mk1 (shut_bool Try.underlying4 _), (trodAll_cons_mk (Below.trod laidOut (by kernel_rfl) (of_decide_eq_true (by kernel_rfl)) h0 bel lt0) trodAll_mk0), rfl, bel.frame _, fun h => by cases h⟩

theorem makerLooks_holds : Rows.MakerLooksSaid :=
  OpenClaim.holds_of_wide 5 Try.f5 rfl rfl rfl rfl rfl rfl rfl ⟨rfl, rfl, rfl, rfl, rfl⟩ rfl rfl rfl rfl rfl (by kernel_rfl) Try.func5 (by kernel_rfl)
    (of_decide_eq_true (by kernel_rfl)) (by unfold Func.isWrapper; first | (rw [if_pos (by decide +kernel)]; kernel_rfl) | (rw [if_neg (by decide +kernel)]; exact ⟨rfl, rfl⟩))
    (fun os started H enc _ => makerLooks_lifted os started H enc)
end Go.Proofs.Ythaplmohhbdfeaa
