/- Maps by their keys. Walks: the answers of a board. -/
import Derived.Test.YtbbolibkheelmaaGa03
import Derived.Maps.Own
import Derived.Test.YtbbolibkheelmaaGa04
namespace Go.Proofs.Ytbbolibkheelmaa
open Go.RowKit

/-- What a key's type owes. -/
structure KeyOk {κ : Type} [DecidableEq κ] (P : Program) (K : TypeId) (enc : κ → Value) : Prop where
  now : ∀ x y d, P.underlying K = some d → Instr.sameNow d (enc x) (enc y) = none
  under : ∃ d, P.underlying K = some d
  eq : ∀ x y w, (Op.equal K (enc x) (enc y)).run P w = .ok (decide (x = y)) w
  check : ∀ e x w, (Instr.checkKey e 10000 K (enc x)).run P w = .ok () w
  bits : ∀ x, Instr.sameBits 10000 (enc x) (enc x) = true

/-- The first entry of a key, and its place. -/
def seek {κ ν : Type} [DecidableEq κ] (k : κ) : List (κ × ν) → Nat → Option (Nat × ν)
  | [], _ => none
  | e :: l, i => if k = e.1 then some (i, e.2) else seek k l (i + 1)
def got {κ ν : Type} [DecidableEq κ] (l : List (κ × ν)) (k : κ) : Option ν := (seek k l 0).map (·.2)

/-- Block b is a map that reads as m. -/
def MapAt {κ ν : Type} [DecidableEq κ] (w : World) (b : Nat) (enc : κ → Value) (encV : ν → Value) (m : κ → Option ν) : Prop :=
  ∃ (es : Array MapEntry) (clock : Nat) (l : List (κ × ν)), w.heap[b]? = some (.map es clock) ∧ es.toList.map (fun e => (e.key, e.val)) = l.map (fun x => (enc x.1, encV x.2)) ∧ ∀ k, m k = got l k

section
variable {κ ν : Type} [DecidableEq κ] {P : Program} {T K E : TypeId} {enc : κ → Value} {encV : ν → Value} {m : κ → Option ν} {w : World} {b : Nat}

theorem seek_shift (k : κ) : ∀ (l : List (κ × ν)) (i : Nat), seek k l i = (seek k l 0).map fun x => (x.1 + i, x.2)
  | [], i => rfl
  | e :: l, i => by
    unfold seek
    by_cases h : k = e.1
    · simp [h]
    · rw [if_neg h, if_neg h, seek_shift k l (i + 1), seek_shift k l (0 + 1)]
      cases seek k l 0 <;> simp; omega

theorem run_findAsking (hK : KeyOk P K enc) (k : κ) : ∀ (es : List MapEntry) (l : List (κ × ν)) (i : Nat) (w : World), es.map (fun e => (e.key, e.val)) = l.map (fun x => (enc x.1, encV x.2)) →
    (Instr.findAsking K (enc k) es i).run P w = .ok ((seek k l i).map fun x => (x.1, encV x.2)) w
  | [], l, i, w, h => by
    have : l = [] := by simpa using h.symm
    subst this
    simp [Instr.findAsking, seek]
  | e :: es, [], i, w, h => by simp at h
  | e :: es, x :: l, i, w, h => by
    simp only [List.map_cons, List.cons.injEq, Prod.mk.injEq] at h
    obtain ⟨⟨h1, h2⟩, h3⟩ := h
    simp only [Instr.findAsking, Sem.run_bind, h1, hK.eq, Result.andThen_ok]
    by_cases e' : k = x.1
    · subst e'; simp [seek, h2]
    · simp only [decide_eq_false e', Bool.false_eq_true, if_false, seek, if_neg e']
      exact run_findAsking hK k es l (i + 1) w h3

theorem run_findKey (hK : KeyOk P K enc) (k : κ) (es : List MapEntry) (l : List (κ × ν)) (w : World) (h : es.map (fun e => (e.key, e.val)) = l.map (fun x => (enc x.1, encV x.2))) :
    (Instr.findKey K (enc k) es).run P w = .ok ((seek k l 0).map fun x => (x.1, encV x.2)) w := by
  obtain ⟨d, hd⟩ := hK.under
  simp only [Instr.findKey, Sem.run_bind, run_underlying hd, Result.andThen_ok]
  cases es with
  | nil =>
    have : l = [] := by simpa using h.symm
    subst this
    simp [Instr.findNow, seek]
  | cons e es =>
    cases l with
    | nil => simp at h
    | cons x l =>
      have h1 : e.key = enc x.1 := by simp only [List.map_cons, List.cons.injEq, Prod.mk.injEq] at h; exact h.1.1
      have : Instr.findNow d (enc k) (e :: es) 0 = none := by simp only [Instr.findNow, h1, hK.now _ _ _ hd]
      rw [this]
      exact run_findAsking hK k _ _ 0 w h

/-- A lookup. -/
theorem run_lookup (hK : KeyOk P K enc) (hT : P.underlying T = some (.map K E)) {z : Value} (hz : ∀ w, (zeroValue E).run P w = .ok z w) (h : MapAt w b enc encV m) (k : κ) (ok : Bool) :
    (Instr.lookup T (.map (some b)) (enc k) ok).run P w = .ok (if ok then .tuple #[((m k).map encV).getD z, .bool (m k).isSome] else ((m k).map encV).getD z) w := by
  obtain ⟨es, clock, l, hb, hl, hm⟩ := h
  have hg : (getObj b).run P w = .ok (.map es clock) w := by simp [getObj, Sem.run, hb]
  rw [hm k]
  unfold got
  simp only [Instr.lookup, Sem.run_bind, run_underlying hT, Result.andThen_ok, hg, Sem.run_pure, hK.check, run_findKey hK k _ l w hl]
  cases hs : seek k l 0 with
  | none => cases ok <;> simp [hz]
  | some x => cases ok <;> simp

def setKey (m : κ → Option ν) (k : κ) (v : ν) : κ → Option ν := fun x => if x = k then some v else m x

theorem seek_lt {k : κ} : ∀ {l : List (κ × ν)} {i : Nat} {x : Nat × ν}, seek k l i = some x → i ≤ x.1 ∧ x.1 < i + l.length
  | [], _, _, h => by cases h
  | e :: l, i, x, h => by
    unfold seek at h
    split at h
    · cases h; simp
    · have := seek_lt h; simp only [List.length_cons]; omega

theorem got_push {l : List (κ × ν)} {k : κ} {v : ν} (h : seek k l 0 = none) (x : κ) : got (l ++ [(k, v)]) x = if x = k then some v else got l x := by
  have key : ∀ (l : List (κ × ν)) (i : Nat), seek k l i = none → (seek x (l ++ [(k, v)]) i).map (·.2) = if x = k then some v else (seek x l i).map (·.2) := by
    intro l
    induction l with
    | nil => intro i _; simp only [List.nil_append, seek]; split <;> simp
    | cons e l ih =>
      intro i hn
      unfold seek at hn
      split at hn
      · cases hn
      · rename_i hk
        simp only [List.cons_append, seek]
        by_cases hx : x = e.1
        · have : x ≠ k := fun h => hk (h ▸ hx)
          simp [hx] at this ⊢
          simp [this]
        · rw [if_neg hx, if_neg hx]; exact ih (i + 1) hn
  exact key l 0 h

theorem got_set {k : κ} {v : ν} (x : κ) : ∀ {l : List (κ × ν)} {i j : Nat} {y : ν}, seek k l i = some (j + i, y) → (seek x (l.set j (k, v)) i).map (·.2) = if x = k then some v else (seek x l i).map (·.2)
  | [], _, _, _, h => by cases h
  | e :: l, i, j, y, h => by
    unfold seek at h
    split at h
    · rename_i hk
      have hj : j = 0 := by simp at h; omega
      subst hj
      simp only [List.set_cons_zero, seek]
      by_cases hx : x = k
      · simp [hx]
      · rw [if_neg hx, if_neg hx, if_neg (fun h => hx (h.trans hk.symm))]
    · rename_i hk
      have hlt := (seek_lt h).1
      obtain ⟨j', rfl⟩ : ∃ j', j = j' + 1 := ⟨j - 1, by simp only at hlt; omega⟩
      simp only [List.set_cons_succ, seek]
      by_cases hx : x = e.1
      · have : x ≠ k := fun h => hk (h ▸ hx)
        rw [if_pos hx, if_pos hx, if_neg this]
      · rw [if_neg hx, if_neg hx]
        exact got_set x (i := i + 1) (j := j') (by rw [h]; congr 2; omega)

/-- A store. -/
theorem run_update (hK : KeyOk P K enc) (hT : P.underlying T = some (.map K E)) (h : MapAt w b enc encV m) (k : κ) (v : ν) :
    ∃ w', (Instr.mapUpdate T (.map (some b)) (enc k) (encV v)).run P w = .ok () w' ∧ MapAt w' b enc encV (setKey m k v) ∧ SameBut (fun i => i = b) w w' := by
  obtain ⟨es, clock, l, hb, hl, hm⟩ := h
  have hlt : b < w.heap.size := (Array.getElem?_eq_some_iff.1 hb).1
  have hg : (getObj b).run P w = .ok (.map es clock) w := by simp [getObj, Sem.run, hb]
  have hset : ∀ o, (setObj b o).run P w = .ok () (w.putObj b o) := fun o => by simp [setObj, Sem.run, hb, World.putObj]
  have hsame : ∀ o, SameBut (fun i => i = b) w (w.putObj b o) := fun o => same_put (SameBut.refl _ w) o (.inl rfl)
  simp only [Instr.mapUpdate, Sem.run_bind, run_underlying hT, Result.andThen_ok, hg, hK.check, run_findKey hK k _ l w hl]
  cases hs : seek k l 0 with
  | none =>
    refine ⟨_, by simp only [Option.map_none]; exact hset _, ⟨_, _, l ++ [(k, v)], World.putObj_heap_same hlt, ?_, fun x => ?_⟩, hsame _⟩
    · simp [hl]
    · unfold setKey; rw [got_push hs x, hm]
  | some y =>
    obtain ⟨j, y⟩ := y
    have hj := (seek_lt hs).2
    have hes : es.size = l.length := by have := congrArg List.length hl; simpa using this
    have hjs : j < es.size := by simp only at hj; omega
    have hkey : (es[j]'hjs).key = enc k := by
      have h1 : (es.toList.map (fun e => (e.key, e.val)))[j]? = some ((es[j]'hjs).key, (es[j]'hjs).val) := by simp [hjs]
      rw [hl] at h1
      have key : ∀ (l : List (κ × ν)) (i j : Nat) (y : ν), seek k l i = some (j + i, y) → (l[j]?).map (·.1) = some k := by
        intro l
        induction l with
        | nil => intro i j y h; cases h
        | cons e l ih =>
          intro i j y h
          unfold seek at h
          split at h
          · rename_i hk
            have : j = 0 := by simp at h; omega
            subst this; simp [hk]
          · have hlt := (seek_lt h).1
            obtain ⟨j', rfl⟩ : ∃ j', j = j' + 1 := ⟨j - 1, by simp only at hlt; omega⟩
            simp only [List.getElem?_cons_succ]
            exact ih (i + 1) j' y (by rw [h]; congr 2; omega)
      have h2 := key l 0 j y hs
      rw [List.getElem?_map] at h1
      cases hlj : l[j]? with
      | none => rw [hlj] at h2; cases h2
      | some x =>
        rw [hlj] at h1 h2
        simp only [Option.map_some, Option.some.injEq, Prod.mk.injEq] at h1 h2
        rw [← h1.1, h2]
    have hstay : ∀ w, (Instr.keyThatStays (((es[j]?).map (·.key)).getD (enc k)) (enc k)).run P w = .ok (enc k) w := fun w => by
      rw [Array.getElem?_eq_getElem hjs]
      simp [Instr.keyThatStays, hkey, hK.bits]
    refine ⟨_, by simp only [Option.map_some, Sem.run_bind, hstay, Result.andThen_ok]; exact hset _, ⟨_, _, l.set j (k, v), World.putObj_heap_same hlt, ?_, fun x => ?_⟩, hsame _⟩
    · rw [Array.toList_modify, List.map_set, ← hl]
      apply List.ext_getElem?
      intro i
      rw [List.getElem?_map, List.getElem?_modify, List.getElem?_set, List.getElem?_map]
      by_cases hij : j = i
      · subst hij; simp [hjs]
      · simp [hij]
    · unfold setKey; rw [hm]; exact (got_set x (i := 0) (j := j) (v := v) hs).symm

theorem MapAt.same {M : Nat → Prop} {w' : World} (h : MapAt w b enc encV m) (hs : SameBut M w w') (hm : ¬ M b) : MapAt w' b enc encV m := by
  obtain ⟨es, clock, l, hb, hl, hm'⟩ := h
  exact ⟨es, clock, l, by rw [hs.block b (Array.getElem?_eq_some_iff.1 hb).1 hm]; exact hb, hl, hm'⟩
theorem MapAt.calm {B : Nat} {w' : World} (h : MapAt w b enc encV m) (hs : Calm B w w') : MapAt w' b enc encV m := by
  obtain ⟨es, clock, l, hb, hl, hm'⟩ := h
  exact ⟨es, clock, l, hs.block b _ hb (.inr rfl), hl, hm'⟩
theorem MapAt.lt (h : MapAt w b enc encV m) : b < w.heap.size := by
  obtain ⟨es, clock, l, hb, _⟩ := h; exact (Array.getElem?_eq_some_iff.1 hb).1
theorem MapAt.congr {m' : κ → Option ν} (h : MapAt w b enc encV m) (e : ∀ k, m k = m' k) : MapAt w b enc encV m' := by
  obtain ⟨es, clock, l, hb, hl, hm'⟩ := h; exact ⟨es, clock, l, hb, hl, fun k => by rw [← e, hm']⟩
theorem MapAt.new (w : World) : MapAt (w.alloc (.map #[] 0)) w.heap.size enc encV (fun _ => none) :=
  ⟨#[], 0, [], World.alloc_heap_new w _, rfl, fun _ => rfl⟩
end
end Go.Proofs.Ytbbolibkheelmaa
namespace Go.Proofs.Ytbbolibkheelmaa
open Go.RowKit Go.Shelf

attribute [local go_sem] Oper.semAt_some

abbrev placeK (k : Int × Int) : Value := .agg #[.int .i64 k.1, .int .i64 k.2]
abbrev intV (n : Int) : Value := .int .i64 n
theorem placeUnder : ∃ d, Try.prog.underlying 89 = some d := by
  have h : (Try.prog.underlying 89).isSome = true := by kernel_rfl
  exact Option.isSome_iff_exists.1 h
set_option maxRecDepth 100000 in
theorem placeEq (x y : Int × Int) (w : World) : (Op.equal 89 (placeK x) (placeK y)).run Try.prog w = .ok (decide (x = y)) w := by
  obtain ⟨a, b⟩ := x
  obtain ⟨c, d⟩ := y
  have h : (Op.equal 89 (placeK (a, b)) (placeK (c, d))).run Try.prog w = .ok (a == c && b == d) w := by
    unfold Op.equal Op.maxDepth
    simp [go_sem]
    by_cases h1 : a = c <;> by_cases h2 : b = d <;> simp [h1, h2]
  rw [h]; congr 1
  rw [Bool.eq_iff_iff]; simp
theorem placeOk : KeyOk Try.prog 89 placeK where
  now x y d _ := by cases d <;> rfl
  under := placeUnder
  eq := placeEq
  check e x w := by cases e <;> kernel_rfl
  bits x := by simp [Instr.sameBits]
theorem ansUnder : Try.prog.underlying 84 = some (.map 89 3) := by kernel_rfl
theorem zeroInt (w : World) : (zeroValue 3).run Try.prog w = .ok (intV 0) w := by kernel_rfl

/-- What one verdict notes. -/
def judgeStep (p : Nat) (x : Shape) (knots : List (Int × Int)) (sp : Int × Int → (Nat → Bool) → Bool) (ans : Int) (m : Int × Int → Option Int) (y : Nat × Bool) : Int × Int → Option Int :=
  if anyB knots.length (fun i => sp (gp knots i) (lyJoints x y)) then m else setKey m ((p : Int), (y.1 : Int)) ans

set_option maxRecDepth 100000 in
set_option maxHeartbeats 2000000 in
theorem judge_any {B : Nat} {x : Wood} {kv : Value} {sa : Option Addr} {sn sc : Nat} {ps : List Shape} {p : Nat} {w : World} (hB : B ≤ w.heap.size) (hk : KnotsV B w kv x) (hs : ShapesAt B w sa sn ps) (hp : p < sn)
    (hl0 : 0 ≤ x.long) (hl1 : x.long ≤ 16) (hx0 : 1 ≤ (gs ps p).long) (hx1 : (gs ps p).long ≤ 12) (hJi : JointsIn (gs ps p)) (hKn : ∀ i, i < x.knots.length → Knot (gp x.knots i))
    {mb : Nat} {m : Int × Int → Option Int} (hm : MapAt w mb placeK intV m) (hmB : B ≤ mb) {ans : Int} {fsp : Nat} (sp : Int × Int → (Nat → Bool) → Bool)
    (hsp : ∀ (k : Int × Int) (M : Nat → Bool) (w : World), Knot k → Calls Try.prog fsp #[.agg #[.int .i64 k.1, .int .i64 k.2], .agg (encIn M)] w fun e w' => e = .returned (.bool (sp k M)) ∧ Below w.heap.size w w') 
    (hent : ∀ args w, (callFunc fsp args).run Try.prog w = .ok (.enter fsp args) w) :
    Calls Try.prog 96 #[.agg #[.int .i64 x.long, kv, .slice sa sn sc, .map (some mb)], .int .i64 p, .agg #[.int .i64 ans, .func (.func fsp) #[] #[]]] w fun e w' => e = .returned (.tuple #[]) ∧
      MapAt w' mb placeK intV ((lyList (many x.long (gs ps p).long) (gs ps p).turns).foldl (judgeStep p (gs ps p) x.knots sp ans) m) ∧ SameBut (fun i => i = mb) w w' := by
  refine (callsIn_wide (n := 0)).1 ?_
  have hO := open_wide
  refine callsIn_of_wp_marks Try.func96 rfl trivial ?_ rfl
  simp only [Try.ntmps96, List.size_toArray, List.length_cons, List.length_nil, Nat.reduceAdd, Nat.reduceSub, Array.replicate_succ, Array.replicate_zero, List.push_toArray, List.append_toArray, List.nil_append, List.cons_append]
  gi_wp2
  refine (wpIn_wide (n := 0)).2 (wp_scope_straight ((wpIn_wide (n := 0)).1 ?_))
  apply wpIn_seq
  apply wpIn_label
  obtain ⟨F, hFF⟩ : ∃ F, F = Fence.wide := ⟨_, rfl⟩
  rw [← hFF] at hO ⊢
  have hro : F.round = none := by rw [hFF]; rfl
  clear hFF
  have hF := hO.fn
  have hd := hO.depth
  gi_wp2_with (gi_at_call 118; refine (hO.calls lyings_any).mono ?_; rintro e w' ⟨rfl, rfl⟩)
  obtain ⟨W2, hW2⟩ : ∃ W2, W2 = ((((w.alloc (.cells #[.int .i64 x.long, kv, .slice sa sn sc, .map (some mb)] 86)).alloc (.cells #[.int .i64 ans, .func (.func fsp) #[] #[]] 134)).alloc (.cells #[.int .i64 x.long, kv, .slice sa sn sc, .map (some mb)] 86)).alloc (.cells #[.int .i64 p] 3)) := ⟨_, rfl⟩
  have hS2 : SameBut (fun _ => False) w W2 := by rw [hW2]; exact ((((SameBut.refl _ w).alloc _).alloc _).alloc _).alloc _
  have hsz2 : W2.heap.size = w.heap.size + 4 := by rw [hW2]; simp
  have b0 : Blk W2 w.heap.size #[.int .i64 x.long, kv, .slice sa sn sc, .map (some mb)] := by rw [hW2]; exact (((Blk.new w _ _).alloc _).alloc _).alloc _
  have b1 : Blk W2 (w.heap.size + 1) #[.int .i64 ans, .func (.func fsp) #[] #[]] := by
    rw [hW2]
    have := ((Blk.new (w.alloc (.cells #[.int .i64 x.long, kv, .slice sa sn sc, .map (some mb)] 86)) #[.int .i64 ans, .func (.func fsp) #[] #[]] 134).alloc (.cells #[.int .i64 x.long, kv, .slice sa sn sc, .map (some mb)] 86)).alloc (.cells #[.int .i64 p] 3)
    simp only [World.size_alloc] at this
    exact this
  have b2 : Blk W2 (w.heap.size + 2) #[.int .i64 x.long, kv, .slice sa sn sc, .map (some mb)] := by
    rw [hW2]
    have := (Blk.new ((w.alloc (.cells #[.int .i64 x.long, kv, .slice sa sn sc, .map (some mb)] 86)).alloc (.cells #[.int .i64 ans, .func (.func fsp) #[] #[]] 134)) #[.int .i64 x.long, kv, .slice sa sn sc, .map (some mb)] 86).alloc (.cells #[.int .i64 p] 3)
    simp only [World.size_alloc] at this
    exact this
  have b3 : Blk W2 (w.heap.size + 3) #[.int .i64 p] := by
    rw [hW2]
    have := Blk.new (((w.alloc (.cells #[.int .i64 x.long, kv, .slice sa sn sc, .map (some mb)] 86)).alloc (.cells #[.int .i64 ans, .func (.func fsp) #[] #[]] 134)).alloc (.cells #[.int .i64 x.long, kv, .slice sa sn sc, .map (some mb)] 86)) #[.int .i64 p] 3
    simp only [World.size_alloc] at this
    exact this
  rw [← hW2]
  clear hW2
  have hm2 := hm.same hS2 (fun e => e)
  have hmlt := hm.lt
  have hs2 : ShapesAt B W2 sa sn ps := hs.keep (Nat.le_refl _) (fun b o hb => hS2.cell (by omega) (fun e => e))
  refine wpIn_range hO hro (gf := 129) (lb := #[.pointer (some ⟨w.heap.size + 1 + 1, 0, none⟩), .pointer (some ⟨w.heap.size + 1 + 1 + 1, 0, none⟩)]) rfl (enters_of Try.func129 (by kernel_rfl) rfl)
    (lyings_seq hO hro b2 b3 (Bd := B) (by omega) hs2 hp hl0 hl1 hx0 hx1 hJi) (fun _ => rfl) (fun k => k = mb) (fun k hk => by have hk' : k = mb := hk; omega)
    (fun k hk => by
      have hk' : k = w.heap.size + 2 ∨ k = w.heap.size + 3 ∨ k < B := hk
      exact ⟨by omega, fun e => by have e' : k = mb := e; omega⟩)
    (fun pre Wc => MapAt Wc mb placeK intV (pre.foldl (judgeStep p (gs ps p) x.knots sp ans) m) ∧ SameBut (fun k => k = mb) W2 Wc)
    (fun _ _ _ => False)
    ?hI ?hIx ⟨hm2, SameBut.refl _ _⟩
    (fun y a' Wc => ∃ bp bj, (Blk Wc bp #[.int .i64 p, .int .i64 y.1] ∧ bp ≠ mb ∧ Blk Wc bj (encIn (lyJoints (gs ps p) y)) ∧ bj ≠ mb) ∧ a' = { tmps := #[.agg #[.int .i64 x.long, kv, .slice sa sn sc, .map (some mb)], .int .i64 p, .agg #[.int .i64 ans, .func (.func fsp) #[] #[]], .pointer (some ⟨w.heap.size, 0, none⟩), undef, .pointer (some ⟨w.heap.size + 1, 0, none⟩), .pointer (some ⟨bp, 0, none⟩), .pointer (some ⟨bj, 0, none⟩), undef, undef,
      .agg #[.int .i64 x.long, kv, .slice sa sn sc, .map (some mb)], .int .i64 p, .func (.func 129) #[] #[.pointer (some ⟨w.heap.size + 1 + 1, 0, none⟩), .pointer (some ⟨w.heap.size + 1 + 1 + 1, 0, none⟩)], placeV p y.1, .agg (encIn (lyJoints (gs ps p) y)), undef, undef, undef, undef, undef, undef, undef, undef, undef, undef, undef, undef, undef, undef, undef, undef, undef, undef, undef], defers := [] })
    ?hAx ?assign ?body ?done ?stop
  case hI => exact Stable.and (fun s X Y h hc => h.calm hc) (stable_same (Nat.le_refl _))
  case hIx => exact fun c s X Y h _ => h
  case hAx =>
    rintro y a' u X Y ⟨bp, bj, ⟨h1, h2, h3, h4⟩, ha⟩ hc
    exact ⟨bp, bj, ⟨h1.calm hc, h2, h3.calm hc, h4⟩, ha⟩
  case assign =>
    rintro l2 pre y Wc K hpre ⟨hj, hsb⟩ hK
    rw [show lyEnc p (gs ps p) y = #[placeV p y.1, .agg (encIn (lyJoints (gs ps p) y))] from rfl]
    gi_wp2
    have hszc := hsb.size
    refine hK _ _ ?_ ⟨hj.calm (B := 0) ?_, ?_⟩ ⟨Wc.heap.size, Wc.heap.size + 1, ⟨?_, by omega, ?_, by omega⟩, rfl⟩
    · exact (((SameBut.refl _ Wc).alloc _).alloc _).setRow (.inr (Nat.le_succ _)) _
    · exact (((((SameBut.refl (fun _ => False) Wc).alloc _).alloc _).setRow (.inr (Nat.le_succ _)) _)).calm 0
    · exact (((hsb.alloc _).alloc _).setRow (.inr (by omega)) _)
    · obtain ⟨t, ht⟩ := (Blk.new Wc #[.int .i64 p, .int .i64 y.1] 89).alloc (.cells #[.bool false, .bool false, .bool false, .bool false, .bool false, .bool false, .bool false, .bool false, .bool false, .bool false, .bool false, .bool false, .bool false, .bool false, .bool false, .bool false] 142)
      exact ⟨t, by rw [setRow_other _ _ _ _ (by omega)]; exact ht⟩
    · have := InBlk.new (Wc.alloc (.cells #[.int .i64 p, .int .i64 y.1] 89)) (fun _ => false) 142
      rw [World.size_alloc] at this
      obtain ⟨t, ht⟩ := this.row (lyJoints (gs ps p) y)
      exact ⟨t, ht⟩
  case body =>
    rintro l2 pre y a' Wc hpre hl2 hrec ⟨hj, hsb⟩ ⟨bp, bj, ⟨hbp, hnp, hbj, hnj⟩, rfl⟩
    have hO2 := hO.inRound l2
    have hd2 : (F.inRound l2).depth = none := hd
    have hF2 : ∀ f, (F.inRound l2).fn f := hF
    have hsz := hsb.size
    obtain ⟨ka, kn, kc, rfl, hks⟩ := hk
    have kb0 := b0.same hsb (by show ¬ w.heap.size = mb; omega)
    have kb1 := b1.same hsb (by show ¬ w.heap.size + 1 = mb; omega)
    have hks1 : SpansAt B Wc ka kn x.knots := hks.keep (Nat.le_refl _) (fun b o hb => (hS2.mono (fun _ h => h.elim) |>.trans hsb).cell (by omega) (by show ¬ b = mb; omega))
    have e01 := kb0.cell (i := 1)
    have hbpl := hbp.lt
    have hbjl := hbj.lt
    gi_wp2
    gi_loopw [19] (fun i wr => ∃ k : Nat, k ≤ kn ∧ i = .int .i64 k ∧ SameBut (fun _ => False) Wc wr ∧ anyB k (fun i => sp (gp x.knots i) (lyJoints (gs ps p) y)) = false) (fun i _ => (kn - intOf i).toNat)
    case atStart => exact ⟨0, by omega, rfl, SameBut.refl _ _, rfl⟩
    case round =>
      obtain ⟨k, hkn, rfl, hsr, hno⟩ := hrel
      have hsr' : SameBut (fun k => k = mb) Wc wr := hsr.mono (fun _ h => h.elim)
      have hszr := hsr.size
      have hsmall := hks.small
      have q1 : wr.cell? ⟨w.heap.size + 1, 1, none⟩ = some (.func (.func fsp) #[] #[]) := (kb1.same hsr (fun e => e)).cell
      have qp0 : wr.cell? ⟨bp, 0, none⟩ = some (.int .i64 p) := (hbp.same hsr (fun e => e)).cell
      have qp1 : wr.cell? ⟨bp, 1, none⟩ = some (.int .i64 y.1) := (hbp.same hsr (fun e => e)).cell
      have qa : wr.cell? ⟨w.heap.size + 1, 0, none⟩ = some (.int .i64 ans) := (kb1.same hsr (fun e => e)).cell
      have qb3 : wr.cell? ⟨w.heap.size, 3, none⟩ = some (.map (some mb)) := (kb0.same hsr (fun e => e)).cell
      have l0 : w.heap.size < wr.heap.size := by omega
      have l0' : w.heap.size < wr.heap.size + 1 := by omega
      have l1 : w.heap.size + 1 < wr.heap.size := by omega
      have l1' : w.heap.size + 1 < wr.heap.size + 1 := by omega
      have lj : bj < wr.heap.size := by omega
      have lj' : bj < wr.heap.size + 1 := by omega
      by_cases hlt : k < kn
      · obtain ⟨kbk, ko, rfl, hkB, hkc⟩ := hks1.get k hlt
        obtain ⟨c0, c1, i0, i1⟩ := hkc k hlt
        clear hkc
        have hkw : kbk < Wc.heap.size := by omega
        have r0 : wr.cell? ⟨kbk, ko + k * 2, none⟩ = some (.int .i64 (gp x.knots k).1) := (hsr.cell hkw (fun e => e)).trans c0
        have r1 : wr.cell? ⟨kbk, ko + k * 2 + 1, none⟩ = some (.int .i64 (gp x.knots k).2) := (hsr.cell hkw (fun e => e)).trans c1
        have hKk : Knot (gp x.knots k) := hKn k (by rw [hks.len]; omega)
        clear c0 c1
        have hrj : rowOf wr bj = encIn (lyJoints (gs ps p) y) := by
          obtain ⟨t, ht⟩ := hbj.same hsr (fun e => e)
          simp [rowOf, ht]
        gi_wp2
        refine (hO2.calls (hsp (gp x.knots k) (lyJoints (gs ps p) y) _ hKk)).mono ?_
        rintro e w3 ⟨rfl, hb3⟩
        have hs3 : SameBut (fun _ => False) Wc w3 := (hsr.alloc _).below hb3
        clear hb3
        by_cases hh : sp (gp x.knots k) (lyJoints (gs ps p) y) = true
        · have hh' := Lib.hid hh
          rw [hh]
          gi_wp2
          have hsM : SameBut (fun k => k = mb) Wc w3 := hs3.mono (fun _ h => h.elim)
          refine ⟨hsM, ?_, hsb.trans hsM⟩
          rw [List.foldl_append]
          have hany : anyB x.knots.length (fun i => sp (gp x.knots i) (lyJoints (gs ps p) y)) = true := anyB_iff.2 ⟨k, by rw [hks.len]; exact hlt, hh'.out⟩
          have hstep : judgeStep p (gs ps p) x.knots sp ans (pre.foldl (judgeStep p (gs ps p) x.knots sp ans) m) y = pre.foldl (judgeStep p (gs ps p) x.knots sp ans) m := by
            unfold judgeStep; rw [if_pos hany]
          show MapAt w3 mb placeK intV (judgeStep p (gs ps p) x.knots sp ans _ y)
          rw [hstep]
          exact hj.same hs3 (fun e => e)
        · have hh2 : sp (gp x.knots k) (lyJoints (gs ps p) y) = false := by simpa using hh
          have hno' : anyB (k + 1) (fun i => sp (gp x.knots i) (lyJoints (gs ps p) y)) = false := by simp [anyB, hno, hh2]
          rw [hh2]
          clear hh hh2
          gi_wp2
          go_roundw
          case rel => exact ⟨k + 1, by omega, rfl, hs3, hno'⟩
          case measure => simp [intOf]; omega
      · obtain rfl : k = kn := by omega
        obtain ⟨wU, hU, hmU, hsU⟩ := run_update (T := 84) placeOk ansUnder (hj.same hsr (fun e => e)) ((p : Int), (y.1 : Int)) ans
        simp only [placeK, intV] at hU
        clear hks1
        gi_wp2
        have hsM : SameBut (fun k => k = mb) Wc wU := hsr'.trans hsU
        refine ⟨hsM, ?_, hsb.trans hsM⟩
        rw [List.foldl_append]
        have hstep : judgeStep p (gs ps p) x.knots sp ans (pre.foldl (judgeStep p (gs ps p) x.knots sp ans) m) y = setKey (pre.foldl (judgeStep p (gs ps p) x.knots sp ans) m) ((p : Int), (y.1 : Int)) ans := by
          unfold judgeStep; rw [hks.len, hno]; rfl
        show MapAt wU mb placeK intV (judgeStep p (gs ps p) x.knots sp ans _ y)
        rw [hstep]
        exact hmU
  case done =>
    rintro Wc ⟨hj, hsb⟩ hD
    gi_wp2
    refine (show bodyPostM Fence.wide 0 Try.prog Try.f96 _ .normal _ _ from ?_)
    refine ⟨by simp, .inl ⟨_, _, rfl, run_takeDeferred hD, ?_⟩⟩
    have hc := calm_put (B := 0) (W := Wc) (.deferred none) hD (by omega) rfl
    refine ⟨_, results_none rfl _ _ _, rfl, hj.calm hc, ?_⟩
    exact (same_put ((hS2.mono (fun _ h => h.elim)).trans hsb) _ (.inr (by omega)))
  case stop => exact fun c pre W _ h => h.elim

end Go.Proofs.Ytbbolibkheelmaa
