/- Operations that only compute or read are sound. Operations that only compute or read are sound, further: numbers, slices, aggregates. Operations that only compute or read are sound: the rest of them, and all of them. Slices of slices are sound. Structs, arrays and slices laid out of parts. -/
import Derived.Test.YtlbolnlcncjijaaGreatGa03
import Derived.Laws.Bits
import Derived.Great.BuildSlice
namespace Go.Proofs.YtlbolnlcncjijaaGreat
open Go.RowKit

def StillOk (P : Program) (g : GP) (rho : List Nat) (rd : List Nat) (w : World) (a : Act) (o : Oper) (av : AV) : Prop :=
  ∃ v, Rel g rho av v ∧ ∀ w', Agree g w' → (∀ id ∈ rd, ∀ b, rho[id]? = some b → w'.heap[b]? = w.heap[b]?) → (execOp a.eval o).run P w' = .ok (.value v) w'

def Tmps (g : GP) (rho : List Nat) (s : AS) (a : Act) : Prop := ∀ j, Rel g rho (look s.t j) (a.tmps.getD j undef)

section
variable {P : Program} {g : GP} {rho : List Nat} {w : World} {s : AS} {a : Act} {o : Oper} {av : AV}

theorem run_v {m : Sem Value} {v : Value} {w : World} (h : m.run P w = .ok v w) : (do pure (Next.value (← m)) : Sem Next).run P w = .ok (.value v) w := by
  rw [Sem.run_bind, h]; rfl

theorem still_mv {x : Operand} (hop : o.op = .move x ∨ o.op = .assign x) {y : AX} (hy : cx x = some y) (hT : Tmps g rho s a) : StillOk P g rho [] w a o (y.ev s) :=
  ⟨a.eval x, cx_rel hT hy, fun w' _ _ => by rcases hop with hop | hop <;> simp [execOp, hop]⟩

theorem still_pick {c x y : Operand} (hop : o.op = .pick c x y) {c' x' y' : AX} (hc : cx c = some c') (hx : cx x = some x') (hy : cx y = some y') (hT : Tmps g rho s a) (h : stillV s (.pick c' x' y') = some av) : StillOk P g rho [] w a o av := by
  simp only [stillV] at h
  split at h
  · rename_i t ht
    have h0 := cx_rel hT hc
    rw [ht] at h0
    obtain ⟨e, _⟩ := rel_val h0
    simp only [Option.some.injEq] at h
    subst h
    refine ⟨if t then a.eval x else a.eval y, ?_, fun w' _ _ => ?_⟩
    · cases t
      · exact cx_rel hT hy
      · exact cx_rel hT hx
    · cases t <;> simp [execOp, hop, e, asBool]
  · cases h

theorem still_ld {t : TypeId} {x : Operand} (hop : o.op = .load t x) {n : Option Nat} {y : AX} (hn : shapeN P t = some n) (hy : cx x = some y) (hT : Tmps g rho s a) (_ : Agree g w) (hL : LocAt g rho w s.loc) (h : stillV s (.ld n y) = some av) : StillOk P g rho (rdOf s (.ld n y)) w a o av := by
  have h0 := cx_rel hT hy
  simp only [stillV] at h
  split at h
  · rename_i cs off he
    rw [he] at h0
    cases h0 with
    | p h0 =>
      generalize hv0 : a.eval x = v0 at h0
      cases h0 with
      | ptr _ _ b o' f hat hh =>
        rw [Option.map_eq_some_iff] at h
        obtain ⟨u, hu, rfl⟩ := h
        obtain ⟨hlen, hrel⟩ := partP_rel (f := f) hh (fun j hj => (hat j hj).2) hu
        refine ⟨_, .p hrel, fun w' hA' _ => ?_⟩
        simp only [execOp, hop]
        refine run_v ?_
        rw [hv0]
        exact run_loadN hn b (o' + off) (fun j => f (off + j)) w' (fun j hj => by rw [Nat.add_assoc]; exact (hA'.cel (hat (off + j) (by omega))).1)
  · rename_i id off he
    rw [he] at h0
    generalize hv0 : a.eval x = v0 at h0
    cases h0 with
    | loc hb =>
      rename_i b
      split at h
      · rename_i cs hcs
        obtain ⟨vs, us, ty, hblk, hr⟩ := hL id _ b hcs hb
        obtain ⟨hfn, hf1⟩ := hr.fn
        obtain ⟨hlen, hrel⟩ := partA_rel hfn hf1 h
        refine ⟨_, hrel, fun w' hA' hk => ?_⟩
        have hblk' : w'.heap[b]? = some (.cells (vs ++ us).toArray ty (0, 0)) := by rw [hk id (by simp [rdOf, he, hcs]) b hb]; exact hblk
        simp only [execOp, hop]
        refine run_v ?_
        rw [hv0]
        refine run_loadN hn b off (fun j => vs.getD (off + j) undef) w' (fun j hj => ?_)
        rw [cell_of_row w' b _ _ ty _ hblk']
        have hlt : off + j < vs.length := by rw [← hr.len]; omega
        rw [List.getElem?_toArray, List.getElem?_append_left hlt]
        simp [List.getD_eq_getElem?_getD, List.getElem?_eq_getElem hlt]
      · rename_i cs hcs
        obtain ⟨f, hf⟩ := hL id _ b hcs hb
        rw [Option.map_eq_some_iff] at h
        obtain ⟨u, hu, rfl⟩ := h
        have hget : ∀ j, j < cs.length → g.cel b j (f j) := fun j hj => (hf j _ (List.getElem?_eq_getElem hj)).1
        obtain ⟨hlen, hrel⟩ := partP_rel (f := f) (fun j x hx => (hf j x hx).2) (fun j hj => (hget j hj).2) hu
        refine ⟨_, .p hrel, fun w' hA' _ => ?_⟩
        simp only [execOp, hop]
        refine run_v ?_
        rw [hv0]
        exact run_loadN hn b off (fun j => f (off + j)) w' (fun j hj => (hA'.cel (hget (off + j) (by omega))).1)
      · rename_i cs hcs
        obtain ⟨vs, us, ty, hblk, hr, hf⟩ := hL id _ b hcs hb
        obtain ⟨hfn, hf1⟩ := hr.fn
        obtain ⟨hlen, hrel⟩ := partA_rel hfn hf1 h
        refine ⟨_, hrel, fun w' hA' _ => ?_⟩
        simp only [execOp, hop]
        refine run_v ?_
        rw [hv0]
        refine run_loadN hn b off (fun j => vs.getD (off + j) undef) w' (fun j hj => ?_)
        have hlt : off + j < vs.length := by rw [← hr.len]; omega
        have e1 : vs[off + j]? = some (vs.getD (off + j) undef) := by simp [List.getD_eq_getElem?_getD, List.getElem?_eq_getElem hlt]
        exact (hA'.cel ⟨hf _ _ e1, hr.one _ (List.mem_of_getElem? e1)⟩).1
      · rename_i m cs hcs
        obtain ⟨vs, us, ty, hblk, hr, -⟩ := hL id _ b hcs hb
        obtain ⟨hfn, hf1⟩ := hr.fn
        obtain ⟨hlen, hrel⟩ := partA_rel hfn hf1 h
        refine ⟨_, hrel, fun w' hA' hk => ?_⟩
        have hblk' : w'.heap[b]? = some (.cells (vs ++ us).toArray ty (0, 0)) := by rw [hk id (by simp [rdOf, he, hcs]) b hb]; exact hblk
        simp only [execOp, hop]
        refine run_v ?_
        rw [hv0]
        refine run_loadN hn b off (fun j => vs.getD (off + j) undef) w' (fun j hj => ?_)
        rw [cell_of_row w' b _ _ ty _ hblk']
        have hlt : off + j < vs.length := by rw [← hr.len]; omega
        rw [List.getElem?_toArray, List.getElem?_append_left hlt]
        simp [List.getD_eq_getElem?_getD, List.getElem?_eq_getElem hlt]
      · cases h
  · cases h

theorem still_fld {t : TypeId} {x : Operand} {i : Nat} (hop : o.op = .field t x i) {fs : Array Field} {f : Field} {n : Option Nat} {y : AX} (hu : P.underlying t = some (.struct fs)) (hf : fs[i]? = some f) (hn : shapeN P f.type = some n) (hy : cx x = some y)
    (hT : Tmps g rho s a) (h : stillV s (.fld f.offset n y) = some av) : StillOk P g rho [] w a o av := by
  have h0 := cx_rel hT hy
  simp only [stillV] at h
  split at h
  · rename_i cs he
    rw [he] at h0
    obtain ⟨vs, hv, hr⟩ := rel_aggP h0
    rw [Option.map_eq_some_iff] at h
    obtain ⟨u, hu2, rfl⟩ := h
    obtain ⟨hlen, hrel⟩ := partP_rel hr.fn.1 hr.fn.2 hu2
    refine ⟨_, .p hrel, fun w' _ _ => ?_⟩
    simp only [execOp, hop]
    refine run_v ?_
    simp [Instr.field, Sem.run_bind, run_underlying hu, hf, hv, asAgg, run_partN hn vs f.offset w' (by rw [← hr.len]; exact hlen)]
  · rename_i cs he
    rw [he] at h0
    obtain ⟨vs, hv, hr⟩ := rel_agg h0
    obtain ⟨hlen, hrel⟩ := partA_rel hr.fn.1 hr.fn.2 h
    refine ⟨_, hrel, fun w' _ _ => ?_⟩
    simp only [execOp, hop]
    refine run_v ?_
    simp [Instr.field, Sem.run_bind, run_underlying hu, hf, hv, asAgg, run_partN hn vs f.offset w' (by rw [← hr.len]; exact hlen)]
  · cases h

theorem still_fadr {t : TypeId} {x : Operand} {i : Nat} (hop : o.op = .fieldAddr t x i) {fs : Array Field} {f : Field} {n : Nat} {y : AX} (hu : P.underlying t = some (.struct fs)) (hf : fs[i]? = some f) (hn : sizeN P f.type = some (n + 1)) (hy : cx x = some y)
    (hT : Tmps g rho s a) (h : stillV s (.fadr f.offset y) = some av) : StillOk P g rho [] w a o av := by
  have h0 := cx_rel hT hy
  unfold sizeN at hn
  rw [Option.map_eq_some_iff] at hn
  obtain ⟨ti, hti, hsz⟩ := hn
  have run : ∀ b o' w', (execOp a.eval o).run P w' = (do pure (Next.value (← Instr.fieldAt t (a.eval x) i)) : Sem Next).run P w' ∧ (Instr.fieldAt t (.pointer (some ⟨b, o', none⟩)) i).run P w' = .ok (.pointer (some ⟨b, o' + f.offset, none⟩)) w' := fun b o' w' =>
    ⟨by simp only [execOp, hop], by simp [Instr.fieldAt, Sem.run_bind, run_underlying hu, hf, Instr.sureAddr, fieldPlace, sizeOf, typeInfo, hti, hsz, addr_add]⟩
  simp only [stillV] at h
  split at h
  · rename_i cs off he
    rw [he] at h0
    generalize hv0 : a.eval x = v0 at h0
    cases h0 with
    | p h0 =>
      cases h0 with
      | ptr _ _ b o' f' hat hh =>
        simp only [Option.some.injEq] at h
        subst h
        refine ⟨.pointer (some ⟨b, o' + (off + f.offset), none⟩), .p (.ptr cs _ b o' f' hat hh), fun w' _ _ => ?_⟩
        rw [(run b (o' + off) w').1, hv0]
        refine run_v ?_
        rw [(run b (o' + off) w').2, Nat.add_assoc]
  · rename_i id off he
    rw [he] at h0
    generalize hv0 : a.eval x = v0 at h0
    cases h0 with
    | loc hb =>
      rename_i b
      simp only [Option.some.injEq] at h
      subst h
      refine ⟨.pointer (some ⟨b, off + f.offset, none⟩), .loc hb, fun w' _ _ => ?_⟩
      rw [(run b off w').1, hv0]
      exact run_v (run b off w').2
  · cases h

theorem still_iadrS {t e : TypeId} {x i : Operand} (hop : o.op = .indexAddr t x i) {n : Nat} {y j : AX} (hu : P.underlying t = some (.slice e)) (hn : sizeN P e = some n) (hy : cx x = some y) (hj : cx i = some j)
    (hT : Tmps g rho s a) (h : stillV s (.iadrS n y j) = some av) : StillOk P g rho [] w a o av := by
  have h0 := cx_rel hT hy
  have h1 := cx_rel hT hj
  unfold sizeN at hn
  rw [Option.map_eq_some_iff] at hn
  obtain ⟨ti, hti, hsz⟩ := hn
  simp only [stillV] at h
  split at h
  · rename_i k sz es ik iv he hi
    rw [he] at h0
    rw [hi] at h1
    obtain ⟨hiv, _⟩ := rel_val h1
    generalize hv0 : a.eval x = v0 at h0
    cases h0 with
    | p h0 =>
      cases h0 with
      | sl _ _ _ ad m c f hl hm hc hmx hk hz hat hh =>
        split at h
        · rename_i h0i
          obtain ⟨h0i, rfl⟩ := h0i
          split at h
          · rename_i r hr
            simp only [Option.some.injEq] at h
            subst h
            have hlt : iv.toNat < m := by rw [← hl]; exact (List.getElem?_eq_some_iff.1 hr).1
            obtain ⟨b, o', rfl, hcell⟩ := hat iv.toNat hlt
            have hrl := hz _ _ hr
            refine ⟨.pointer (some ⟨b, o' + iv.toNat * sz, none⟩), .p (.ptr r 0 b (o' + iv.toNat * sz) (f iv.toNat) (fun j hj => hcell j (by rw [← hrl]; exact hj)) (fun j x hx => hh _ _ _ _ hr hx)), fun w' _ _ => ?_⟩
            simp only [execOp, hop]
            refine run_v ?_
            rw [hv0, hiv]
            have : iv < (m : Int) := by omega
            simp [Instr.indexAt, Sem.run_bind, asIntOf, run_underlying hu, h0i, this, sizeOf, typeInfo, hti, hsz, addr_add]
          · cases h
        · cases h
  · rename_i id m sz' ik iv he hi
    rw [he] at h0
    rw [hi] at h1
    obtain ⟨hiv, _⟩ := rel_val h1
    generalize hv0 : a.eval x = v0 at h0
    cases h0 with
    | sli hb hn hc hm =>
      rename_i b c
      split at h
      · rename_i hlt
        simp only [Option.some.injEq] at h
        subst h
        refine ⟨.pointer (some ⟨b, 0 + iv.toNat * n, none⟩), by rw [Nat.zero_add]; exact .loc hb, fun w' _ _ => ?_⟩
        simp only [execOp, hop]
        refine run_v ?_
        rw [hv0, hiv]
        simp [Instr.indexAt, Sem.run_bind, asIntOf, run_underlying hu, hlt.1, hlt.2.1, sizeOf, typeInfo, hti, hsz, addr_add]
      · cases h
  · cases h

theorem still_iadrA {t e : TypeId} {x i : Operand} {len : Nat} (hop : o.op = .indexAddr t x i) {n : Nat} {y j : AX} (hu : P.underlying t = some (.array len e)) (hn : sizeN P e = some n) (hy : cx x = some y) (hj : cx i = some j)
    (hT : Tmps g rho s a) (h : stillV s (.iadrA n len y j) = some av) : StillOk P g rho [] w a o av := by
  have h0 := cx_rel hT hy
  have h1 := cx_rel hT hj
  unfold sizeN at hn
  rw [Option.map_eq_some_iff] at hn
  obtain ⟨ti, hti, hsz⟩ := hn
  have run : ∀ b o' ik iv w', a.eval i = .int ik iv → 0 ≤ iv ∧ iv < len → (Instr.indexAt t (.pointer (some ⟨b, o', none⟩)) (a.eval i)).run P w' = .ok (.pointer (some ⟨b, o' + iv.toNat * n, none⟩)) w' := fun b o' ik iv w' hv hb => by
    rw [hv]
    simp [Instr.indexAt, Sem.run_bind, asIntOf, run_underlying hu, Instr.sureAddr, hb.1, hb.2, sizeOf, typeInfo, hti, hsz, addr_add]
  simp only [stillV] at h
  split at h
  · rename_i cs off ik iv he hi
    rw [he] at h0
    rw [hi] at h1
    obtain ⟨hiv, _⟩ := rel_val h1
    generalize hv0 : a.eval x = v0 at h0
    cases h0 with
    | p h0 =>
      cases h0 with
      | ptr _ _ b o' f' hat hh =>
        split at h
        · rename_i hb
          simp only [Option.some.injEq] at h
          subst h
          refine ⟨.pointer (some ⟨b, o' + (off + iv.toNat * n), none⟩), .p (.ptr cs _ b o' f' hat hh), fun w' _ _ => ?_⟩
          simp only [execOp, hop]
          refine run_v ?_
          rw [hv0, run b (o' + off) ik iv w' hiv hb, Nat.add_assoc]
        · cases h
  · rename_i id off ik iv he hi
    rw [he] at h0
    rw [hi] at h1
    obtain ⟨hiv, _⟩ := rel_val h1
    generalize hv0 : a.eval x = v0 at h0
    cases h0 with
    | loc hlb =>
      rename_i b
      split at h
      · rename_i hb
        simp only [Option.some.injEq] at h
        subst h
        refine ⟨.pointer (some ⟨b, off + iv.toNat * n, none⟩), .loc hlb, fun w' _ _ => ?_⟩
        simp only [execOp, hop]
        refine run_v ?_
        rw [hv0, run b off ik iv w' hiv hb]
      · cases h
  · cases h

theorem still_idx {t e : TypeId} {x i : Operand} {len : Nat} (hop : o.op = .index t x i) {n : Nat} {sh : Option Nat} {y j : AX} (hu : P.underlying t = some (.array len e)) (hn : sizeN P e = some n) (hs : shapeN P e = some sh) (hy : cx x = some y) (hj : cx i = some j)
    (hT : Tmps g rho s a) (h : stillV s (.idx n len sh y j) = some av) : StillOk P g rho [] w a o av := by
  have h0 := cx_rel hT hy
  have h1 := cx_rel hT hj
  unfold sizeN at hn
  rw [Option.map_eq_some_iff] at hn
  obtain ⟨ti, hti, hsz⟩ := hn
  simp only [stillV] at h
  split at h
  · rename_i cs ik iv he hi
    rw [he] at h0
    rw [hi] at h1
    obtain ⟨hiv, _⟩ := rel_val h1
    obtain ⟨vs, hv, hr⟩ := rel_aggP h0
    split at h
    · rename_i hb
      rw [Option.map_eq_some_iff] at h
      obtain ⟨u, hu2, rfl⟩ := h
      obtain ⟨hlen, hrel⟩ := partP_rel hr.fn.1 hr.fn.2 hu2
      refine ⟨_, .p hrel, fun w' _ _ => ?_⟩
      simp only [execOp, hop]
      refine run_v ?_
      simp [Instr.index, Sem.run_bind, run_underlying hu, hv, hiv, asIntOf, hb.1, hb.2, sizeOf, typeInfo, hti, hsz, run_partN hs vs (iv.toNat * n) w' (by rw [← hr.len]; exact hlen)]
    · cases h
  · rename_i cs ik iv he hi
    rw [he] at h0
    rw [hi] at h1
    obtain ⟨hiv, _⟩ := rel_val h1
    obtain ⟨vs, hv, hr⟩ := rel_agg h0
    split at h
    · rename_i hb
      obtain ⟨hlen, hrel⟩ := partA_rel hr.fn.1 hr.fn.2 h
      refine ⟨_, hrel, fun w' _ _ => ?_⟩
      simp only [execOp, hop]
      refine run_v ?_
      simp [Instr.index, Sem.run_bind, run_underlying hu, hv, hiv, asIntOf, hb.1, hb.2, sizeOf, typeInfo, hti, hsz, run_partN hs vs (iv.toNat * n) w' (by rw [← hr.len]; exact hlen)]
    · cases h
  · cases h

theorem still_ext {x : Operand} {i : Nat} (hop : o.op = .extract x i) {y : AX} (hy : cx x = some y) (hT : Tmps g rho s a) (h : stillV s (.ext y i) = some av) : StillOk P g rho [] w a o av := by
  have h0 := cx_rel hT hy
  simp only [stillV] at h
  split at h
  · rename_i vs he
    rw [he] at h0
    generalize hv0 : a.eval x = v0 at h0
    cases h0 with
    | p h0 =>
      cases h0 with
      | tup _ us hl hh =>
        rw [Option.map_eq_some_iff] at h
        obtain ⟨u, hu, rfl⟩ := h
        have hlt : i < us.size := by rw [← hl]; exact (List.getElem?_eq_some_iff.1 hu).1
        have e : us[i]? = some us[i] := Array.getElem?_eq_getElem hlt
        refine ⟨us[i], .p (hh i u _ hu e), fun w' _ _ => ?_⟩
        simp only [execOp, hop]
        refine run_v ?_
        simp [hv0, Instr.extract, e]
  · rename_i vs he
    rw [he] at h0
    generalize hv0 : a.eval x = v0 at h0
    cases h0 with
    | tup _ us hl hh =>
      have hlt : i < us.size := by rw [← hl]; exact (List.getElem?_eq_some_iff.1 h).1
      have e : us[i]? = some us[i] := Array.getElem?_eq_getElem hlt
      refine ⟨us[i], hh i av _ h e, fun w' _ _ => ?_⟩
      simp only [execOp, hop]
      refine run_v ?_
      simp [hv0, Instr.extract, e]
  · cases h

theorem still_nilc {x : Operand} (hop : o.op = .nilCheck x) {y : AX} (hy : cx x = some y) (hT : Tmps g rho s a) (h : stillV s (.nilc y) = some av) : StillOk P g rho [] w a o av := by
  have h0 := cx_rel hT hy
  simp only [stillV] at h
  split at h
  · rename_i cs off he
    rw [he] at h0
    simp only [Option.some.injEq] at h
    subst h
    generalize hv0 : a.eval x = v0 at h0
    refine ⟨v0, h0, fun w' _ _ => ?_⟩
    cases h0 with
    | p h0 => cases h0 with
      | ptr => simp [execOp, hop, hv0]
  · rename_i id off he
    rw [he] at h0
    simp only [Option.some.injEq] at h
    subst h
    generalize hv0 : a.eval x = v0 at h0
    refine ⟨v0, h0, fun w' _ _ => ?_⟩
    cases h0 with
    | loc => simp [execOp, hop, hv0]
  · rename_i f fa fb he
    rw [he] at h0
    simp only [Option.some.injEq] at h
    subst h
    obtain ⟨e, _⟩ := rel_val h0
    refine ⟨_, h0, fun w' _ _ => ?_⟩
    simp [execOp, hop, e]
  · cases h
end
end Go.Proofs.YtlbolnlcncjijaaGreat
namespace Go.Proofs.YtlbolnlcncjijaaGreat
open Go.RowKit

section
variable {P : Program} {g : GP} {rho : List Nat} {w : World} {s : AS} {a : Act} {o : Oper} {av : AV}

theorem wrap_range (k : IntKind) (n : Int) : k.min ≤ k.wrap n ∧ k.wrap n ≤ k.max := by
  cases k <;> simp only [IntKind.min, IntKind.max, IntKind.wrap, IntKind.signed, IntKind.bits] <;> simp <;> (try split) <;> omega
theorem scalar_wrap (k : IntKind) (n : Int) : scalar (.int k (k.wrap n)) = true := by
  have := wrap_range k n
  simp [scalar, this.1, this.2]

theorem eqGuard_int {op : BinOp} {t : TypeId} {x y : Operand} {k k' : IntKind} {m n : Int} {w : World} : (eqGuard op t x y (.int k m) (.int k' n)).run P w = .ok () w := by
  unfold eqGuard
  split <;> simp
theorem eqGuard_bool {op : BinOp} {t : TypeId} {x y : Operand} {m n : Bool} {w : World} : (eqGuard op t x y (.bool m) (.bool n)).run P w = .ok () w := by
  unfold eqGuard
  split <;> simp

theorem tmod_range {a b : Int} {lo hi : Int} (h1 : lo ≤ a) (h2 : a ≤ hi) (h3 : lo ≤ 0) (h4 : 0 ≤ hi) : lo ≤ a.tmod b ∧ a.tmod b ≤ hi := by
  rcases Int.le_total 0 a with h | h
  · have h5 := Int.tmod_nonneg b h
    have h6 : a.tmod b ≤ a := by
      have := Int.tmod_def a b
      have h7 : 0 ≤ b * a.tdiv b := by
        rcases Int.le_total 0 b with hb' | hb'
        · exact Int.mul_nonneg hb' (Int.tdiv_nonneg h hb')
        · have := Int.tdiv_nonpos_of_nonneg_of_nonpos h hb'
          exact Int.mul_nonneg_of_nonpos_of_nonpos hb' this
      omega
    omega
  · have e : a.tmod b = -((-a).tmod b) := by rw [Int.neg_tmod]; omega
    have h5 := Int.tmod_nonneg b (show 0 ≤ -a by omega)
    have h6 : (-a).tmod b ≤ -a := by
      have := Int.tmod_def (-a) b
      have h7 : 0 ≤ b * (-a).tdiv b := by
        rcases Int.le_total 0 b with hb' | hb'
        · exact Int.mul_nonneg hb' (Int.tdiv_nonneg (by omega) hb')
        · have := Int.tdiv_nonpos_of_nonneg_of_nonpos (show 0 ≤ -a by omega) hb'
          exact Int.mul_nonneg_of_nonpos_of_nonpos hb' this
      omega
    omega
theorem kind_zero (k : IntKind) : k.min ≤ 0 ∧ 0 ≤ k.max := by cases k <;> simp [IntKind.min, IntKind.max, IntKind.signed, IntKind.bits]

theorem fdiv_range {a d : Int} (hd : 1 ≤ d) {lo hi : Int} (h1 : lo ≤ a) (h2 : a ≤ hi) (h3 : lo ≤ 0) (h4 : 0 ≤ hi) : lo ≤ a.fdiv d ∧ a.fdiv d ≤ hi := by
  rw [Int.fdiv_eq_ediv_of_nonneg _ (by omega)]
  have e1 := Int.mul_ediv_add_emod a d
  have e2 := Int.emod_nonneg a (show d ≠ 0 by omega)
  have e3 := Int.emod_lt_of_pos a (show 0 < d by omega)
  rcases Int.le_total 0 a with h | h
  · have h5 := Int.ediv_nonneg h (show 0 ≤ d by omega)
    have h6 : a / d ≤ d * (a / d) := by
      have : 1 * (a / d) ≤ d * (a / d) := Int.mul_le_mul_of_nonneg_right hd h5
      omega
    omega
  · have h5 : a / d ≤ 0 := Int.ediv_nonpos_of_nonpos_of_neg h (show 0 < d by omega)
    have h6 : d * (a / d) ≤ a / d := by
      have : d * (a / d) ≤ 1 * (a / d) := Int.mul_le_mul_of_nonpos_right hd h5
      omega
    have h7 : a - d < d * (a / d) := by omega
    constructor
    · by_cases h8 : a / d = 0
      · omega
      · rcases Int.lt_or_le (a / d) a with h9 | h9
        · exfalso
          have h10 : a / d + 1 ≤ a := by omega
          have h11 : d * (a / d + 1) ≤ 1 * (a / d + 1) := Int.mul_le_mul_of_nonpos_right hd (by omega)
          rw [Int.mul_add] at h11
          omega
        · omega
    · omega

theorem run_binV {op : BinOp} {c : Bool} {t : TypeId} {u v r : Value} (h : binV op c u v = some r) (hu : scalar u = true) (ht : c = true → P.underlying t = some .bool) :
    scalar r = true ∧ ∀ (x y : Operand) (w : World), (do eqGuard op t x y u v; binOp op t u v : Sem Value).run P w = .ok r w := by
  unfold binV at h
  split at h
  · rename_i k m k' n
    have key : ∀ r', some r' = some r → scalar r' = true → (∀ w, (binOp op t (.int k m) (.int k' n)).run P w = .ok r' w) → scalar r = true ∧ ∀ (x y : Operand) (w : World), (do eqGuard op t x y (.int k m) (.int k' n); binOp op t (.int k m) (.int k' n) : Sem Value).run P w = .ok r w := by
      intro r' e h1 h2
      simp only [Option.some.injEq] at e
      subst e
      refine ⟨h1, fun x y w => ?_⟩
      rw [Sem.run_bind, eqGuard_int]
      exact h2 w
    split at h
    · split at h
      · cases h
      · rename_i hn
        exact key _ h (scalar_wrap k _) (fun w => by simp [binOp, Op.shift, hn])
    · split at h
      · cases h
      · rename_i hn
        refine key _ h ?_ (fun w => by simp [binOp, Op.shift, hn])
        simp only [scalar, Bool.and_eq_true, decide_eq_true_eq] at hu ⊢
        exact fdiv_range (by have : (0 : Int) < 2 ^ (min n.toNat k.bits) := Int.pow_pos (by decide)
                             omega) hu.1 hu.2 (kind_zero k).1 (kind_zero k).2
    · rename_i h1 h2
      split at h
      · rename_i hk
        subst hk
        split at h
        · exact key _ h (scalar_wrap k _) (fun w => by simp [binOp, Op.intArith])
        · exact key _ h (scalar_wrap k _) (fun w => by simp [binOp, Op.intArith])
        · exact key _ h (scalar_wrap k _) (fun w => by simp [binOp, Op.intArith])
        · split at h
          · cases h
          · rename_i hn
            exact key _ h (scalar_wrap k _) (fun w => by simp [binOp, Op.intDiv, hn])
        · split at h
          · cases h
          · rename_i hn
            refine key _ h ?_ (fun w => by simp [binOp, Op.intDiv, hn])
            simp only [scalar, Bool.and_eq_true, decide_eq_true_eq] at hu ⊢
            exact tmod_range hu.1 hu.2 (kind_zero k).1 (kind_zero k).2
        · exact key _ h (scalar_wrap k _) (fun w => by simp [binOp, Op.intBits])
        · exact key _ h (scalar_wrap k _) (fun w => by simp [binOp, Op.intBits])
        · exact key _ h rfl (fun w => by simp [binOp, Op.intCmp])
        · exact key _ h rfl (fun w => by simp [binOp, Op.intCmp])
        · exact key _ h rfl (fun w => by simp [binOp, Op.intCmp])
        · exact key _ h rfl (fun w => by simp [binOp, Op.intCmp])
        · exact key _ h rfl (fun w => by simp [binOp, Op.intCmp])
        · exact key _ h rfl (fun w => by simp [binOp, Op.intCmp])
        · cases h
      · cases h
  · rename_i m n
    have hb := ht rfl
    have he : ∀ w, (Op.equal t (.bool m) (.bool n)).run P w = .ok (m == n) w := fun w => by
      show (Op.equalIn (9999 + 1) t (.bool m) (.bool n)).run P w = _
      unfold Op.equalIn
      rw [Sem.run_bind, run_underlying hb]
      rfl
    split at h
    · simp only [Option.some.injEq] at h
      subst h
      refine ⟨rfl, fun x y w => ?_⟩
      rw [Sem.run_bind, eqGuard_bool]
      simp [binOp, he]
    · simp only [Option.some.injEq] at h
      subst h
      refine ⟨rfl, fun x y w => ?_⟩
      rw [Sem.run_bind, eqGuard_bool]
      simp [binOp, he, bne]
    · cases h
  · cases h
end
end Go.Proofs.YtlbolnlcncjijaaGreat
namespace Go.Proofs.YtlbolnlcncjijaaGreat
open Go.RowKit

section
variable {P : Program} {g : GP} {rho : List Nat} {w : World} {s : AS} {a : Act} {o : Oper} {av : AV}

theorem still_bin {op : BinOp} {t ty : TypeId} {x y : Operand} (hop : o.op = .binOp op t x y ty) {c : Bool} {x' y' : AX} (hx : cx x = some x') (hy : cx y = some y') (hT : Tmps g rho s a)
    (hc : c = true → P.underlying t = some .bool) (h : stillV s (.bin c op x' y') = some av) : StillOk P g rho [] w a o av := by
  have h0 := cx_rel hT hx
  have h1 := cx_rel hT hy
  simp only [stillV] at h
  split at h
  · rename_i u v hu hv
    rw [hu] at h0
    rw [hv] at h1
    obtain ⟨e0, s0⟩ := rel_val h0
    obtain ⟨e1, _⟩ := rel_val h1
    rw [Option.map_eq_some_iff] at h
    obtain ⟨r, hr, rfl⟩ := h
    obtain ⟨hs, hrun⟩ := run_binV hr s0 hc
    refine ⟨r, .p (.val r hs), fun w' _ _ => ?_⟩
    simp only [execOp, hop, e0, e1]
    exact run_v (hrun x y w')
  · cases h

theorem still_un {op : UnOp} {t : TypeId} {x : Operand} (hop : o.op = .unOp op t x) {x' : AX} (hx : cx x = some x') (hT : Tmps g rho s a) (h : stillV s (.un op x') = some av) : StillOk P g rho [] w a o av := by
  have h0 := cx_rel hT hx
  simp only [stillV] at h
  split at h
  · rename_i k n he
    rw [he] at h0
    obtain ⟨e0, s0⟩ := rel_val h0
    simp only [Option.some.injEq] at h
    subst h
    refine ⟨_, .p (.val _ (scalar_wrap k (0 - n))), fun w' _ _ => ?_⟩
    simp only [execOp, hop, e0]
    exact run_v (by simp [Op.unary, Op.intArith])
  · rename_i b he
    rw [he] at h0
    obtain ⟨e0, s0⟩ := rel_val h0
    simp only [Option.some.injEq] at h
    subst h
    refine ⟨_, .p (.val _ rfl), fun w' _ _ => ?_⟩
    simp only [execOp, hop, e0]
    exact run_v (by simp [Op.unary])
  · cases h

theorem still_conv {src dst : TypeId} {x : Operand} (hop : o.op = .convert src dst x) {k k' : IntKind} {x' : AX} (hu : P.underlying src = some (.int k')) (hd : P.underlying dst = some (.int k)) (hx : cx x = some x') (hT : Tmps g rho s a)
    (h : stillV s (.conv k x') = some av) : StillOk P g rho [] w a o av := by
  have h0 := cx_rel hT hx
  simp only [stillV] at h
  split at h
  · rename_i k2 n he
    rw [he] at h0
    obtain ⟨e0, s0⟩ := rel_val h0
    simp only [Option.some.injEq] at h
    subst h
    refine ⟨_, .p (.val _ (scalar_wrap k n)), fun w' _ _ => ?_⟩
    simp only [execOp, hop, e0]
    exact run_v (by simp [convert, Sem.run_bind, run_underlying hu, run_underlying hd, Conv.intToInt])
  · cases h

theorem cxs_evs {l : List Operand} : ∀ {r : List AX}, (∀ j, Rel g rho (look s.t j) (a.tmps.getD j undef)) → cxs l = some r → (evs s r).length = l.length ∧ ∀ (i : Nat) (x : AV) (v : Value), (evs s r)[i]? = some x → (l.map a.eval)[i]? = some v → Rel g rho x v := by
  induction l with
  | nil => intro r _ hr; simp only [cxs, Option.some.injEq] at hr; subst hr; exact ⟨rfl, fun i x v hx _ => by simp [evs] at hx⟩
  | cons q l ih =>
    intro r hT hr
    simp only [cxs] at hr
    split at hr
    · rename_i b c hb hc
      simp only [Option.some.injEq] at hr
      subst hr
      obtain ⟨h1, h2⟩ := ih hT hc
      refine ⟨by simp [evs, h1], fun i x v hx hv => ?_⟩
      cases i with
      | zero => simp only [evs, List.getElem?_cons_zero, Option.some.injEq, List.map_cons] at hx hv; subst hx; subst hv; exact cx_rel hT hb
      | succ i => simp only [evs, List.getElem?_cons_succ, List.map_cons] at hx hv; exact h2 i x v hx hv
    · cases hr

theorem still_mkf {f : FuncId} {fi cap : Array Operand} (hop : o.op = .makeFunc (.func f) fi cap) {fi' cap' : List AX} (hfi : cxs fi.toList = some fi') (hcap : cxs cap.toList = some cap') (hT : Tmps g rho s a)
    (h : stillV s (.mkf f fi' cap') = some av) : StillOk P g rho [] w a o av := by
  simp only [stillV, Option.some.injEq] at h
  subst h
  obtain ⟨h1, h2⟩ := cxs_evs hT hfi
  obtain ⟨h3, h4⟩ := cxs_evs hT hcap
  refine ⟨.func (.func f) (fi.map a.eval) (cap.map a.eval), ?_, fun w' _ _ => by simp only [execOp, hop]; exact run_v (by simp [Instr.makeFunc])⟩
  unfold mkClo
  split
  · rename_i l r hl hr
    rw [pures_map hl] at h1 h2
    rw [pures_map hr] at h3 h4
    refine .p (.clo f l r _ _ (by simpa using h1) (by simpa using h3) (fun i x v hx hv => ?_) (fun i x v hx hv => ?_))
    · have := h2 i (.p x) v (by rw [List.getElem?_map, hx]; rfl) (by simpa using hv)
      cases this with | p h => exact h
    · have := h4 i (.p x) v (by rw [List.getElem?_map, hx]; rfl) (by simpa using hv)
      cases this with | p h => exact h
  · exact .clo f _ _ _ _ (by simp [h1]) (by simp [h3]) (fun i x v hx hv => h2 i x v hx (by simpa using hv)) (fun i x v hx hv => h4 i x v hx (by simpa using hv))

theorem run_builtinV {b : Builtin} {c : Call} (hop : o.op = .call c) (hb : c.callee = .builtin b) {m : Sem Value} (w : World) {v : Value}
    (hm : ∀ cs, (builtin b c.argTypes o.type cs (c.args.map a.eval)) = (do pure (Next.value (← m)) : Sem Next)) (hr : m.run P w = .ok v w) : (execOp a.eval o).run P w = .ok (.value v) w := by
  simp only [execOp, hop, Sem.run_bind, resolve, hb, Sem.run_pure, Result.andThen_ok, invoke]
  rw [hm]
  exact run_v hr

theorem still_len {c : Call} (hop : o.op = .call c) (hb : c.callee = .builtin .len) {t e : TypeId} {x : Operand} {x' : AX} (ht : c.argTypes[0]? = some t) (hxs : c.args.toList = [x]) (hu : P.underlying t = some (.slice e)) (hx : cx x = some x')
    (hT : Tmps g rho s a) (h : stillV s (.len x') = some av) : StillOk P g rho [] w a o av := by
  have h0 := cx_rel hT hx
  have hargs : c.args.map a.eval = #[a.eval x] := by
    apply Array.ext'
    simp [hxs]
  have run : ∀ (ad : Option Addr) (n cp : Nat) (w' : World), a.eval x = .slice ad n cp → (Builtin.len_ c.argTypes o.type (c.args.map a.eval)).run P w' = .ok (.int .i64 n) w' := by
    intro ad n cp w' hv
    rw [hargs, hv]
    simp [Builtin.len_, ht, Sem.run_bind, run_underlying hu, goInt]
  have sc : ∀ n : Nat, n ≤ 140737488355328 → scalar (.int .i64 n) = true := by
    intro n hn
    simp [scalar, IntKind.min, IntKind.max, IntKind.signed, IntKind.bits]
    omega
  simp only [stillV] at h
  split at h
  · rename_i k sz es he
    rw [he] at h0
    generalize hv0 : a.eval x = v0 at h0
    simp only [Option.some.injEq] at h
    subst h
    cases h0 with
    | p h0 =>
      cases h0 with
      | sl _ _ _ ad n cp f hl hn hc hm hk hz hat hh =>
        subst hl
        exact ⟨_, .p (.val _ (sc _ hn)), fun w' _ _ => run_builtinV hop hb w' (fun _ => rfl) (run _ _ _ w' hv0)⟩
  · rename_i id n sz he
    rw [he] at h0
    generalize hv0 : a.eval x = v0 at h0
    simp only [Option.some.injEq] at h
    subst h
    cases h0 with
    | sli hb' hn hc hm => exact ⟨_, .p (.val _ (sc _ hm)), fun w' _ _ => run_builtinV hop hb w' (fun _ => rfl) (run _ _ _ w' hv0)⟩
  · cases h

theorem mx_in {k : IntKind} {m : Bool} {x y : Int} (hx : scalar (.int k x) = true) (hy : scalar (.int k y) = true) : scalar (.int k (maxI m x y)) = true := by
  unfold maxI
  split <;> split <;> assumption

theorem run_mxV (m : Bool) {l : List Operand} : ∀ {r : List AX} {k : IntKind} {n : Int} {v : Value}, cxs l = some r → mxV m s r k n = some v → (∀ j, Rel g rho (look s.t j) (a.tmps.getD j undef)) → scalar (.int k n) = true →
    scalar v = true ∧ ∀ w : World, ((l.map a.eval).foldlM (if m then Builtin.max2 else Builtin.min2) (.int k n)).run P w = .ok v w := by
  induction l with
  | nil =>
    intro r k n v hr h _ hs
    simp only [cxs, Option.some.injEq] at hr
    subst hr
    simp only [mxV, Option.some.injEq] at h
    subst h
    exact ⟨hs, fun w => by simp⟩
  | cons q l ih =>
    intro r k n v hr h hT hs
    simp only [cxs] at hr
    split at hr
    · rename_i b c hb hc
      simp only [Option.some.injEq] at hr
      subst hr
      simp only [mxV] at h
      split at h
      · rename_i k' j he
        split at h
        · rename_i hk
          subst hk
          have h0 := cx_rel hT hb
          rw [he] at h0
          obtain ⟨e0, s0⟩ := rel_val h0
          obtain ⟨h1, h2⟩ := ih hc h hT (mx_in hs s0)
          refine ⟨h1, fun w => ?_⟩
          have h3 := h2 w
          cases m
          · simp only [Bool.false_eq_true, if_false] at h3 ⊢
            simpa [List.foldlM_cons, e0, Builtin.min2, Sem.run_bind, maxI] using h3
          · simp only [if_true] at h3 ⊢
            simpa [List.foldlM_cons, e0, Builtin.max2, Sem.run_bind, maxI] using h3
        · cases h
      · cases h
    · cases hr

theorem still_mx {c : Call} {m : Bool} (hop : o.op = .call c) (hb : c.callee = .builtin (if m then .max else .min)) {xs : List AX} (hxs : cxs c.args.toList = some xs) (hT : Tmps g rho s a) (h : stillV s (.mx m xs) = some av) : StillOk P g rho [] w a o av := by
  simp only [stillV] at h
  split at h
  · cases h
  · rename_i x l
    split at h
    · rename_i k n he
      rw [Option.map_eq_some_iff] at h
      obtain ⟨v, hv, rfl⟩ := h
      cases hl : c.args.toList with
      | nil => rw [hl] at hxs; simp [cxs] at hxs
      | cons q r =>
        rw [hl] at hxs
        simp only [cxs] at hxs
        split at hxs
        · rename_i b d hq hr
          simp only [Option.some.injEq, List.cons.injEq] at hxs
          obtain ⟨rfl, rfl⟩ := hxs
          have h0 := cx_rel hT hq
          rw [he] at h0
          obtain ⟨e0, s0⟩ := rel_val h0
          obtain ⟨h1, h2⟩ := run_mxV (P := P) m hr hv hT s0
          have hargs : (c.args.map a.eval).toList = .int k n :: r.map a.eval := by simp [hl, e0]
          refine ⟨v, .p (.val _ h1), fun w' _ _ => ?_⟩
          cases m
          · refine run_builtinV hop hb w' (fun _ => rfl) ?_
            simp only [Builtin.min_, hargs]
            simpa using h2 w'
          · refine run_builtinV hop hb w' (fun _ => rfl) ?_
            simp only [Builtin.max_, hargs]
            simpa using h2 w'
        · cases hxs
    · cases h
end
end Go.Proofs.YtlbolnlcncjijaaGreat
namespace Go.Proofs.YtlbolnlcncjijaaGreat
open Go.RowKit

section
variable {P : Program} {g : GP} {rho : List Nat} {w : World} {s : AS} {a : Act} {o : Oper} {av : AV}

theorem opt_cx {s : AS} {lo : Option Operand} {lo' : Option AX} {d l : Int} (hT : ∀ j, Rel g rho (look s.t j) (a.tmps.getD j undef)) (h : lo.mapM cx = some lo') (hl : optInt s lo' d = some l) :
    (lo = none ∧ l = d) ∨ ∃ q k, lo = some q ∧ a.eval q = .int k l := by
  cases lo with
  | none =>
    simp only [Option.mapM_none, Option.pure_def, Option.some.injEq] at h
    subst h
    simp only [optInt, Option.some.injEq] at hl
    exact .inl ⟨rfl, hl.symm⟩
  | some q =>
    refine .inr ⟨q, ?_⟩
    cases hq : cx q with
    | none => simp [hq] at h
    | some q' =>
      simp [hq] at h
      subst h
      simp only [optInt] at hl
      have h0 := cx_rel hT hq
      generalize hv : q'.ev s = u at h0 hl
      cases u with
      | p x =>
        cases x with
        | val v =>
          cases v with
          | int k n =>
            simp only [AV.int?, Option.some.injEq] at hl
            subst hl
            exact ⟨k, rfl, (rel_val h0).1⟩
          | _ => simp [AV.int?] at hl
        | _ => simp [AV.int?] at hl
      | _ => simp [AV.int?] at hl

theorem run_bound {v : Value} {k : IntKind} {i : Int} {y : Nat} (code : BoundsCode) (hv : v = .int k i) (h0 : 0 ≤ i) (h1 : i ≤ y) (w : World) : (Instr.sliceBound v y code).run P w = .ok i.toNat w := by
  subst hv
  simp [Instr.sliceBound, asIntOf, h0, h1]

theorem run_bounds {lo hi mx : Option Value} {n c : Nat} {l h m : Int} (hlo : (lo = none ∧ l = 0) ∨ ∃ k, lo = some (.int k l)) (hhi : (hi = none ∧ h = n) ∨ ∃ k, hi = some (.int k h))
    (hmx : (mx = none ∧ m = c) ∨ ((∃ k, mx = some (.int k m)) ∧ ∃ k, hi = some (.int k h))) (h1 : 0 ≤ l) (h2 : l ≤ h) (h3 : h ≤ m) (h4 : m ≤ c) (w : World) :
    (Instr.sliceBounds true n c lo hi mx).run P w = .ok (l.toNat, h.toNat, m.toNat) w := by
  have e1 : ∀ k (y : Nat) code, h ≤ y → (Instr.sliceBound (.int k h) y code).run P w = .ok h.toNat w := fun k y code hy => run_bound code rfl (by omega) hy w
  have e2 : ∀ k (y : Nat) code, l ≤ y → (Instr.sliceBound (.int k l) y code).run P w = .ok l.toNat w := fun k y code hy => run_bound code rfl h1 hy w
  have e3 : ∀ k code, (Instr.sliceBound (.int k m) c code).run P w = .ok m.toNat w := fun k code => run_bound code rfl (by omega) h4 w
  have e4 : l ≤ (h.toNat : Int) := by omega
  have e5 : h ≤ (m.toNat : Int) := by omega
  rcases hmx with ⟨rfl, rfl⟩ | ⟨⟨km, rfl⟩, kh, rfl⟩
  · rcases hhi with ⟨rfl, rfl⟩ | ⟨kh, rfl⟩
    · rcases hlo with ⟨rfl, rfl⟩ | ⟨kl, rfl⟩
      · simp [Instr.sliceBounds]
      · simp [Instr.sliceBounds, e2 _ _ _ h2]
    · rcases hlo with ⟨rfl, rfl⟩ | ⟨kl, rfl⟩
      · simp [Instr.sliceBounds, e1 _ _ _ h3]
      · simp [Instr.sliceBounds, e1 _ _ _ h3, e2 _ _ _ e4]
  · rcases hlo with ⟨rfl, rfl⟩ | ⟨kl, rfl⟩
    · simp [Instr.sliceBounds, e3, e1 _ _ _ e5]
    · simp [Instr.sliceBounds, e3, e1 _ _ _ e5, e2 _ _ _ e4]

theorem rel_cut {k : SK} {sz n c : Nat} {es : List (List PV)} {ad : Option Addr} (hr : RelP g (.sl k sz es) (.slice ad n c)) (l h m : Nat) (h1 : l ≤ h) (h2 : h ≤ n) (h3 : h ≤ m) (h4 : m ≤ c) (k' : SK)
    (hk' : k'.ok g (if m = l then ad else ad.map (·.add (l * sz))) (h - l) (m - l)) :
    RelP g (.sl k' sz ((es.take h).drop l)) (.slice (if m = l then ad else ad.map (·.add (l * sz))) (h - l) (m - l)) := by
  cases hr with
  | sl _ _ _ _ _ _ f hl hn hc hm hk hz hat hh =>
    refine .sl k' sz _ _ (h - l) (m - l) (fun i => f (l + i)) (by simp; omega) (by omega) (by omega) (by omega) hk' (fun i e he => ?_) (fun i hi => ?_) (fun i j e x he hx => ?_)
    · rw [List.getElem?_drop, List.getElem?_take] at he
      split at he
      · exact hz _ _ he
      · cases he
    · obtain ⟨b, o', e, hcell⟩ := hat (l + i) (by omega)
      refine ⟨b, o' + l * sz, ?_, fun j hj => ?_⟩
      · rw [if_neg (by omega), e, Option.map_some, addr_add]
      · have := hcell j hj
        rwa [Nat.add_mul, ← Nat.add_assoc] at this
    · rw [List.getElem?_drop, List.getElem?_take] at he
      split at he
      · exact hh _ _ _ _ he hx
      · cases he

theorem relP_nilsz0 {k : SK} {sz sz' : Nat} {v : Value} (h : RelP g (.sl k sz []) v) : RelP g (.sl k sz' []) v := by
  cases h with
  | sl _ _ _ ad n c f hl hn hc hm hk hz hat hh =>
    have : n = 0 := by simpa using hl.symm
    subst this
    exact .sl k sz' [] ad 0 c f rfl hn hc hm hk (fun i e h => by simp at h) (fun i hi => absurd hi (by omega)) (fun i j e x h => by simp at h)
theorem still_slc {t e : TypeId} {x : Operand} {lo hi mx : Option Operand} (hop : o.op = .slice t x lo hi mx) {n : Nat} {x' : AX} {lo' hi' mx' : Option AX} (hu : P.underlying t = some (.slice e)) (hn : sizeN P e = some n) (hx : cx x = some x')
    (hlo : lo.mapM cx = some lo') (hhi : hi.mapM cx = some hi') (hmx : mx.mapM cx = some mx') (hT : Tmps g rho s a) (h : stillV s (.slc n x' lo' hi' mx') = some av) (hmh : mx.isSome = true → hi.isSome = true) : StillOk P g rho [] w a o av := by
  have h0 := cx_rel hT hx
  unfold sizeN at hn
  rw [Option.map_eq_some_iff] at hn
  obtain ⟨ti, hti, hsz⟩ := hn
  simp only [stillV] at h
  split at h
  · rename_i k sz es he
    rw [he] at h0
    generalize hv0 : a.eval x = v0 at h0
    split at h
    · cases h
    · rename_i hsz2
      have h0 : Rel g rho (.p (.sl k n es)) v0 := by
        by_cases e : sz = n
        · subst e; exact h0
        · have : es = [] := by
            cases es with
            | nil => rfl
            | cons => simp [e] at hsz2
          subst this
          cases h0 with
          | p h => exact .p (relP_nilsz0 h)
      clear hsz2
      split at h
      · rename_i l hgh hl hh
        split at h
        · rename_i hb
          cases h0 with
          | p h0 =>
            have h0' := h0
            cases h0 with
            | sl _ _ _ ad m c f hlen hn' hc hmx' hk hz hat hrel =>
              have L := opt_cx hT hlo hl
              have H := opt_cx hT hhi hh
              have L' : (lo.map a.eval = none ∧ l = 0) ∨ ∃ k, lo.map a.eval = some (.int k l) := by
                rcases L with ⟨rfl, e⟩ | ⟨q, kq, rfl, e⟩
                · exact .inl ⟨rfl, e⟩
                · exact .inr ⟨kq, by rw [Option.map_some, e]⟩
              have H' : (hi.map a.eval = none ∧ hgh = (m : Int)) ∨ ∃ k, hi.map a.eval = some (.int k hgh) := by
                rcases H with ⟨rfl, e⟩ | ⟨q, kq, rfl, e⟩
                · exact .inl ⟨rfl, by rw [e, hlen]⟩
                · exact .inr ⟨kq, by rw [Option.map_some, e]⟩
              have run : ∀ (mm : Int) (w' : World), ((mx.map a.eval = none ∧ mm = c) ∨ ((∃ k, mx.map a.eval = some (.int k mm)) ∧ ∃ k, hi.map a.eval = some (.int k hgh))) → hgh ≤ mm → mm ≤ c →
                  (execOp a.eval o).run P w' = .ok (.value (.slice (if mm.toNat = l.toNat then ad else ad.map (·.add (l.toNat * n))) (hgh.toNat - l.toNat) (mm.toNat - l.toNat))) w' := fun mm w' M h3 h4 => by
                simp only [execOp, hop]
                refine run_v ?_
                rw [hv0]
                simp [Instr.sliceAt, Sem.run_bind, run_underlying hu, Instr.slice, run_bounds L' H' M hb.1 hb.2.1 h3 h4, sizeOf, typeInfo, hti, hsz]
              split at h
              · have hmn : mx = none := by
                  cases mx with
                  | none => rfl
                  | some q => cases hq : cx q <;> simp [hq] at hmx
                subst hmn
                simp only [Option.some.injEq] at h
                subst h
                have hcn : (c : Int).toNat = c := by omega
                refine ⟨_, .p (rel_cut h0' l.toNat hgh.toNat (c : Int).toNat (by omega) (by omega) (by omega) (by omega) _ ?_), fun w' _ _ => run c w' (.inl ⟨rfl, rfl⟩) (by omega) (by omega)⟩
                by_cases hfull : l = 0 ∧ hgh = (es.length : Int)
                · rw [if_pos hfull]
                  have e1 : l.toNat = 0 := by omega
                  have e2 : hgh.toNat = m := by omega
                  have e3 : (if (c : Int).toNat = l.toNat then ad else ad.map (·.add (l.toNat * n))) = ad := by
                    rw [e1]
                    split
                    · rfl
                    · cases ad with
                      | none => rfl
                      | some q => simp [Addr.add]
                  rw [e3, e2, hcn, e1]
                  exact hk
                · rw [if_neg hfull]; trivial
              · rename_i mq
                split at h
                · rename_i mm hmm
                  split at h
                  · rename_i hmh2
                    simp only [Option.some.injEq] at h
                    subst h
                    subst hmh2
                    have M : ∃ q k, mx = some q ∧ a.eval q = .int k mm := by
                      rcases opt_cx (d := 0) hT hmx (by simpa [optInt] using hmm) with ⟨e, _⟩ | h
                      · subst e; simp at hmx
                      · exact h
                    obtain ⟨q, kq, rfl, hq⟩ := M
                    have H2 : ∃ k, hi.map a.eval = some (.int k mm) := by
                      rcases H' with ⟨e, _⟩ | h
                      · cases hi with
                        | none => simp at hmh
                        | some _ => cases e
                      · exact h
                    exact ⟨_, .p (rel_cut h0' l.toNat mm.toNat mm.toNat (by omega) (by omega) (by omega) (by omega) .full rfl), fun w' _ _ => run mm w' (.inr ⟨⟨kq, by rw [Option.map_some, hq]⟩, H2⟩) (by omega) (by omega)⟩
                  · cases h
                · cases h
        · cases h
      · cases h
  · cases h
end
end Go.Proofs.YtlbolnlcncjijaaGreat
namespace Go.Proofs.YtlbolnlcncjijaaGreat
open Go.RowKit

section
variable {P : Program} {g : GP} {rho : List Nat} {w : World} {s : AS} {a : Act} {o : Oper} {av : AV}

theorem foldl_put : ∀ (cs : List Value) (k off : Nat) (arr : List Value), off + k + cs.length ≤ arr.length →
    (cs.zipIdx k).foldl (fun (l : List Value) (c : Value × Nat) => l.set (off + c.2) c.1) arr = arr.take (off + k) ++ cs ++ arr.drop (off + k + cs.length)
  | [], k, off, arr, h => by simp
  | c :: cs, k, off, arr, h => by
    simp only [List.length_cons] at h
    rw [List.zipIdx_cons, List.foldl_cons, foldl_put cs (k + 1) off _ (by simp; omega)]
    have hk : off + k < arr.length := by omega
    rw [show off + (k + 1) = off + k + 1 by omega, List.take_succ_eq_append_getElem (by simpa using hk), List.getElem_set_self, List.take_set_of_le (by omega), List.drop_set_of_lt (by omega)]
    simp only [List.append_assoc, List.cons_append, List.nil_append, List.length_cons]
    congr 4
    omega

theorem foldl_arr (off : Nat) : ∀ (l : List (Value × Nat)) (arr : Array Value), (l.foldl (fun (cs : Array Value) (c : Value × Nat) => cs.setIfInBounds (off + c.2) c.1) arr).toList = l.foldl (fun (l : List Value) (c : Value × Nat) => l.set (off + c.2) c.1) arr.toList
  | [], arr => rfl
  | c :: l, arr => by
    rw [List.foldl_cons, List.foldl_cons, foldl_arr off l]
    simp

theorem fill_one (vs cs : List Value) (off : Nat) (h : off + vs.length ≤ cs.length) :
    vs.toArray.zipIdx.foldl (fun (cs : Array Value) (c : Value × Nat) => cs.setIfInBounds (off + c.2) c.1) cs.toArray = (cs.take off ++ vs ++ cs.drop (off + vs.length)).toArray := by
  apply Array.ext'
  rw [← Array.foldl_toList]
  have hz : vs.toArray.zipIdx.toList = vs.zipIdx := by simp
  rw [foldl_arr, hz, List.toList_toArray, foldl_put vs 0 off _ (by simpa using h)]
  simp

theorem fill_rel (place : Nat → Option (Nat × Nat)) : ∀ {qs : List (Nat × Operand)} {ps : List (Nat × Nat × AX)} {cs cs' : List AV} {vs : List Value}, cparts place qs = some ps → fillA s ps cs = some cs' → (∀ j, Rel g rho (look s.t j) (a.tmps.getD j undef)) → RelL g rho cs vs →
    ∃ vs', Instr.fill place vs.toArray (qs.map fun q => (q.1, a.eval q.2)) = some vs'.toArray ∧ RelL g rho cs' vs'
  | [], ps, cs, cs', vs, hp, hf, _, hr => by
    simp only [cparts, Option.some.injEq] at hp
    subst hp
    simp only [fillA, Option.some.injEq] at hf
    subst hf
    exact ⟨vs, rfl, hr⟩
  | (i, x) :: qs, ps, cs, cs', vs, hp, hf, hT, hr => by
    simp only [cparts] at hp
    split at hp
    · rename_i off n y r hpl hx hq
      simp only [Option.some.injEq] at hp
      subst hp
      simp only [fillA] at hf
      split at hf
      · rename_i new hnew
        split at hf
        · rename_i hlen
          obtain ⟨hl, us, hus, hru⟩ := cellsA_rel hnew (cx_rel hT hx)
          have hun : us.length = n := by rw [← hru.len, hl]
          obtain ⟨vs', h1, h2⟩ := fill_rel place hq hf hT (hr.put hru off)
          refine ⟨vs', ?_, h2⟩
          simp only [List.map_cons, Instr.fill, hpl, hus]
          have hs1 : us.toArray.size = n := by simpa using hun
          have hs2 : ¬ (us.toArray.size ≠ n || off + us.toArray.size > vs.toArray.size) = true := by
            have := hr.len
            simp only [hs1, List.size_toArray]
            simp
            omega
          rw [if_neg hs2, fill_one us vs off (by rw [hun, ← hr.len]; exact hlen)]
          exact h1
        · cases hf
      · cases hf
    · cases hp

theorem zeroN_rel {t : TypeId} {z : List PV} (h : zeroN P t = some z) : ∃ i zv, P.info? t = some i ∧ i.zero = some zv ∧ RelLP g z zv.cells.toList := by
  unfold zeroN at h
  cases hi : P.info? t with
  | none => simp [hi] at h
  | some i =>
    cases hz : i.zero with
    | none => simp [hi, hz] at h
    | some zv =>
      simp only [hi, hz, Option.bind_some] at h
      have hr := relP_const g zv
      refine ⟨i, zv, rfl, hz, ?_⟩
      have one : ∀ {x : PV}, RelP g x zv → zv.oneCell' = true → zv.cells = #[zv] → RelLP g [x] zv.cells.toList := fun {x} hx h1 hc => by
        rw [hc]
        exact ⟨rfl, by simpa using h1, fun i y u hy hu => by
          cases i with
          | zero => simp at hy hu; subst hy; subst hu; exact hx
          | succ i => simp at hy⟩
      generalize hc : ofConst zv = c at h hr
      cases hr with
      | any => simp at h
      | agg cs vs hl h1 hh =>
        simp only [Option.some.injEq] at h
        subst h
        exact ⟨by simpa [Value.cells] using hl, by simpa [Value.cells] using h1, by simpa [Value.cells] using hh⟩
      | val _ hu =>
        simp only [Option.some.injEq] at h
        subst h
        exact one (.val _ hu) (oneCell_scalar hu) (by cases zv <;> first | rfl | (simp [scalar] at hu))
      | tup cs vs hl hh =>
        exfalso
        unfold ofConst at hc
        split at hc <;> (try cases hc) <;> (split at hc <;> cases hc)
      | sl k sz es ad n c f hl hn hcc hm hk hz' hat hh =>
        simp only [Option.some.injEq] at h
        subst h
        exact one (.sl k sz es ad n c f hl hn hcc hm hk hz' hat hh) rfl rfl
      | ptr cs off b o f hat hh =>
        simp only [Option.some.injEq] at h
        subst h
        exact one (.ptr cs off b o f hat hh) rfl rfl
      | nilp =>
        simp only [Option.some.injEq] at h
        subst h
        exact one .nilp rfl rfl
      | clo f fi cap vf vc hl hl2 hh hh2 =>
        simp only [Option.some.injEq] at h
        subst h
        exact one (.clo f fi cap vf vc hl hl2 hh hh2) rfl rfl
      | yld =>
        simp only [Option.some.injEq] at h
        subst h
        exact one .yld rfl rfl
      | und =>
        exfalso
        unfold ofConst at hc
        split at hc <;> (try cases hc) <;> (split at hc <;> cases hc)
      | mpf =>
        exfalso
        unfold ofConst at hc
        split at hc <;> (try cases hc) <;> (split at hc <;> cases hc)

theorem still_build {t : TypeId} {qs : Array (Nat × Operand)} (hop : o.op = .build t qs) {z : List PV} {ps : List (Nat × Nat × AX)} (hz : zeroN P t = some z)
    (hp : (∃ fs places, P.underlying t = some (.struct fs) ∧ fs.toList.mapM (fun f => (P.info? f.type).map fun i => (f.offset, i.size)) = some places ∧ cparts (places.toArray[·]?) qs.toList = some ps) ∨
      (∃ n e ie, P.underlying t = some (.array n e) ∧ P.info? e = some ie ∧ cparts (fun i => some (i * ie.size, ie.size)) qs.toList = some ps))
    (hT : Tmps g rho s a) (h : stillV s (.build z ps) = some av) : StillOk P g rho [] w a o av := by
  obtain ⟨it, zv, hit, hzv, hr⟩ := zeroN_rel (g := g) hz
  simp only [stillV, Option.map_eq_some_iff] at h
  obtain ⟨cs', hf, rfl⟩ := h
  have hparts : (qs.map fun (i, x) => (i, a.eval x)).toList = qs.toList.map fun q => (q.1, a.eval q.2) := by simp
  have hzc : zv.cells.toList.toArray = zv.cells := by simp
  rcases hp with ⟨fs, places, hu, hpl, hc⟩ | ⟨n, e, ie, hu, hie, hc⟩
  · obtain ⟨vs', h1, h2⟩ := fill_rel _ hc hf hT (RelLP.toRelL (rho := rho) hr)
    refine ⟨_, RelL.mkAgg h2, fun w' _ _ => ?_⟩
    simp only [execOp, hop]
    refine run_v (run_build w' t _ _ ?_)
    rw [hparts]
    rw [hzc] at h1
    simp only [Program.built, hit, hu, hzv, hpl, h1]
  · obtain ⟨vs', h1, h2⟩ := fill_rel _ hc hf hT (RelLP.toRelL (rho := rho) hr)
    refine ⟨_, RelL.mkAgg h2, fun w' _ _ => ?_⟩
    simp only [execOp, hop]
    refine run_v (run_build w' t _ _ ?_)
    rw [hparts]
    rw [hzc] at h1
    simp only [Program.built, hit, hu, hzv, hie, h1]
end
end Go.Proofs.YtlbolnlcncjijaaGreat
