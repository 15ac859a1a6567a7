/- What never turns again; what is handed over. Structs and arrays of plain cells compared. -/
import Derived.Test.YtlbolnlcncjijaaGreatGa06
import Derived.Test.YtlbolnlcncjijaaGreatGa04
import Derived.Laws.StructEq
import Derived.ChangeKeysEq
namespace Go.Proofs.YtlbolnlcncjijaaGreat
open Go.RowKit Go.Shelf

section
variable {P : Program} {F : Fence} {E : Env P F} {g g' : GP} {rho rd ks : List Nat} {R : Nat → Prop} {ys : Option (List (List PV))} {w : World} {loc : List ABlk} {live : List Nat}

theorem Inv.freeze (h : Inv E g rho R ks loc live ys w) {id b : Nat} {cs : List AV} (h1 : loc[id]? = some (.cells cs)) (h2 : rho[id]? = some b) {vs us : List Value} {t : TypeId}
    (hb : w.heap[b]? = some (.cells (vs ++ us).toArray t (0, 0))) {l : List PV} (hr : RelLP g l vs) {kb : ABlk} (hkb : kb = .frz l ∨ ∃ cs, kb = .half cs ∧ RelL g rho cs vs) :
    Inv E (g.fz b 0 l.length (fun o => vs.getD o undef)) rho R ks (loc.set id kb) live ys w ∧ g.le (g.fz b 0 l.length (fun o => vs.getD o undef)) := by
  have hle := g.le_fz (b := b) (lo := 0) (hi := l.length) (fun o => vs.getD o undef) (fun o _ _ => h.own id _ b h1 rfl h2 o (Nat.zero_le _))
  have fro : ∀ b' o, b' ≠ b → (g.fz b 0 l.length (fun o => vs.getD o undef)).frz b' o = g.frz b' o := fun b' o hne => by
    simp only [GP.fz]; rw [if_neg (fun hc => hne hc.1)]
  have get : ∀ {id' : Nat} {k : ABlk}, (loc.set id kb)[id']? = some k → (id' = id ∧ k = kb) ∨ (id' ≠ id ∧ loc[id']? = some k) := by
    intro id' k hk
    rw [List.getElem?_set] at hk
    split at hk
    · rename_i e
      split at hk
      · simp only [Option.some.injEq] at hk; exact .inl ⟨e.symm, hk.symm⟩
      · cases hk
    · rename_i e
      exact .inr ⟨fun e' => e e'.symm, hk⟩
  have hlen := hr.len
  have hA : Agree (g.fz b 0 l.length (fun o => vs.getD o undef)) w := by
    refine ⟨fun b' o v e => ?_, h.agree.fin⟩
    simp only [GP.fz] at e
    split at e
    · rename_i hc
      obtain ⟨rfl, -, h3⟩ := hc
      simp only [Option.some.injEq] at e
      subst e
      have hlt : o < vs.length := by omega
      refine .inl ⟨?_, by rw [List.getD_eq_getElem?_getD, List.getElem?_eq_getElem hlt]; exact hr.one _ (List.getElem_mem hlt)⟩
      rw [cell_of_row _ _ _ _ _ _ hb, List.getElem?_toArray, List.getElem?_append_left hlt]
      simp [List.getD_eq_getElem?_getD, List.getElem?_eq_getElem hlt]
    · exact h.agree.frz b' o v e
  have hst : OwnStep E.n0 R (fun k => k = b) g (g.fz b 0 l.length (fun o => vs.getD o undef)) w w :=
    ⟨hle, hA, rfl, rfl, rfl, Nat.le_refl _, fun k hk => by subst hk; exact ⟨(h.rlt id k h2).1, (h.rlt id k h2).2.2⟩, fun _ _ _ => rfl, fun b' o _ hk => fro b' o hk⟩
  refine ⟨⟨hA, E.stab _ _ _ _ _ _ _ h.fr hst, h.low, by simp [h.len], fun id' k b' h3 h4 => ?_, h.rlt, fun id' c b' h3 hmn h4 o ho => ?_, h.dis, fun t' ht => ?_, h.tdis, h.nodup, h.rsz, h.ksnd, h.marks⟩, hle⟩
  · rcases get h3 with ⟨rfl, rfl⟩ | ⟨hne, h3⟩
    · rw [h2] at h4
      simp only [Option.some.injEq] at h4
      subst h4
      rcases hkb with rfl | ⟨cs', rfl, hrc⟩
      · refine ⟨fun o => vs.getD o undef, fun j x hx => ⟨?_, ?_⟩⟩
        · have hj := (List.getElem?_eq_some_iff.1 hx).1
          refine ⟨?_, hr.one _ (getD_mem (by omega))⟩
          simp only [GP.fz]
          rw [if_pos ⟨trivial, by omega, hj⟩]
        · exact (hr.fn.1 j x hx).mono hle
      · refine ⟨vs, us, t, hb, hrc.mono hle (Pre.refl _), fun j v hv => ?_⟩
        have hj := (List.getElem?_eq_some_iff.1 hv).1
        simp only [GP.fz]
        rw [if_pos ⟨trivial, by omega, by omega⟩, List.getD_eq_getElem?_getD, hv]
        rfl
    · exact (h.locs id' k b' h3 h4).keep hle (Pre.refl _) (fun _ => rfl)
  · rcases get h3 with ⟨rfl, h5⟩ | ⟨hne, h3⟩
    · rcases hkb with e | ⟨_, e, _⟩ <;> rw [h5, e] at hmn <;> cases hmn
    · rw [fro b' o (fun e => hne (h.dis id' id b' h4 (e ▸ h2)))]
      exact h.own id' c b' h3 hmn h4 o ho
  · obtain ⟨v, e, sz, h3, h4⟩ := h.toks t' ht
    refine ⟨v, e, sz, h3, fun b' hb' => ?_⟩
    obtain ⟨n, xs, h5, h6⟩ := h4 b' hb'
    refine ⟨n, xs, h5, fun o ho => ?_⟩
    rw [fro b' o (fun e' => (h.tdis t' ht v e sz b' h3 hb').1.1 id (e' ▸ h2))]
    exact h6 o ho

theorem Inv.freezeP (h : Inv E g rho R ks loc live ys w) {id b n0 n : Nat} {cs : List AV} (h1 : loc[id]? = some (.prz n0 n cs)) (h2 : rho[id]? = some b) {vs us : List Value} {t : TypeId}
    (hb : w.heap[b]? = some (.cells (vs ++ us).toArray t (0, 0))) (hrc : RelL g rho cs vs) (hf0 : ∀ (j : Nat) (v : Value), j < n0 → vs[j]? = some v → g.frz b j = some v) {l : List PV} (hr : RelLP g l (vs.take n)) (hn0 : n0 ≤ n) :
    Inv E (g.fz b n0 l.length (fun o => vs.getD o undef)) rho R ks (loc.set id (.prt n cs)) live ys w ∧ g.le (g.fz b n0 l.length (fun o => vs.getD o undef)) := by
  have hle := g.le_fz (b := b) (lo := n0) (hi := l.length) (fun o => vs.getD o undef) (fun o ho _ => h.own id _ b h1 rfl h2 o ho)
  have fro : ∀ b' o, b' ≠ b → (g.fz b n0 l.length (fun o => vs.getD o undef)).frz b' o = g.frz b' o := fun b' o hne => by
    simp only [GP.fz]; rw [if_neg (fun hc => hne hc.1)]
  have get : ∀ {id' : Nat} {k : ABlk}, (loc.set id (.prt n cs))[id']? = some k → (id' = id ∧ k = .prt n cs) ∨ (id' ≠ id ∧ loc[id']? = some k) := by
    intro id' k hk
    rw [List.getElem?_set] at hk
    split at hk
    · rename_i e
      split at hk
      · simp only [Option.some.injEq] at hk; exact .inl ⟨e.symm, hk.symm⟩
      · cases hk
    · rename_i e
      exact .inr ⟨fun e' => e e'.symm, hk⟩
  have hlen := hr.len
  have hA : Agree (g.fz b n0 l.length (fun o => vs.getD o undef)) w := by
    refine ⟨fun b' o v e => ?_, h.agree.fin⟩
    simp only [GP.fz] at e
    split at e
    · rename_i hc
      obtain ⟨rfl, -, h3⟩ := hc
      simp only [Option.some.injEq] at e
      subst e
      have hlt : o < vs.length := by rw [List.length_take] at hlen; omega
      refine .inl ⟨?_, by rw [List.getD_eq_getElem?_getD, List.getElem?_eq_getElem hlt]; exact hrc.one _ (List.getElem_mem hlt)⟩
      rw [cell_of_row _ _ _ _ _ _ hb, List.getElem?_toArray, List.getElem?_append_left hlt]
      simp [List.getD_eq_getElem?_getD, List.getElem?_eq_getElem hlt]
    · exact h.agree.frz b' o v e
  have hst : OwnStep E.n0 R (fun k => k = b) g (g.fz b n0 l.length (fun o => vs.getD o undef)) w w :=
    ⟨hle, hA, rfl, rfl, rfl, Nat.le_refl _, fun k hk => by subst hk; exact ⟨(h.rlt id k h2).1, (h.rlt id k h2).2.2⟩, fun _ _ _ => rfl, fun b' o _ hk => fro b' o hk⟩
  refine ⟨⟨hA, E.stab _ _ _ _ _ _ _ h.fr hst, h.low, by simp [h.len], fun id' k b' h3 h4 => ?_, h.rlt, fun id' c b' h3 hmn h4 o ho => ?_, h.dis, fun t' ht => ?_, h.tdis, h.nodup, h.rsz, h.ksnd, h.marks⟩, hle⟩
  · rcases get h3 with ⟨rfl, rfl⟩ | ⟨hne, h3⟩
    · rw [h2] at h4
      simp only [Option.some.injEq] at h4
      subst h4
      refine ⟨vs, us, t, hb, hrc.mono hle (Pre.refl _), fun j v hj hv => ?_⟩
      have hjv := (List.getElem?_eq_some_iff.1 hv).1
      by_cases h0 : j < n0
      · exact hle.frz _ _ _ (hf0 j v h0 hv)
      · simp only [GP.fz]
        rw [if_pos ⟨trivial, by omega, by rw [hlen, List.length_take]; omega⟩, List.getD_eq_getElem?_getD, hv]
        rfl
    · exact (h.locs id' k b' h3 h4).keep hle (Pre.refl _) (fun _ => rfl)
  · rcases get h3 with ⟨rfl, h5⟩ | ⟨hne, h3⟩
    · subst h5
      rw [h2] at h4
      simp only [Option.some.injEq] at h4
      subst h4
      have h8 : n ≤ o := ho
      simp only [GP.fz]
      rw [if_neg (fun hc => by
        have h7 := hc.2.2
        rw [hlen, List.length_take] at h7
        omega)]
      exact h.own id' _ b h1 rfl h2 o (Nat.le_trans hn0 h8)
    · rw [fro b' o (fun e => hne (h.dis id' id b' h4 (e ▸ h2)))]
      exact h.own id' c b' h3 hmn h4 o ho
  · obtain ⟨v, e, sz, h3, h4⟩ := h.toks t' ht
    refine ⟨v, e, sz, h3, fun b' hb' => ?_⟩
    obtain ⟨n, xs, h5, h6⟩ := h4 b' hb'
    refine ⟨n, xs, h5, fun o ho => ?_⟩
    rw [fro b' o (fun e' => (h.tdis t' ht v e sz b' h3 hb').1.1 id (e' ▸ h2))]
    exact h6 o ho

theorem pures_relP {g : GP} {rho : List Nat} : ∀ {cs : List AV} {l : List PV} {vs : List Value}, pures cs = some l → RelL g rho cs vs → RelLP g l vs
  | cs, l, vs, h, hr => by
    have hm := pures_map h
    subst hm
    refine ⟨by simpa using hr.len, hr.one, fun i x v hx hv => ?_⟩
    have := hr.at_ i (.p x) v (by rw [List.getElem?_map, hx]; rfl) hv
    cases this with
    | p h => exact h

theorem Inv.freezeM (h : Inv E g rho R ks loc live ys w) {id b : Nat} {es : List (PV × PV)} (h1 : loc[id]? = some (.mpz es)) (h2 : rho[id]? = some b) {ents : Array MapEntry} {clk : Nat}
    (hb : w.heap[b]? = some (.map ents clk)) (hr : EntsP g es ents.toList) :
    Inv E (g.fz b 0 1 (fun _ => markV ents.toList)) rho R ks (loc.set id (.mfz es)) live ys w ∧ g.le (g.fz b 0 1 (fun _ => markV ents.toList)) := by
  have hle := g.le_fz (b := b) (lo := 0) (hi := 1) (fun _ => markV ents.toList) (fun o _ _ => h.own id _ b h1 rfl h2 o (Nat.zero_le _))
  have fro : ∀ b' o, b' ≠ b → (g.fz b 0 1 (fun _ => markV ents.toList)).frz b' o = g.frz b' o := fun b' o hne => by
    simp only [GP.fz]; rw [if_neg (fun hc => hne hc.1)]
  have get : ∀ {id' : Nat} {k : ABlk}, (loc.set id (.mfz es))[id']? = some k → (id' = id ∧ k = .mfz es) ∨ (id' ≠ id ∧ loc[id']? = some k) := by
    intro id' k hk
    rw [List.getElem?_set] at hk
    split at hk
    · rename_i e
      split at hk
      · simp only [Option.some.injEq] at hk; exact .inl ⟨e.symm, hk.symm⟩
      · cases hk
    · rename_i e
      exact .inr ⟨fun e' => e e'.symm, hk⟩
  have hA : Agree (g.fz b 0 1 (fun _ => markV ents.toList)) w := by
    refine ⟨fun b' o v e => ?_, h.agree.fin⟩
    simp only [GP.fz] at e
    split at e
    · rename_i hc
      obtain ⟨rfl, -, -⟩ := hc
      simp only [Option.some.injEq] at e
      exact .inr ⟨ents, clk, e.symm, hb⟩
    · exact h.agree.frz b' o v e
  have hst : OwnStep E.n0 R (fun k => k = b) g (g.fz b 0 1 (fun _ => markV ents.toList)) w w :=
    ⟨hle, hA, rfl, rfl, rfl, Nat.le_refl _, fun k hk => by subst hk; exact ⟨(h.rlt id k h2).1, (h.rlt id k h2).2.2⟩, fun _ _ _ => rfl, fun b' o _ hk => fro b' o hk⟩
  refine ⟨⟨hA, E.stab _ _ _ _ _ _ _ h.fr hst, h.low, by simp [h.len], fun id' k b' h3 h4 => ?_, h.rlt, fun id' c b' h3 hmn h4 o ho => ?_, h.dis, fun t' ht => ?_, h.tdis, h.nodup, h.rsz, h.ksnd, h.marks⟩, hle⟩
  · rcases get h3 with ⟨rfl, rfl⟩ | ⟨hne, h3⟩
    · rw [h2] at h4
      simp only [Option.some.injEq] at h4
      subst h4
      exact ⟨ents.toList, by simp [GP.fz], hr.mono hle⟩
    · exact (h.locs id' k b' h3 h4).keep hle (Pre.refl _) (fun _ => rfl)
  · rcases get h3 with ⟨rfl, rfl⟩ | ⟨hne, h3⟩
    · cases hmn
    · rw [fro b' o (fun e => hne (h.dis id' id b' h4 (e ▸ h2)))]
      exact h.own id' c b' h3 hmn h4 o ho
  · obtain ⟨v, e, sz, h3, h4⟩ := h.toks t' ht
    refine ⟨v, e, sz, h3, fun b' hb' => ?_⟩
    obtain ⟨n, xs, h5, h6⟩ := h4 b' hb'
    refine ⟨n, xs, h5, fun o ho => ?_⟩
    rw [fro b' o (fun e' => (h.tdis t' ht v e sz b' h3 hb').1.1 id (e' ▸ h2))]
    exact h6 o ho

theorem pur_frz {L L2 : List ABlk} {x : AV} {y : PV} {g g' : GP} {id : Nat} {cs c2 : List AV} {l : List PV} (hcs : L[id]? = some (.cells cs)) (hc2 : L2[id]? = some (.cells c2)) (hI : Inv E g rho R ks L live ys w) (h1 : g.le g') (h2 : Inv E g' rho R ks L2 live ys w) (h3 : ∀ vs, RelL g rho cs vs → RelLP g' l vs)
    (h4 : ∀ (id : Nat) (cs : List AV), L2[id]? = some (.cells cs) → L[id]? = some (.cells cs))
    (hy : ∀ (b : Nat) (g2 : GP), rho[id]? = some b → ∀ F : Nat → Value, (∀ (j : Nat) (x : PV), l[j]? = some x → g2.cel b j (F j) ∧ RelP g2 x (F j)) → ∀ v, Rel g rho x v → RelP g2 y v)
    {kb : ABlk} (hkb : kb = .frz l ∨ kb = .half cs) : ∃ g2, g.le g2 ∧ Inv E g2 rho R ks (L2.set id kb) live ys w ∧ (∀ v, Rel g rho x v → RelP g2 y v) ∧ (∀ (id' : Nat) (cs' : List AV), (L2.set id kb)[id']? = some (.cells cs') → L[id']? = some (.cells cs')) := by
  have hlt : id < rho.length := by rw [hI.len]; exact (List.getElem?_eq_some_iff.1 hcs).1
  have hb : rho[id]? = some rho[id] := List.getElem?_eq_getElem hlt
  obtain ⟨vs, us, t, hblk, hr⟩ := hI.locs id _ _ hcs hb
  have hrl := h3 vs hr
  obtain ⟨h5, h6⟩ := h2.freeze hc2 hb hblk hrl (kb := kb) (hkb.imp (fun e => e) fun e => ⟨cs, e, hr.mono h1 (Pre.refl _)⟩)
  refine ⟨_, h1.trans h6, h5, hy _ _ hb (fun o => vs.getD o undef) (fun j x hx => ⟨?_, (hrl.fn.1 j x hx).mono h6⟩), fun id' cs' hk => ?_⟩
  · have hj := (List.getElem?_eq_some_iff.1 hx).1
    have hlen := hrl.len
    refine ⟨?_, hrl.one _ (getD_mem (by omega))⟩
    simp only [GP.fz]
    rw [if_pos ⟨trivial, by omega, hj⟩]
  · rw [List.getElem?_set] at hk
    split at hk
    · split at hk
      · rcases hkb with e | e <;> rw [e] at hk <;> cases hk
      · cases hk
    · exact h4 id' cs' hk
theorem relP_ptr0 {l : List PV} {off b : Nat} {F : Nat → Value} {g : GP} (hF : ∀ (j : Nat) (x : PV), l[j]? = some x → g.cel b j (F j) ∧ RelP g x (F j)) : RelP g (.ptr l off) (.pointer (some ⟨b, off, none⟩)) := by
  have : RelP g (.ptr l off) (.pointer (some ⟨b, 0 + off, none⟩)) := .ptr l off b 0 F (fun j hj => by rw [Nat.zero_add]; exact (hF j _ (List.getElem?_eq_getElem hj)).1) (fun j x hx => (hF j x hx).2)
  rwa [Nat.zero_add] at this

theorem argsL {xs : List AV} {ys : List PV} (h : ∀ vs, ArgsRel g rho xs vs → ArgsP g' ys vs) : ∀ vs, RelL g rho xs vs → RelLP g' ys vs := fun vs hr =>
  have k := h vs ⟨hr.len, hr.at_⟩
  ⟨k.len, hr.one, k.at_⟩

 mutual
theorem pur_ok : ∀ (f : Nat) {L L' : List ABlk} {x : AV} {y : PV} {g : GP}, pur f L x = some (y, L') → Inv E g rho R ks L live ys w →
    ∃ g', g.le g' ∧ Inv E g' rho R ks L' live ys w ∧ (∀ v, Rel g rho x v → RelP g' y v) ∧ (∀ (id : Nat) (cs : List AV), L'[id]? = some (.cells cs) → L[id]? = some (.cells cs))
  | 0, _, _, _, _, _, h, _ => by simp [pur] at h
  | f + 1, L, L', .p x, y, g, h, hI => by
    simp only [pur, Option.some.injEq, Prod.mk.injEq] at h
    obtain ⟨rfl, rfl⟩ := h
    exact ⟨g, GP.le.refl g, hI, fun v hv => by cases hv with | p h => exact h, fun _ _ h => h⟩
  | f + 1, L, L', .agg cs, y, g, h, hI => by
    simp only [pur] at h
    split at h
    · rename_i l L2 hl
      simp only [Option.some.injEq, Prod.mk.injEq] at h
      obtain ⟨rfl, rfl⟩ := h
      obtain ⟨g', h1, h2, h3, h4⟩ := purL_ok f hl hI
      refine ⟨g', h1, h2, fun v hv => ?_, h4⟩
      obtain ⟨vs, rfl, hr⟩ := rel_agg hv
      exact (argsL h3 vs hr).agg
    · cases h
  | f + 1, L, L', .loc id off, y, g, h, hI => by
    simp only [pur] at h
    split at h
    · rename_i cs hcs
      split at h
      · rename_i l L2 hl
        split at h
        · rename_i c2 hc2
          simp only [Option.some.injEq, Prod.mk.injEq] at h
          obtain ⟨rfl, rfl⟩ := h
          obtain ⟨g', h1, h2, h3, h4⟩ := purL_ok f hl hI
          exact pur_frz hcs hc2 hI h1 h2 (argsL h3) h4 (fun b g2 hb F hF v hv => by
            cases hv with
            | loc hb' =>
              rw [hb] at hb'
              simp only [Option.some.injEq] at hb'
              subst hb'
              exact relP_ptr0 hF) (by split; exact .inr rfl; exact .inl rfl)
        · cases h
      · cases h
    · rename_i cs hcs
      simp only [Option.some.injEq, Prod.mk.injEq] at h
      obtain ⟨rfl, rfl⟩ := h
      refine ⟨g, GP.le.refl g, hI, fun v hv => ?_, fun _ _ h => h⟩
      cases hv with
      | loc hb =>
        rename_i b
        obtain ⟨F, hF⟩ := hI.locs id _ b hcs hb
        exact relP_ptr0 hF
    · rename_i cs hcs
      split at h
      · rename_i l L2 hl
        simp only [Option.some.injEq, Prod.mk.injEq] at h
        obtain ⟨rfl, rfl⟩ := h
        obtain ⟨g', h1, h2, h3, h4⟩ := purL_ok f hl hI
        refine ⟨g', h1, h2, fun v hv => ?_, h4⟩
        cases hv with
        | loc hb =>
          rename_i b
          obtain ⟨vs, us, t, hblk, hr, hf⟩ := hI.locs id _ b hcs hb
          have hrl := argsL h3 vs hr
          refine relP_ptr0 (F := fun o => vs.getD o undef) (fun j x hx => ⟨?_, hrl.fn.1 j x hx⟩)
          have hj : j < vs.length := by rw [← hrl.len]; exact (List.getElem?_eq_some_iff.1 hx).1
          exact ⟨h1.frz _ _ _ (hf j _ (by simp [List.getD_eq_getElem?_getD, List.getElem?_eq_getElem hj])), hr.one _ (getD_mem hj)⟩
      · cases h
    · rename_i n0 n cs hcs
      split at h
      · rename_i l hl
        split at h
        rotate_left
        · cases h
        rename_i hn0
        simp only [Option.some.injEq, Prod.mk.injEq] at h
        obtain ⟨rfl, rfl⟩ := h
        have hlt : id < rho.length := by rw [hI.len]; exact (List.getElem?_eq_some_iff.1 hcs).1
        have hb : rho[id]? = some rho[id] := List.getElem?_eq_getElem hlt
        obtain ⟨vs, us, t, hblk, hr, hf0⟩ := hI.locs id _ _ hcs hb
        have hrl := pures_relP hl (hr.take n)
        obtain ⟨h5, h6⟩ := hI.freezeP hcs hb hblk hr hf0 hrl hn0
        refine ⟨_, h6, h5, fun v hv => ?_, fun id' cs' hk => ?_⟩
        · cases hv with
          | loc hb' =>
            rw [hb] at hb'
            simp only [Option.some.injEq] at hb'
            subst hb'
            refine relP_ptr0 (F := fun o => vs.getD o undef) (fun j x hx => ?_)
            have hj : j < (vs.take n).length := by rw [← hrl.len]; exact (List.getElem?_eq_some_iff.1 hx).1
            have hjv : j < n ∧ j < vs.length := by rw [List.length_take] at hj; omega
            have e1 : vs.getD j undef = (vs.take n).getD j undef := by
              rw [List.getD_eq_getElem?_getD, List.getD_eq_getElem?_getD, List.getElem?_take_of_lt hjv.1]
            rw [e1]
            refine ⟨⟨?_, hrl.one _ (getD_mem hj)⟩, (hrl.fn.1 j x hx).mono h6⟩
            by_cases h0 : j < n0
            · refine h6.frz _ _ _ (hf0 j _ h0 ?_)
              rw [← e1, List.getD_eq_getElem?_getD, List.getElem?_eq_getElem hjv.2]
              rfl
            · simp only [GP.fz]
              rw [if_pos ⟨trivial, by omega, by rw [hrl.len]; exact hj⟩, e1]
        · rw [List.getElem?_set] at hk
          split at hk
          · split at hk <;> cases hk
          · exact hk
      · cases h
    · rename_i n cs hcs
      split at h
      · rename_i l hl
        simp only [Option.some.injEq, Prod.mk.injEq] at h
        obtain ⟨rfl, rfl⟩ := h
        refine ⟨g, GP.le.refl g, hI, fun v hv => ?_, fun _ _ h => h⟩
        cases hv with
        | loc hb =>
          rename_i b
          obtain ⟨vs, us, t, hblk, hr, hf⟩ := hI.locs id _ b hcs hb
          have hrl := pures_relP hl (hr.take n)
          refine relP_ptr0 (F := fun o => (vs.take n).getD o undef) (fun j x hx => ⟨⟨?_, ?_⟩, hrl.fn.1 j x hx⟩)
          · have hj : j < (vs.take n).length := by rw [← hrl.len]; exact (List.getElem?_eq_some_iff.1 hx).1
            have hjn : j < n := by rw [List.length_take] at hj; omega
            refine hf j _ hjn ?_
            rw [List.getD_eq_getElem?_getD, List.getElem?_take_of_lt hjn, List.getElem?_eq_getElem (by rw [List.length_take] at hj; omega)]
            rfl
          · have hj : j < (vs.take n).length := by rw [← hrl.len]; exact (List.getElem?_eq_some_iff.1 hx).1
            exact hrl.one _ (getD_mem hj)
      · cases h
    · cases h
  | f + 1, L, L', .tup vs, y, g, h, hI => by simp [pur] at h
  | f + 1, L, L', .mpl id, y, g, h, hI => by
    simp only [pur] at h
    split at h
    · rename_i es hes
      simp only [Option.some.injEq, Prod.mk.injEq] at h
      obtain ⟨rfl, rfl⟩ := h
      have hlt : id < rho.length := by rw [hI.len]; exact (List.getElem?_eq_some_iff.1 hes).1
      have hb : rho[id]? = some rho[id] := List.getElem?_eq_getElem hlt
      obtain ⟨ents, clk, hblk, hent⟩ := hI.locs id _ _ hes hb
      obtain ⟨h5, h6⟩ := hI.freezeM hes hb hblk hent
      refine ⟨_, h6, h5, fun v hv => ?_, fun id' cs' hk => ?_⟩
      · cases hv with
        | mpl hb' =>
          rw [hb] at hb'
          simp only [Option.some.injEq] at hb'
          subst hb'
          exact .mpf es _ ents.toList hent.len (by simp [GP.fz]) (fun i x e hx he => (hent.at_ i x e hx he).1.mono h6) (fun i x e hx he => (hent.at_ i x e hx he).2.mono h6)
      · rw [List.getElem?_set] at hk
        split at hk
        · split at hk <;> cases hk
        · exact hk
    · rename_i es hes
      simp only [Option.some.injEq, Prod.mk.injEq] at h
      obtain ⟨rfl, rfl⟩ := h
      refine ⟨g, GP.le.refl g, hI, fun v hv => ?_, fun _ _ h => h⟩
      cases hv with
      | mpl hb' =>
        obtain ⟨l, hf, hent⟩ := hI.locs id _ _ hes hb'
        exact .mpf es _ l hent.len hf (fun i x e hx he => (hent.at_ i x e hx he).1) (fun i x e hx he => (hent.at_ i x e hx he).2)
    · simp only [Option.some.injEq, Prod.mk.injEq] at h
      obtain ⟨rfl, rfl⟩ := h
      exact ⟨g, GP.le.refl g, hI, fun v _ => .any v, fun _ _ h => h⟩
  | f + 1, L, L', .sli id n sz, y, g, h, hI => by
    have key : ∀ {g2 : GP} {b : Nat} {F : Nat → Value} {l : List PV} {v : Value}, rho[id]? = some b → n * sz ≤ l.length → (∀ (j : Nat) (x : PV), l[j]? = some x → g2.cel b j (F j) ∧ RelP g2 x (F j)) → Rel g rho (.sli id n sz) v → RelP g2 (.sl .sh sz (rows sz n l)) v := by
      intro g2 b F l v hb hlen hF hv
      cases hv with
      | sli hb' hn hc hm =>
        rw [hb] at hb'
        simp only [Option.some.injEq] at hb'
        subst hb'
        have lt : ∀ i j : Nat, i < n → j < sz → i * sz + j < n * sz := fun i j hi hj => by
          have : (i + 1) * sz ≤ n * sz := Nat.mul_le_mul_right _ hi
          rw [Nat.add_mul] at this
          omega
        refine relP_at (F := F) (rows_length _ _ _) (fun i e he => ?_) (fun i j e x he hx => ?_) (fun q hq => by rw [Nat.zero_add]; exact (hF q _ (List.getElem?_eq_getElem (by omega))).1) hm hn hc trivial
        · obtain ⟨hi, rfl⟩ := rows_get (α := Unit) _ _ _ _ _ he
          have : (i + 1) * sz ≤ n * sz := Nat.mul_le_mul_right _ hi
          rw [Nat.add_mul] at this
          rw [List.length_take, List.length_drop]
          omega
        · obtain ⟨hi, rfl⟩ := rows_get (α := Unit) _ _ _ _ _ he
          have hj : j < sz := by
            have := (List.getElem?_eq_some_iff.1 hx).1
            rw [List.length_take] at this
            omega
          rw [List.getElem?_take_of_lt hj, List.getElem?_drop] at hx
          exact (hF _ x hx).2
    simp only [pur] at h
    split at h
    · rename_i cs hcs
      split at h
      · rename_i l L2 hl
        split at h
        · rename_i c2 hc2
          split at h
          · rename_i hlen
            simp only [Option.some.injEq, Prod.mk.injEq] at h
            obtain ⟨rfl, rfl⟩ := h
            obtain ⟨g', h1, h2, h3, h4⟩ := purL_ok f hl hI
            exact pur_frz hcs hc2 hI h1 h2 (argsL h3) h4 (fun b g2 hb F hF v hv => key hb hlen hF hv) (.inl rfl)
          · cases h
        · cases h
      · cases h
    · rename_i cs hcs
      split at h
      · rename_i hlen
        simp only [Option.some.injEq, Prod.mk.injEq] at h
        obtain ⟨rfl, rfl⟩ := h
        refine ⟨g, GP.le.refl g, hI, fun v hv => ?_, fun _ _ h => h⟩
        have hv' := hv
        cases hv with
        | sli hb hn hc hm =>
          rename_i b c
          obtain ⟨F, hF⟩ := hI.locs id _ b hcs hb
          exact key hb hlen hF hv'
      · cases h
    · cases h
  | f + 1, L, L', .clo fn fi cap, y, g, h, hI => by
    simp only [pur] at h
    split at h
    · rename_i l L1 hl
      split at h
      · rename_i r L2 hr
        simp only [Option.some.injEq, Prod.mk.injEq] at h
        obtain ⟨rfl, rfl⟩ := h
        obtain ⟨g1, h1, h2, h3, h4⟩ := purL_ok f hl hI
        obtain ⟨g2, k1, k2, k3, k4⟩ := purL_ok f hr h2
        refine ⟨g2, h1.trans k1, k2, fun v hv => ?_, fun id cs h => h4 id cs (k4 id cs h)⟩
        cases hv with
        | clo _ _ _ vf vs hl1 hl2 hh hh2 =>
          have m := h3 vf.toList ⟨by simpa using hl1, fun i x v hx hv => hh i x v hx (by simpa using hv)⟩
          have n := k3 vs.toList ⟨by simpa using hl2, fun i x v hx hv => (hh2 i x v hx (by simpa using hv)).mono h1 (Pre.refl _)⟩
          exact .clo _ _ _ _ _ (by simpa using m.len) (by simpa using n.len) (fun i x v hx hv => (m.at_ i x v hx (by simpa using hv)).mono k1) (fun i x v hx hv => n.at_ i x v hx (by simpa using hv))
      · cases h
    · cases h
theorem purL_ok : ∀ (f : Nat) {L L' : List ABlk} {xs : List AV} {zs : List PV} {g : GP}, purL f L xs = some (zs, L') → Inv E g rho R ks L live ys w →
    ∃ g', g.le g' ∧ Inv E g' rho R ks L' live ys w ∧ (∀ vs, ArgsRel g rho xs vs → ArgsP g' zs vs) ∧ (∀ (id : Nat) (cs : List AV), L'[id]? = some (.cells cs) → L[id]? = some (.cells cs))
  | 0, _, _, _, _, _, h, _ => by simp [purL] at h
  | f + 1, L, L', [], zs, g, h, hI => by
    simp only [purL, Option.some.injEq, Prod.mk.injEq] at h
    obtain ⟨rfl, rfl⟩ := h
    exact ⟨g, GP.le.refl g, hI, fun vs hv => ⟨hv.len, fun i x v hx => by simp at hx⟩, fun _ _ h => h⟩
  | f + 1, L, L', x :: xs, zs, g, h, hI => by
    simp only [purL] at h
    split at h
    · rename_i y L1 hy
      split at h
      · rename_i r L2 hr
        simp only [Option.some.injEq, Prod.mk.injEq] at h
        obtain ⟨rfl, rfl⟩ := h
        obtain ⟨g1, h1, h2, h3, h4⟩ := pur_ok f hy hI
        obtain ⟨g2, k1, k2, k3, k4⟩ := purL_ok f hr h2
        refine ⟨g2, h1.trans k1, k2, fun vs hv => ?_, fun id cs h => h4 id cs (k4 id cs h)⟩
        match vs, hv with
        | [], hv => have := hv.len; simp at this
        | v :: vs, hv =>
          have ht := k3 vs ⟨by simpa using hv.len, fun i x u hx hu => (hv.at_ (i + 1) x u hx hu).mono h1 (Pre.refl _)⟩
          refine ⟨by simp [ht.len], fun i x u hx hu => ?_⟩
          cases i with
          | zero =>
            simp at hx hu
            subst hx; subst hu
            exact (h3 v (hv.at_ 0 _ v rfl rfl)).mono k1
          | succ i => exact ht.at_ i x u (by simpa using hx) (by simpa using hu)
      · cases h
    · cases h
end
end
end Go.Proofs.YtlbolnlcncjijaaGreat
namespace Go.Proofs.YtlbolnlcncjijaaGreat
open Go.RowKit

def eqVs : List CK → List Value → List Value → Option Bool
  | [], [], [] => some true
  | k :: ks, a :: l, b :: r => match eqC k a b, eqVs ks l r with
    | some x, some y => some (x && y)
    | _, _ => none
  | _, _, _ => none

theorem eqVs_append : ∀ {k1 k2 : List CK} {l1 l2 r1 r2 : List Value} {z : Bool}, l1.length = k1.length → r1.length = k1.length → eqVs (k1 ++ k2) (l1 ++ l2) (r1 ++ r2) = some z →
    ∃ x y, eqVs k1 l1 r1 = some x ∧ eqVs k2 l2 r2 = some y ∧ z = (x && y)
  | [], k2, l1, l2, r1, r2, z, h1, h2, h => by
    have e1 : l1 = [] := List.eq_nil_of_length_eq_zero h1
    have e2 : r1 = [] := List.eq_nil_of_length_eq_zero h2
    subst e1 e2
    exact ⟨true, z, rfl, h, rfl⟩
  | k :: ks, k2, [], l2, r1, r2, z, h1, h2, h => by simp at h1
  | k :: ks, k2, a :: l, l2, [], r2, z, h1, h2, h => by simp at h2
  | k :: ks, k2, a :: l, l2, b :: r, r2, z, h1, h2, h => by
    simp only [List.cons_append, eqVs] at h
    split at h
    · rename_i x y hx hy
      simp only [Option.some.injEq] at h
      obtain ⟨u, v, h3, h4, h5⟩ := eqVs_append (by simpa using h1) (by simpa using h2) hy
      refine ⟨x && u, v, by simp only [eqVs, hx, h3], h4, ?_⟩
      rw [← h, h5, Bool.and_assoc]
    · cases h

section
variable {P : Program}

def vOf (P : Program) (t : TypeId) (us : List Value) : Value :=
  match P.underlying t with
  | some (.struct _) => .agg us.toArray
  | some (.array _ _) => .agg us.toArray
  | _ => us.headD undef

theorem run_partV {d : Nat} {t : TypeId} {l : List CK} (h : flatK P d t = some l) (hs : (P.info? t).map (·.size) = some l.length) {xs : List Value} {off : Nat} (hl : off + l.length ≤ xs.length) (w : World) :
    (part t xs.toArray off).run P w = .ok (vOf P t ((xs.drop off).take l.length)) w := by
  rw [Option.map_eq_some_iff] at hs
  obtain ⟨i, hi, hs⟩ := hs
  have agg : (Go.isAgg t).run P w = .ok true w → vOf P t ((xs.drop off).take l.length) = .agg ((xs.drop off).take l.length).toArray → (part t xs.toArray off).run P w = .ok (vOf P t ((xs.drop off).take l.length)) w := fun h1 h2 => by
    rw [h2]
    simp only [part, Sem.run_bind, h1, Result.andThen_ok, if_true, sizeOf, typeInfo]
    simp [hi, hs, List.extract_eq_take_drop]
  have sca : (Go.isAgg t).run P w = .ok false w → l.length = 1 → vOf P t ((xs.drop off).take l.length) = ((xs.drop off).take l.length).headD undef → (part t xs.toArray off).run P w = .ok (vOf P t ((xs.drop off).take l.length)) w := fun h1 h0 h2 => by
    have hlt : off < xs.length := by omega
    rw [h2, h0]
    have e : ((xs.drop off).take 1).headD undef = xs[off] := by rw [List.drop_eq_getElem_cons hlt]; rfl
    rw [e]
    simp only [part, Sem.run_bind, h1, Result.andThen_ok]
    simp [hlt]
  cases d with
  | zero => cases h
  | succ d =>
    simp only [flatK] at h
    split at h
    · rename_i hu
      simp only [Option.some.injEq] at h
      subst h
      exact sca (run_isAgg_plain hu rfl w) rfl (by simp [vOf, hu])
    · rename_i hu
      simp only [Option.some.injEq] at h
      subst h
      exact sca (run_isAgg_plain hu rfl w) rfl (by simp [vOf, hu])
    · rename_i hu
      simp only [Option.some.injEq] at h
      subst h
      exact sca (run_isAgg_plain hu rfl w) rfl (by simp [vOf, hu])
    · rename_i hu
      exact agg (by simp [Go.isAgg, run_underlying hu]) (by simp [vOf, hu])
    · rename_i hu
      exact agg (by simp [Go.isAgg, run_underlying hu]) (by simp [vOf, hu])
    · cases h

def EqOk (P : Program) (D : Nat) (f : TypeId → Option (List CK)) : Prop :=
  ∀ (t : TypeId) (l : List CK) (us vs : List Value) (r : Bool), f t = some l → us.length = l.length → vs.length = l.length → eqVs l us vs = some r → ∀ w, (Op.equalIn D t (vOf P t us) (vOf P t vs)).run P w = .ok r w

theorem cut_take {xs : List Value} {a n m : Nat} : (xs.drop a).take (n + m) = (xs.drop a).take n ++ (xs.drop (a + n)).take m := by
  rw [List.take_add, List.drop_drop]

theorem eq_fields {D d : Nat} (hE : EqOk P D (flatK P d)) : ∀ (fs : List Field) (at_ : Nat) (l : List CK) (xs ys : List Value) (r : Bool), flatFs P (flatK P d) fs at_ = some l → at_ + l.length ≤ xs.length → at_ + l.length ≤ ys.length →
    eqVs l ((xs.drop at_).take l.length) ((ys.drop at_).take l.length) = some r → ∀ w, (Op.eqFields D xs.toArray ys.toArray fs).run P w = .ok r w
  | [], at_, l, xs, ys, r, h, _, _, he, w => by
    simp only [flatFs, Option.some.injEq] at h
    subst h
    simp only [List.length_nil, List.take_zero, eqVs, Option.some.injEq] at he
    subst he
    simp [Op.eqFields]
  | f :: fs, at_, l, xs, ys, r, h, hx, hy, he, w => by
    simp only [flatFs] at h
    split at h
    · rename_i hc
      rw [Bool.and_eq_true] at hc
      have hn : f.name ≠ "_" := by simpa using hc.1
      have ho : f.offset = at_ := by simpa using hc.2
      split at h
      · rename_i l1 l2 h1 h2
        split at h
        · rename_i hs
          simp only [Option.some.injEq] at h
          subst h
          rw [hs] at h2
          simp only [Option.getD_some] at h2
          rw [List.length_append] at hx hy he
          rw [cut_take, cut_take] at he
          obtain ⟨x, y, e1, e2, e3⟩ := eqVs_append (by rw [List.length_take, List.length_drop]; omega) (by rw [List.length_take, List.length_drop]; omega) he
          have p1 := run_partV h1 hs (xs := xs) (off := at_) (by omega) w
          have p2 := run_partV h1 hs (xs := ys) (off := at_) (by omega) w
          have p3 := hE f.type l1 _ _ x h1 (by rw [List.length_take, List.length_drop]; omega) (by rw [List.length_take, List.length_drop]; omega) e1 w
          have p4 := eq_fields hE fs (at_ + l1.length) l2 xs ys y h2 (by omega) (by omega) e2 w
          simp only [Op.eqFields, if_pos hn, Sem.run_bind, ho, p1, p2, p3, Result.andThen_ok]
          cases x
          · simp [e3]
          · simp [e3, p4]
        · cases h
      · cases h
    · cases h

theorem flat_rep (l : List CK) : ∀ n, (List.replicate n l).flatten.length = n * l.length
  | 0 => by simp
  | n + 1 => by rw [List.replicate_succ, List.flatten_cons, List.length_append, flat_rep l n, Nat.add_mul]; omega

theorem eq_items {D d : Nat} (hE : EqOk P D (flatK P d)) {e : TypeId} {l : List CK} (h1 : flatK P d e = some l) (hs : (P.info? e).map (·.size) = some l.length) : ∀ (n i : Nat) (xs ys : List Value) (r : Bool), (i + n) * l.length ≤ xs.length → (i + n) * l.length ≤ ys.length →
    eqVs (List.replicate n l).flatten ((xs.drop (i * l.length)).take (n * l.length)) ((ys.drop (i * l.length)).take (n * l.length)) = some r → ∀ w, (Op.eqItems D e (P.cellsOf e) xs.toArray ys.toArray (List.range' i n)).run P w = .ok r w
  | 0, i, xs, ys, r, _, _, he, w => by
    simp [eqVs] at he
    subst he
    simp [Op.eqItems]
  | n + 1, i, xs, ys, r, hx, hy, he, w => by
    have hce : P.cellsOf e = l.length := by
      rw [Option.map_eq_some_iff] at hs
      obtain ⟨q, hq, hs⟩ := hs
      simp [Program.cellsOf, hq, hs]
    have e0 : (i + (n + 1)) * l.length = i * l.length + l.length + n * l.length := by rw [Nat.add_mul, Nat.add_mul]; omega
    rw [List.replicate_succ, List.flatten_cons, show (n + 1) * l.length = l.length + n * l.length by rw [Nat.add_mul]; omega, cut_take, cut_take] at he
    obtain ⟨x, y, e1, e2, e3⟩ := eqVs_append (by rw [List.length_take, List.length_drop]; omega) (by rw [List.length_take, List.length_drop]; omega) he
    have p1 := run_partV h1 hs (xs := xs) (off := i * l.length) (by omega) w
    have p2 := run_partV h1 hs (xs := ys) (off := i * l.length) (by omega) w
    have p3 := hE e l _ _ x h1 (by rw [List.length_take, List.length_drop]; omega) (by rw [List.length_take, List.length_drop]; omega) e1 w
    have p4 := eq_items hE h1 hs n (i + 1) xs ys y (by rw [show i + 1 + n = i + (n + 1) by omega]; exact hx) (by rw [show i + 1 + n = i + (n + 1) by omega]; exact hy) (by rw [Nat.add_mul, Nat.one_mul]; exact e2) w
    rw [List.range'_succ]
    simp only [Op.eqItems, Sem.run_bind, hce, p1, p2, p3, Result.andThen_ok]
    rw [hce] at p4
    cases x
    · simp [e3]
    · simp [e3, p4]

theorem eq_flat : ∀ (d D : Nat), EqOk P (d + D) (flatK P d)
  | 0, D => fun t l us vs r h => by cases h
  | d + 1, D => by
    have IH := eq_flat d D
    intro t l us vs r h hu hv he w
    have one : l.length = 1 → ∃ a b, us = [a] ∧ vs = [b] := fun h1 => by
      rw [h1] at hu hv
      match us, vs, hu, hv with
      | [a], [b], _, _ => exact ⟨a, b, rfl, rfl⟩
    rw [show d + 1 + D = (d + D) + 1 by omega]
    simp only [flatK] at h
    split at h
    · rename_i hud
      simp only [Option.some.injEq] at h
      subst h
      obtain ⟨a, b, rfl, rfl⟩ := one rfl
      simp only [eqVs] at he
      cases a <;> cases b <;> simp [eqC] at he
      subst he
      simp only [vOf, hud, List.headD_cons]
      exact run_equalIn_bool' w _ t _ _ hud
    · rename_i hud
      simp only [Option.some.injEq] at h
      subst h
      obtain ⟨a, b, rfl, rfl⟩ := one rfl
      simp only [eqVs] at he
      cases a with
      | int k n =>
        cases b with
        | int k' m =>
          simp only [eqC] at he
          by_cases hkk : k = k'
          · subst hkk
            simp at he
            subst he
            simp only [vOf, hud, List.headD_cons]
            exact run_equalIn_int w _ t _ _ _ _ hud
          · simp [hkk] at he
        | _ => simp [eqC] at he
      | _ => simp [eqC] at he
    · rename_i hud
      simp only [Option.some.injEq] at h
      subst h
      obtain ⟨a, b, rfl, rfl⟩ := one rfl
      simp only [eqVs] at he
      cases a <;> cases b <;> simp [eqC] at he
      subst he
      simp only [vOf, hud, List.headD_cons]
      simp [Op.equalIn, run_underlying hud]
    · rename_i fs hud
      split at h
      · cases h
      · rename_i hst
        have hf : P.underlying t = some (.struct (P.fieldsOf t)) := by simp [Program.fieldsOf, hud]
        have hfs : P.fieldsOf t = fs := by simp [Program.fieldsOf, hud]
        simp only [vOf, hud]
        rw [run_equalIn_struct w (d + D) t _ _ hf (by simpa using hst), hfs]
        refine eq_fields IH fs.toList 0 l us vs r h (by omega) (by omega) ?_ w
        rw [List.drop_zero, List.drop_zero, List.take_of_length_le (by omega), List.take_of_length_le (by omega)]
        exact he
    · rename_i n e hud
      split at h
      · rename_i l1 h1
        split at h
        · rename_i hs
          simp only [Option.some.injEq] at h
          subst h
          rw [flat_rep] at hu hv
          rw [Option.map_eq_some_iff] at hs
          obtain ⟨q, hq, hs⟩ := hs
          simp only [vOf, hud]
          rw [run_equalIn_array w (d + D) _ _ hud hq, List.range_eq_range']
          refine eq_items IH h1 (by rw [hq]; simp [hs]) n 0 us vs r (by rw [Nat.zero_add, hu]; exact Nat.le_refl _) (by rw [Nat.zero_add, hv]; exact Nat.le_refl _) ?_ w
          rw [Nat.zero_mul, List.drop_zero, List.drop_zero, List.take_of_length_le (by omega), List.take_of_length_le (by omega)]
          exact he
        · cases h
      · cases h
    · cases h

variable {g : GP} {rho : List Nat} {w : World} {s : AS} {a : Act} {o : Oper} {av : AV}

theorem eqCs_vs : ∀ {ks : List CK} {xs ys : List PV} {us vs : List Value} {r : Bool}, RelLP g xs us → RelLP g ys vs → eqCs ks xs ys = some r → eqVs ks us vs = some r
  | [], [], [], us, vs, r, h1, h2, h => by
    have e1 : us = [] := List.eq_nil_of_length_eq_zero h1.len.symm
    have e2 : vs = [] := List.eq_nil_of_length_eq_zero h2.len.symm
    subst e1 e2
    exact h
  | k :: ks, .val x :: xs, .val y :: ys, us, vs, r, h1, h2, h => by
    match us, vs, h1, h2 with
    | [], _, h1, _ => have := h1.len; simp at this
    | u :: us, [], _, h2 => have := h2.len; simp at this
    | u :: us, v :: vs, h1, h2 =>
      have e1 : u = x := by have := h1.at_ 0 _ _ rfl rfl; cases this; rfl
      have e2 : v = y := by have := h2.at_ 0 _ _ rfl rfl; cases this; rfl
      subst e1 e2
      simp only [eqCs] at h
      split at h
      · rename_i p q hp hq
        have := eqCs_vs (us := us) (vs := vs) ⟨by simpa using h1.len, fun v hv => h1.one v (List.mem_cons_of_mem _ hv), fun i x v hx hv => h1.at_ (i + 1) x v hx hv⟩ ⟨by simpa using h2.len, fun v hv => h2.one v (List.mem_cons_of_mem _ hv), fun i x v hx hv => h2.at_ (i + 1) x v hx hv⟩ hq
        simp only [eqVs, hp, this]
        exact h
      · cases h

theorem eqCs_len : ∀ {ks : List CK} {xs ys : List PV} {r : Bool}, eqCs ks xs ys = some r → xs.length = ks.length ∧ ys.length = ks.length
  | [], [], [], _, _ => ⟨rfl, rfl⟩
  | k :: ks, .val x :: xs, .val y :: ys, r, h => by
    simp only [eqCs] at h
    split at h
    · rename_i p q hp hq
      obtain ⟨h1, h2⟩ := eqCs_len hq
      simp [h1, h2]
    · cases h

theorem still_eqs {op : BinOp} {t ty : TypeId} {x y : Operand} {ne : Bool} (hop : o.op = .binOp op t x y ty) (hne : op = if ne then .neq else .eql) {ks : List CK} {x' y' : AX} (hk : flatK P 100 t = some ks) (hg : P.eqGuardType P.depth t = false)
    (hag : (∃ fs, P.underlying t = some (.struct fs)) ∨ (∃ n e, P.underlying t = some (.array n e))) (hx : cx x = some x') (hy : cx y = some y') (hT : Tmps g rho s a) (h : stillV s (.eqs ks ne x' y') = some av) : StillOk P g rho [] w a o av := by
  have h0 := cx_rel hT hx
  have h1 := cx_rel hT hy
  simp only [stillV] at h
  split at h
  · rename_i p q he1 he2
    rw [he1] at h0
    rw [he2] at h1
    obtain ⟨us, e1, hu⟩ := rel_aggP h0
    obtain ⟨vs, e2, hv⟩ := rel_aggP h1
    rw [Option.map_eq_some_iff] at h
    obtain ⟨r, hr, rfl⟩ := h
    obtain ⟨l1, l2⟩ := eqCs_len hr
    have hvo : ∀ l : List Value, vOf P t l = .agg l.toArray := fun l => by
      rcases hag with ⟨fs, hu⟩ | ⟨n, e, hu⟩ <;> simp [vOf, hu]
    have key := eq_flat (P := P) 100 9900 t ks us vs r hk (by rw [← hu.len, l1]) (by rw [← hv.len, l2]) (eqCs_vs hu hv hr)
    refine ⟨.bool (if ne then !r else r), .p (.val _ rfl), fun w' _ _ => ?_⟩
    have hk2 := key w'
    rw [hvo, hvo] at hk2
    simp only [execOp, hop, e1, e2]
    refine run_v ?_
    rw [Sem.run_bind, run_eqGuard_agg w' op t x y _ _ hg]
    cases ne
    · simp only [Bool.false_eq_true, if_false] at hne ⊢
      subst hne
      simp only [Result.andThen_ok]
      rw [run_eql_struct, hk2]
      rfl
    · simp only [if_true] at hne ⊢
      subst hne
      simp only [Result.andThen_ok]
      rw [run_neq_struct, hk2]
      rfl
  · cases h
end
end Go.Proofs.YtlbolnlcncjijaaGreat
