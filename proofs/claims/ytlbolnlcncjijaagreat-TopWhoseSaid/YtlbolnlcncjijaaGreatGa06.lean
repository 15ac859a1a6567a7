/- Operations that lay slices are sound. append is sound. Values that show less. -/
import Derived.Test.YtlbolnlcncjijaaGreatGa05
namespace Go.Proofs.YtlbolnlcncjijaaGreat
open Go.RowKit Go.Shelf

section
variable {P : Program} {F : Fence} {E : Env P F} {g : GP} {rho rd ks : List Nat} {R : Nat → Prop} {ys : Option (List (List PV))} {w : World} {s : AS} {a : Act} {o : Oper} {K : AV → AS → Prop} {lst : Bool} {loc : List ABlk} {live : List Nat}

theorem fillA_length : ∀ {ps : List (Nat × Nat × AX)} {cs cs' : List AV}, fillA s ps cs = some cs' → cs'.length = cs.length
  | [], cs, cs', h => by simp only [fillA, Option.some.injEq] at h; rw [h]
  | (off, n, x) :: l, cs, cs', h => by
    simp only [fillA] at h
    split at h
    · rename_i v hv
      split at h
      · rename_i hlen
        have hvl : v.length = n := by
          unfold cellsA at hv
          split at hv
          · split at hv
            · rename_i e; simp only [Option.some.injEq] at hv; subst hv; simpa using e
            · cases hv
          · cases hv
          · cases hv
          · cases hv
          · split at hv
            · rename_i e; simp only [Option.some.injEq] at hv; subst hv; exact e
            · cases hv
          · cases hv
          · split at hv
            · rename_i e; simp only [Option.some.injEq] at hv; subst hv; simpa using e.symm
            · cases hv
        rw [fillA_length h]
        simp only [putCells, List.length_append, List.length_take, List.length_drop]
        omega
      · cases h
    · cases h

theorem eff_bslice {t e : TypeId} {n sz : Nat} {m : Bool} {z : List PV} {qs : Array (Nat × Operand)} {ps : List (Nat × Nat × AX)} (hop : o.op = .buildSlice t n qs) (hu : P.underlying t = some (.slice e)) (hsz : sizeN P e = some sz) (hz : zeroN P e = some z)
    (hb : n * sz ≤ 1000 ∧ 0 < sz ∧ z.length = sz) (hc : cparts (fun i => some (i * sz, sz)) qs.toList = some ps) (hI : Inv E g rho R ks s.loc s.live s.ys w) (hT : Tmps g rho s a)
    (h : effQ (SemK P F) lst rd s K (.bslice m e sz n z ps)) : EffOk P F a w o (Did E g rho ks lst rd w (s.t, s.base) K) := by
  obtain ⟨it, zv, hit, hzv, hr⟩ := zeroN_rel (g := g) hz
  unfold sizeN at hsz
  rw [Option.map_eq_some_iff] at hsz
  obtain ⟨ti, hti, hsz⟩ := hsz
  rw [hit] at hti
  simp only [Option.some.injEq] at hti
  subst hti
  have hzs : zv.cells.size = sz := by rw [← Array.length_toList, ← hr.len, hb.2.2]
  have hn : n ≤ 1000 := Nat.le_trans (Nat.le_mul_of_pos_right n hb.2.1) hb.1
  simp only [effQ] at h
  split at h
  · rename_i cs hf
    obtain ⟨vs', h1, h2⟩ := fill_rel _ hc hf hT (RelLP.toRelL (rho := rho) (relL_repl hr n))
    have hcl : vs'.length = n * sz := by
      rw [← h2.len, fillA_length hf, List.length_map, repl_length, hb.2.2]
    have hparts : (qs.map fun (i, x) => (i, a.eval x)).toList = qs.toList.map fun q => (q.1, a.eval q.2) := by simp
    have hmade : (Array.range (n * sz)).map (zv.cells[· % zv.cells.size]!) = (repl n zv.cells.toList).toArray := by
      have := made_repl zv.cells n (by omega)
      rw [hzs] at this
      rw [← this, hzs]
    have run : (execOp a.eval o).run P w = .ok (.value (.slice (some ⟨w.heap.size, 0, none⟩) n n)) (w.alloc (.cells vs'.toArray e)) := by
      simp only [execOp, hop]
      refine run_vw ?_
      by_cases h0 : n * it.size = 0
      · have hn0 : n = 0 := by
          rcases Nat.mul_eq_zero.1 h0 with h | h
          · exact h
          · omega
        subst hn0
        have h3 : Instr.fill (fun i => some (i * sz, sz)) #[] (qs.toList.map fun q => (q.1, a.eval q.2)) = some vs'.toArray := h1
        have h4 : Instr.fill (fun i => some (i * it.size, it.size)) #[] (qs.map fun (i, x) => (i, a.eval x)).toList = some vs'.toArray := by
          rw [hparts, hsz]; exact h3
        simp only [Array.toList_map] at h4
        simp [Instr.buildSlice, run_underlying hu, sizeOf, typeInfo, hit, newRow]
        have h5 : (Array.range 0).map (fun _ : Nat => (default : Value)) = #[] := by simp [Array.range_zero']
        rw [h5, h4]
        simp
      · refine run_buildSlice w t e n _ _ it zv hu hit hzv (by rw [hsz]; omega) h0 ?_
        rw [hparts, hsz, hmade]
        exact h1
    cases m with
    | true =>
      have hI2 := hI.box (us := []) e h2
      rw [List.append_nil] at hI2
      exact .inl ⟨_, _, run, .sli s.loc.length n sz, g, rho ++ [w.heap.size], R, mkOwn s cs, hI2, GP.le.refl g, Pre.app _ _, .sli (by rw [← hI.len]; simp) (Nat.le_refl _) (by unfold maxLen; omega) (by omega), rfl,
        fun _ id _ b hb' => Below.heap_alloc w _ b (hI.rlt id b hb').2.1, h⟩
    | false =>
      simp only at h
      split at h
      · rename_i l hl
        rw [pures_map hl] at h2
        have hrl := h2.pure
        obtain ⟨hI2, hle⟩ := hI.lay vs' e h2.one (n * sz) (by omega) w rfl rfl rfl rfl
        have hll : l.length = n * sz := by rw [hrl.len, hcl]
        refine .inl ⟨_, _, run, .p (.sl .full sz (rows sz n l)), _, rho, R, s, hI2, hle, Pre.refl rho, .p ?_, rfl, fun _ id _ b hb' => Below.heap_alloc w _ b (hI.rlt id b hb').2.1, h⟩
        refine relP_rows hll ⟨hrl.len, hrl.one, fun i x v hx hv => (hrl.at_ i x v hx hv).mono hle⟩ (by omega) (Nat.le_refl _) (by unfold maxLen; omega) .full rfl (fun q hq => ?_)
        simp only [GP.fz]
        rw [if_pos ⟨trivial, by omega, hq⟩]
      · exact h.elim
  · exact h.elim

theorem rows_repl (z : List PV) : ∀ n, rows z.length n (repl n z) = List.replicate n z
  | 0 => rfl
  | n + 1 => by simp [rows, repl, rows_repl z n, List.replicate_succ]
theorem repl_add {α : Type} (z : List α) : ∀ n m, repl (n + m) z = repl n z ++ repl m z
  | 0, m => by simp [repl]
  | n + 1, m => by rw [show n + 1 + m = (n + m) + 1 by omega]; simp [repl, repl_add z n m]

theorem int_of {x : AX} {q : Operand} {n : Int} (hx : cx q = some x) (hT : Tmps g rho s a) (h : (x.ev s).int? = some n) : ∃ k, a.eval q = .int k n ∧ scalar (.int k n) = true := by
  have h0 := cx_rel hT hx
  generalize x.ev s = u at h0 h
  cases u with
  | p y =>
    cases y with
    | val v =>
      cases v with
      | int k m =>
        simp only [AV.int?, Option.some.injEq] at h
        subst h
        exact ⟨k, rel_val h0⟩
      | _ => simp [AV.int?] at h
    | _ => simp [AV.int?] at h
  | _ => simp [AV.int?] at h

theorem eff_mks {t e : TypeId} {m : Bool} {z : List PV} {ql qc : Operand} {xl xc : AX} {it : TypeInfo} (hop : o.op = .makeSlice t ql qc) (hu : P.underlying t = some (.slice e)) (hit : P.info? e = some it) (hz : zeroN P e = some z) (hl : cx ql = some xl) (hc : cx qc = some xc)
    (hb : 0 < it.size ∧ z.length = it.size ∧ it.bytes ≤ 1000) (hI : Inv E g rho R ks s.loc s.live s.ys w) (hT : Tmps g rho s a)
    (h : effQ (SemK P F) lst rd s K (.mks m e it.size it.bytes z xl xc)) : EffOk P F a w o (Did E g rho ks lst rd w (s.t, s.base) K) := by
  obtain ⟨it', zv, hit', hzv, hr⟩ := zeroN_rel (g := g) hz
  rw [hit] at hit'
  simp only [Option.some.injEq] at hit'
  subst hit'
  have hzs : zv.cells.size = it.size := by rw [← Array.length_toList, ← hr.len, hb.2.1]
  have hzl : zv.cells.toList.length = it.size := by simpa using hzs
  simp only [effQ] at h
  split at h
  · rename_i l c h1 h2
    obtain ⟨hl0, hlc, hcm, h⟩ := h
    obtain ⟨kl, e1, _⟩ := int_of hl hT h1
    obtain ⟨kc, e2, _⟩ := int_of hc hT h2
    have hbytes : (it.bytes : Int) * c ≤ 281474976710656 := by
      have h3 : (it.bytes : Int) * c ≤ 1000 * 1000000 := Int.mul_le_mul (by omega) hcm (by omega) (by omega)
      omega
    have hmade : madeCells zv.cells (c.toNat * it.size) = (repl c.toNat zv.cells.toList).toArray := by
      have := made_repl zv.cells c.toNat (by omega)
      rw [hzs] at this
      unfold madeCells
      rw [hzs, ← this]
    have run : (execOp a.eval o).run P w = .ok (.value (.slice (some ⟨w.heap.size, 0, none⟩) l.toNat c.toNat)) (w.alloc (.cells (repl c.toNat zv.cells.toList).toArray e)) := by
      simp only [execOp, hop]
      refine run_vw ?_
      rw [e1, e2, run_make w t e it zv hu hit hzv kl kc l c hl0 hlc hbytes (by omega), hmade]
    have hrc := relL_repl hr c.toNat
    have hpre : repl c.toNat zv.cells.toList = repl l.toNat zv.cells.toList ++ repl (c.toNat - l.toNat) zv.cells.toList := by
      rw [← repl_add]; congr 1; omega
    cases m with
    | true =>
      have hI2 := hI.box (us := repl (c.toNat - l.toNat) zv.cells.toList) e (RelLP.toRelL (rho := rho) (relL_repl hr l.toNat))
      rw [← hpre] at hI2
      exact .inl ⟨_, _, run, .sli s.loc.length l.toNat it.size, g, rho ++ [w.heap.size], R, mkOwn s _, hI2, GP.le.refl g, Pre.app _ _, .sli (by rw [← hI.len]; simp) (by omega) (by unfold maxLen; omega) (by omega), rfl,
        fun _ id _ b hb' => Below.heap_alloc w _ b (hI.rlt id b hb').2.1, h⟩
    | false =>
      obtain ⟨g', t', ht, hle, hI2, htok, hfz⟩ := hI.layTok (repl c.toNat zv.cells.toList) e hrc.one l.toNat c.toNat it.size (by rw [repl_length, hzl]) (by omega) (by unfold maxLen; omega) w rfl rfl rfl rfl
      refine .inl ⟨_, _, run, _, g', rho, R, { s with live := t' :: s.live }, hI2, hle, Pre.refl rho, .p ?_, rfl, fun _ id _ b hb' => Below.heap_alloc w _ b (hI.rlt id b hb').2.1, h t' (hI.notin ht)⟩
      have hrl := relL_repl hr l.toNat
      rw [← rows_repl, hb.2.1]
      refine relP_rows (by rw [repl_length, hb.2.1]) ⟨hrl.len, hrl.one, fun i x v hx hv => (hrl.at_ i x v hx hv).mono hle⟩ (by omega) (by omega) (by unfold maxLen; omega) _ htok (fun q hq => ?_)
      rw [hfz q hq, hpre, List.getD_eq_getElem?_getD, List.getD_eq_getElem?_getD, List.getElem?_append_left (by rw [repl_length, hzl]; exact hq)]
  · exact h.elim
end
end Go.Proofs.YtlbolnlcncjijaaGreat
namespace Go.Proofs.YtlbolnlcncjijaaGreat
open Go.RowKit Go.Shelf

section
variable {P : Program} {F : Fence} {E : Env P F} {g : GP} {rho rd ks : List Nat} {R : Nat → Prop} {ys : Option (List (List PV))} {w : World} {s : AS} {a : Act} {o : Oper} {K : AV → AS → Prop} {lst : Bool} {loc : List ABlk} {live : List Nat}

theorem run_append_zero {t ty e : TypeId} {it : TypeInfo} (hu : P.underlying t = some (.slice e)) (hit : P.info? e = some it) {ad ad' : Option Addr} {n c c' : Nat} (hc : n ≤ c) (w : World) :
    (Builtin.append_ #[t, t] ty #[.slice ad n c, .slice ad' 0 c']).run P w = .ok (.slice ad n c) w := by
  cases ad <;> cases ad' <;> simp [Builtin.append_, run_underlying hu, sizeOf, typeInfo, hit, Builtin.lenOf, Builtin.firstCells, hc, storeCells, loadCells, loadCellsFrom]

theorem range_get (F : Nat → Value) (n j : Nat) (v : Value) (h : ((List.range n).map F)[j]? = some v) : j < n ∧ v = F j := by
  rw [List.getElem?_map, Option.map_eq_some_iff] at h
  obtain ⟨q, hq, rfl⟩ := h
  obtain ⟨h1, h2⟩ := List.getElem?_eq_some_iff.1 hq
  rw [List.length_range] at h1
  rw [List.getElem_range] at h2
  subst h2
  exact ⟨h1, rfl⟩

theorem app_cases (hI : Inv E g rho R ks loc live ys w) {t ty e : TypeId} {it : TypeInfo} {zv : Value} (hu : P.underlying t = some (.slice e)) (hit : P.info? e = some it) (hzv : it.zero = some zv) (hzs : zv.cells.size = it.size) (h1z : ∀ v ∈ zv.cells.toList, v.oneCell' = true) (hsz : 0 < it.size) (hby : it.bytes ≤ 1000)
    {k k2 : SK} {es news : List (List PV)} {vx vy : Value} (hx : RelP g (.sl k it.size es) vx) (hy : RelP g (.sl k2 it.size news) vy) (hlen : es.length + news.length ≤ 1000000)
    (hk : canApp live e it.size k) :
    (news = [] ∧ (Builtin.append_ #[t, t] ty #[vx, vy]).run P w = .ok vx w) ∨
    (∃ t1 b n c cur, ∃ nc : List Value, k = .own t1 e it.size ∧ t1 ∈ live ∧ g.tok t1 = some (.slice (some ⟨b, 0, none⟩) n c, e, it.size) ∧ n < c ∧ w.heap[b]? = some (.cells cur e (0, 0)) ∧ c ≤ maxLen ∧ cur.size = c * it.size ∧ (∀ o, n * it.size ≤ o → g.frz b o = none) ∧
      es.length = n ∧ nc.length = news.length * it.size ∧ (∀ v ∈ nc, v.oneCell' = true) ∧ n + news.length ≤ c ∧ (∃ F : Nat → Value, (∀ q, q < n * it.size → g.cel b q (F q)) ∧ ∀ (i j : Nat) (e : List PV) (x : PV), es[i]? = some e → e[j]? = some x → RelP g x (F (i * it.size + j))) ∧
      (∀ (i j : Nat) (e : List PV) (x : PV), news[i]? = some e → e[j]? = some x → RelP g x (nc.getD (i * it.size + j) undef)) ∧
      (Builtin.append_ #[t, t] ty #[vx, vy]).run P w = .ok (.slice (some ⟨b, 0, none⟩) (n + news.length) c) (w.setRow b (cur.toList.take (n * it.size) ++ nc ++ cur.toList.drop (n * it.size + nc.length)).toArray)) ∨
    (news ≠ [] ∧ ∃ (cs : List Value) (c : Nat), cs.length = c * it.size ∧ es.length + news.length ≤ c ∧ c ≤ maxLen ∧ (∀ v ∈ cs, v.oneCell' = true) ∧
      (∀ (i j : Nat) (e : List PV) (x : PV), (es ++ news)[i]? = some e → e[j]? = some x → RelP g x (cs.getD (i * it.size + j) undef)) ∧
      (Builtin.append_ #[t, t] ty #[vx, vy]).run P w = .ok (.slice (some ⟨w.heap.size, 0, none⟩) (es.length + news.length) c) (w.drew.alloc (.cells cs.toArray e))) := by
  obtain ⟨ad, n, c, F, rfl, hl, hc, hm, hok, hz, hat, hrel⟩ := relP_cells hx
  obtain ⟨ad2, m, c2, F2, rfl, hl2, hc2, hm2, hok2, hz2, hat2, hrel2⟩ := relP_cells hy
  have cell : ∀ {b o q : Nat} {v : Value}, g.cel b (o + q) v → w.cell? ((⟨b, o, none⟩ : Addr).add q) = some v ∧ v.oneCell' = true := fun h => by
    rw [addr_add]; exact hI.agree.cel h
  by_cases hm0 : m = 0
  · subst hm0
    exact .inl ⟨List.eq_nil_of_length_eq_zero hl2, run_append_zero hu hit hc w⟩
  · have hne : news ≠ [] := fun e => hm0 (by rw [← hl2, e]; rfl)
    obtain ⟨b2, o2, rfl, hf2⟩ := hat2 (by omega)
    have hncl : ((List.range (m * it.size)).map F2).length = m * it.size := by simp
    have hnews : ∀ j u, ((List.range (m * it.size)).map F2)[j]? = some u → w.cell? ((⟨b2, o2, none⟩ : Addr).add j) = some u := fun j u h => by
      obtain ⟨h1, rfl⟩ := range_get _ _ _ _ h
      exact (cell (hf2 j h1)).1
    have hone : ∀ v ∈ (List.range (m * it.size)).map F2, v.oneCell' = true := fun v hv => by
      obtain ⟨j, hj⟩ := List.mem_iff_getElem?.1 hv
      obtain ⟨h1, rfl⟩ := range_get _ _ _ _ hj
      exact (cell (hf2 j h1)).2
    have lt : ∀ {N : Nat} {l : List (List PV)} {i j : Nat} {e : List PV} {x : PV}, (∀ (i : Nat) (e : List PV), l[i]? = some e → e.length = it.size) → l.length = N → l[i]? = some e → e[j]? = some x → i * it.size + j < N * it.size := by
      intro N l i j e x hz hN he hx
      have h1 : i < N := by rw [← hN]; exact (List.getElem?_eq_some_iff.1 he).1
      have h2 : j < it.size := by rw [← hz i e he]; exact (List.getElem?_eq_some_iff.1 hx).1
      have : (i + 1) * it.size ≤ N * it.size := Nat.mul_le_mul_right _ h1
      rw [Nat.add_mul] at this
      omega
    have relN : ∀ (i j : Nat) (e : List PV) (x : PV), news[i]? = some e → e[j]? = some x → RelP g x (((List.range (m * it.size)).map F2).getD (i * it.size + j) undef) := fun i j e x he hx => by
      have h1 := lt hz2 hl2 he hx
      have : ((List.range (m * it.size)).map F2).getD (i * it.size + j) undef = F2 (i * it.size + j) := by simp [List.getD_eq_getElem?_getD, h1]
      rw [this]
      exact hrel2 i j e x he hx
    by_cases hroom : n + m ≤ c
    · have hlt : n < c := by omega
      cases k with
      | sh => exact hk.elim
      | full => have : c = n := hok; omega
      | own t1 e' sz' =>
        obtain ⟨ht1, rfl, rfl⟩ := hk
        have htok : g.tok t1 = some (.slice ad n c, e', it.size) := hok
        obtain ⟨v, e2, sz2, h3, h4⟩ := hI.toks t1 ht1
        rw [htok] at h3
        simp only [Option.some.injEq, Prod.mk.injEq] at h3
        obtain ⟨rfl, rfl, rfl⟩ := h3
        obtain ⟨b, hb⟩ : ∃ b, rowB (.slice ad n c) = some b := ⟨_, by simp only [rowB]; rw [if_pos hlt]⟩
        obtain ⟨n', xs, h5, h6⟩ := h4 b hb
        obtain ⟨c', cur, h7, _, _, hblk, _, hcs, htake⟩ := rowB_row hb h5
        simp only [Value.slice.injEq] at h7
        obtain ⟨rfl, rfl, rfl⟩ := h7
        refine .inr (.inl ⟨t1, b, n, c, cur, _, rfl, ht1, htok, hlt, hblk, hm, hcs, h6, hl, by rw [hncl, hl2], hone, by omega, ⟨F, fun q hq => ?_, hrel⟩, relN, ?_⟩)
        · have hn0 : 0 < n := by
            rcases Nat.eq_zero_or_pos n with h0 | h0
            · rw [h0] at hq; omega
            · exact h0
          obtain ⟨b', o', e1, hf⟩ := hat hn0
          simp only [Option.some.injEq, Addr.mk.injEq, and_true] at e1
          obtain ⟨rfl, rfl⟩ := e1
          have := hf q hq
          rwa [Nat.zero_add] at this
        · rw [hl2]
          refine run_append_room (P := P) w t ty e' it hu hit b n c cur hblk ⟨b2, o2, none⟩ m c2 _ hncl hnews hone hroom ?_
          rw [hncl, hcs, ← Nat.add_mul]
          exact Nat.mul_le_mul_right _ hroom
    · have hfit : Builtin.nextslicecap (n + m) c * it.bytes ≤ 281474976710656 := growslice_fits (by omega) (by
        have : (n + m) * it.bytes ≤ 1000000 * 1000 := Nat.mul_le_mul (by omega) hby
        omega)
      have hgc : n + m ≤ grownCap w (n + m) c e := grownCap_ge w _ _ _
      have hgm : grownCap w (n + m) c e ≤ maxLen := grownCap_le_maxLen w _ _ _ (by unfold maxLen; omega)
      refine .inr (.inr ⟨hne, (List.range (n * it.size)).map F ++ (List.range (m * it.size)).map F2 ++ (Builtin.zeroCells zv.cells (grownCap w (n + m) c e - (n + m))).toList, grownCap w (n + m) c e, ?_, by omega, hgm, ?_, ?_, ?_⟩)
      · simp only [List.length_append, List.length_map, List.length_range, Array.length_toList, size_zeroCells, hzs, ← Nat.add_mul]
        congr 1
        omega
      · intro v hv
        rcases List.mem_append.1 hv with hv | hv
        · rcases List.mem_append.1 hv with hv | hv
          · obtain ⟨j, hj⟩ := List.mem_iff_getElem?.1 hv
            obtain ⟨h1, rfl⟩ := range_get _ _ _ _ hj
            have hn0 : 0 < n := by
              rcases Nat.eq_zero_or_pos n with h0 | h0
              · rw [h0] at h1; omega
              · exact h0
            obtain ⟨b', o', e1, hf⟩ := hat hn0
            exact (cell (hf j h1)).2
          · exact hone v hv
        · unfold Builtin.zeroCells at hv
          simp only [Array.mem_toList_iff, Array.mem_map] at hv
          obtain ⟨q, hq, rfl⟩ := hv
          have hlt : q % zv.cells.size < zv.cells.size := Nat.mod_lt _ (by omega)
          have h5 : zv.cells[q % zv.cells.size]! = zv.cells[q % zv.cells.size] := getElem!_pos zv.cells (q % zv.cells.size) hlt
          rw [h5]
          exact h1z _ (by simp)
      · intro i j e' x he hx
        by_cases hi : i < es.length
        · rw [List.getElem?_append_left hi] at he
          have h1 := lt hz hl he hx
          rw [List.append_assoc, List.getD_eq_getElem?_getD, List.getElem?_append_left (by simpa using h1)]
          have : ((List.range (n * it.size)).map F)[i * it.size + j]?.getD undef = F (i * it.size + j) := by simp [h1]
          rw [this]
          exact hrel i j e' x he hx
        · rw [List.getElem?_append_right (by omega)] at he
          have h1 := lt hz2 hl2 he hx
          have e1 : i * it.size + j = n * it.size + ((i - es.length) * it.size + j) := by
            have : i = n + (i - es.length) := by omega
            conv => lhs; rw [this, Nat.add_mul]
            omega
          rw [List.append_assoc, e1, List.getD_eq_getElem?_getD, List.getElem?_append_right (by simp), List.length_map, List.length_range, Nat.add_sub_cancel_left, List.getElem?_append_left (by simpa using h1), ← List.getD_eq_getElem?_getD]
          exact relN _ j e' x he hx
      · rw [hl, hl2]
        cases ad with
        | none =>
          have hn0 : n = 0 := by
            rcases Nat.eq_zero_or_pos n with h0 | h0
            · exact h0
            · obtain ⟨b', o', e1, _⟩ := hat h0; cases e1
          have hc0 : c = 0 := by
            cases k with
            | sh => exact hk.elim
            | full => have : c = n := hok; omega
            | own t1 e' sz' =>
              obtain ⟨ht1, rfl, rfl⟩ := hk
              rcases Nat.lt_or_ge n c with hlt | hge
              · have htok : g.tok t1 = some (.slice none n c, e', it.size) := hok
                obtain ⟨v, e2, sz2, h3, h4⟩ := hI.toks t1 ht1
                rw [htok] at h3
                simp only [Option.some.injEq, Prod.mk.injEq] at h3
                obtain ⟨rfl, rfl, rfl⟩ := h3
                obtain ⟨b, hb⟩ : ∃ b, rowB (.slice none n c) = some b := ⟨_, by simp only [rowB]; rw [if_pos hlt]⟩
                obtain ⟨n', xs, h5, h6⟩ := h4 b hb
                obtain ⟨c', cur, h7, _⟩ := rowB_row hb h5
                simp at h7
              · omega
          subst hn0
          subst hc0
          have hr := run_append_nil (P := P) w t ty e it zv hu hit hzv ⟨b2, o2, none⟩ m c2 _ hncl hnews (by omega) (by omega) (by
            have : m * it.bytes ≤ 1000000 * 1000 := Nat.mul_le_mul (by omega) hby
            omega)
          simp only [Nat.zero_add] at hr ⊢
          rw [hr]
          congr 3
          apply Array.ext'
          simp
        | some b =>
          have holds : ∀ j v, ((List.range (n * it.size)).map F)[j]? = some v → w.cell? (b.add j) = some v := fun j v h => by
            obtain ⟨h1, rfl⟩ := range_get _ _ _ _ h
            have hn0 : 0 < n := by
              rcases Nat.eq_zero_or_pos n with h0 | h0
              · rw [h0] at h1; omega
              · exact h0
            obtain ⟨b', o', e1, hf⟩ := hat hn0
            simp only [Option.some.injEq] at e1
            subst e1
            exact (cell (hf j h1)).1
          have hr := run_append_grow (P := P) w t ty e it zv hu hit hzv b n c _ (by simp) holds ⟨b2, o2, none⟩ m c2 _ hncl hnews (by omega) (by omega) hfit
          rw [hr]
          congr 3
          apply Array.ext'
          simp

theorem relP_nz {k : SK} {sz sz' : Nat} {es : List (List PV)} {v : Value} (h : RelP g (.sl k sz es) v) (he : sz = sz' ∨ es = []) : RelP g (.sl k sz' es) v := by
  rcases he with rfl | rfl
  · exact h
  · exact relP_nilsz h
theorem run_callV {b : Builtin} {c : Call} (hop : o.op = .call c) (hb : c.callee = .builtin b) {m : Sem Value} {w w' : World} {v : Value}
    (hm : ∀ cs, (builtin b c.argTypes o.type cs (c.args.map a.eval)) = (do pure (Next.value (← m)) : Sem Next)) (hr : m.run P w = .ok v w') : (execOp a.eval o).run P w = .ok (.value v) w' := by
  simp only [execOp, hop, Sem.run_bind, resolve, hb, Sem.run_pure, Result.andThen_ok, invoke]
  rw [hm]
  exact run_vw hr

theorem eff_app {c : Call} (hop : o.op = .call c) (hb : c.callee = .builtin .append) {t e : TypeId} {it : TypeInfo} {m : Bool} {z : List PV} {qx qy : Operand} {x y : AX} (hat : c.argTypes.toList = [t, t]) (hargs : c.args.toList = [qx, qy])
    (hu : P.underlying t = some (.slice e)) (hit : P.info? e = some it) (hz : zeroN P e = some z) (hx : cx qx = some x) (hy : cx qy = some y) (hb2 : 0 < it.size ∧ z.length = it.size ∧ it.bytes ≤ 1000)
    (hI : Inv E g rho R ks s.loc s.live s.ys w) (hT : Tmps g rho s a) (h : effQ (SemK P F) lst rd s K (.app m e it.size it.bytes z x y)) : EffOk P F a w o (Did E g rho ks lst rd w (s.t, s.base) K) := by
  obtain ⟨it', zv, hit', hzv, hr⟩ := zeroN_rel (g := g) hz
  rw [hit] at hit'
  simp only [Option.some.injEq] at hit'
  subst hit'
  have hzs : zv.cells.size = it.size := by rw [← Array.length_toList, ← hr.len, hb2.2.1]
  have harr : c.args.map a.eval = #[a.eval qx, a.eval qy] := by apply Array.ext'; simp [hargs]
  have htarr : c.argTypes = #[t, t] := by apply Array.ext'; simp [hat]
  have run : ∀ {v : Value} {w' : World}, (Builtin.append_ #[t, t] o.type #[a.eval qx, a.eval qy]).run P w = .ok v w' → (execOp a.eval o).run P w = .ok (.value v) w' := fun hr => by
    refine run_callV hop hb (fun _ => rfl) ?_
    rw [harr, htarr]
    exact hr
  have h0 := cx_rel hT hx
  have h1 := cx_rel hT hy
  simp only [effQ] at h
  split at h
  · rename_i k sz1 es k2 sz2 news he1 he2
    rw [he1] at h0
    rw [he2] at h1
    generalize hvx : a.eval qx = vx at h0 run
    generalize hvy : a.eval qy = vy at h1 run
    obtain ⟨hs1, hs2, hlen, h⟩ := h
    cases h0 with
    | p h0 =>
    cases h1 with
    | p h1 =>
    have h0 := relP_nz h0 hs1
    have h1 := relP_nz h1 hs2
    have hza : ∀ (i : Nat) (e : List PV), es[i]? = some e → e.length = it.size := by
      obtain ⟨_, _, _, _, _, _, _, _, _, hz, _⟩ := relP_cells h0; exact hz
    have hzb : ∀ (i : Nat) (e : List PV), news[i]? = some e → e.length = it.size := by
      obtain ⟨_, _, _, _, _, _, _, _, _, hz, _⟩ := relP_cells h1; exact hz
    have hzc : ∀ (i : Nat) (e : List PV), (es ++ news)[i]? = some e → e.length = it.size := fun i e he => by
      by_cases hi : i < es.length
      · rw [List.getElem?_append_left hi] at he; exact hza i e he
      · rw [List.getElem?_append_right (by omega)] at he; exact hzb _ e he
    have keep : ∀ id ∈ rd, ∀ b, rho[id]? = some b → ∀ cs : List Value, (w.drew.alloc (.cells cs.toArray e)).heap[b]? = w.heap[b]? := fun id _ b hb' cs => Below.heap_alloc w.drew _ b (hI.rlt id b hb').2.1
    cases m with
    | false =>
      obtain ⟨hk, h⟩ := h
      have hsub : (liveApp s.live k).Sublist s.live := by
        unfold liveApp
        split
        · exact List.erase_sublist
        · exact List.Sublist.refl _
      rcases app_cases (ty := o.type) hI hu hit hzv hzs hr.one hb2.1 hb2.2.2 h0 h1 hlen hk with ⟨rfl, hrun⟩ | ⟨t1, b, n, c', cur, nc, rfl, ht1, htok, hnc, hblk, hcm, hcs, hfr, hl, hncl, hone, hroom, ⟨F, hF1, hF2⟩, hN, hrun⟩ | ⟨hne, cs, c', hcs, hcc, hcm, hone, hrel, hrun⟩
      · -- nothing to append
        obtain ⟨t', ht'⟩ := hI.fresh
        obtain ⟨ad, n, c', F, rfl, hl, hc, hm, hok, hz', hat', hrel⟩ := relP_cells h0
        have hI1 := hI.fewer hsub
        obtain ⟨hI2, hle⟩ := hI1.token (t := t') (v := .slice ad n c') (e := e) (sz := it.size) ht' (fun b hb' => by
          cases k with
          | sh => exact hk.elim
          | full =>
            have : c' = n := hok
            subst this
            simp [rowB] at hb'
          | own t1 e' sz' =>
            obtain ⟨ht1, rfl, rfl⟩ := hk
            have htok : g.tok t1 = some (.slice ad n c', e', it.size) := hok
            obtain ⟨v, e2, sz2, h3, h4⟩ := hI.toks t1 ht1
            rw [htok] at h3
            simp only [Option.some.injEq, Prod.mk.injEq] at h3
            obtain ⟨rfl, rfl, rfl⟩ := h3
            obtain ⟨h5, h6⟩ := hI.tdis t1 ht1 _ _ _ b htok hb'
            refine ⟨h4 b hb', h5, fun t2 ht2 v' e2 sz2 h7 h8 => ?_⟩
            simp only [liveApp] at ht2
            rw [hI.nodup.mem_erase_iff] at ht2
            exact ht2.1 (h6 t2 ht2.2 v' e2 sz2 h7 h8))
        refine .inl ⟨_, _, run hrun, _, _, rho, R, { s with live := t' :: liveApp s.live k }, hI2, hle, Pre.refl rho, .p ?_, rfl, fun _ id _ b hb' => rfl, h t' (hI.notin ht')⟩
        rw [List.append_nil]
        exact RelP.sl _ _ _ ad n c' (fun i j => F (i * it.size + j)) hl (by
          have := hl; simp at hlen; omega) hc hm (by simp [SK.ok, GP.tk]) hz' (fun i hi => by
          obtain ⟨b, o', e1, hf⟩ := hat' (by omega)
          refine ⟨b, o', e1, fun j hj => ?_⟩
          have : (i + 1) * it.size ≤ n * it.size := Nat.mul_le_mul_right _ hi
          rw [Nat.add_mul] at this
          rw [Nat.add_assoc]
          exact hle.cel (hf _ (by omega))) (fun i j e x he hx => (hrel i j e x he hx).mono hle)
      · obtain ⟨g', t', ht', hle, hI2, htok', hfz⟩ := hI.room ht1 htok hnc hblk hcm hcs hfr nc news.length hncl hone hroom
        refine .inl ⟨_, _, run hrun, _, g', rho, R, { s with live := t' :: liveApp s.live (.own t1 e it.size) }, hI2, hle, Pre.refl rho, .p ?_, rfl, fun _ id hid b' hb' => setRow_other w b b' _ (fun e' => ?_), h t' (hI.notin ht')⟩
        · refine relP_at (F := fun q => if q < n * it.size then F q else nc.getD (q - n * it.size) undef) (by rw [List.length_append, hl]) hzc (fun i j e x he hx => ?_) (fun q hq => ?_) (by omega) hroom hcm htok'
          · by_cases hi : i < es.length
            · rw [List.getElem?_append_left hi] at he
              have h2 : j < it.size := by rw [← hza i e he]; exact (List.getElem?_eq_some_iff.1 hx).1
              have h3 : (i + 1) * it.size ≤ n * it.size := Nat.mul_le_mul_right _ (by omega)
              rw [Nat.add_mul] at h3
              rw [if_pos (by omega)]
              exact (hF2 i j e x he hx).mono hle
            · rw [List.getElem?_append_right (by omega)] at he
              have e1 : i * it.size + j = n * it.size + ((i - es.length) * it.size + j) := by
                have : i = n + (i - es.length) := by omega
                conv => lhs; rw [this, Nat.add_mul]
                omega
              rw [if_neg (by rw [e1]; omega), e1, Nat.add_sub_cancel_left]
              exact (hN _ j e x he hx).mono hle
          · rw [Nat.zero_add]
            by_cases hq' : q < n * it.size
            · rw [if_pos hq']; exact hle.cel (hF1 q hq')
            · rw [if_neg hq']
              rw [Nat.add_mul] at hq
              have := hfz (q - n * it.size) (by omega)
              rw [show n * it.size + (q - n * it.size) = q by omega] at this
              exact ⟨this, hone _ (getD_mem (by omega))⟩
        · subst e'
          have hrow : rowB (.slice (some ⟨b', 0, none⟩) n c') = some b' := by simp [rowB, hnc]
          exact (hI.tdis t1 ht1 _ _ _ _ htok hrow).1.1 id hb'
      · obtain ⟨g', t', ht', hle, hI2, htok', hfz⟩ := (hI.fewer hsub).layTok cs e hone (es.length + news.length) c' it.size hcs hcc hcm w.drew rfl rfl rfl rfl
        refine .inl ⟨_, _, run hrun, _, g', rho, R, { s with live := t' :: liveApp s.live k }, hI2, hle, Pre.refl rho, .p ?_, rfl, fun _ id hid b' hb' => keep id hid b' hb' cs, h t' (hI.notin ht')⟩
        exact relP_at (F := fun q => cs.getD q undef) (by simp) hzc (fun i j e x he hx => (hrel i j e x he hx).mono hle) (fun q hq => by rw [Nat.zero_add]; exact ⟨hfz q hq, hone _ (getD_mem (by rw [hcs]; exact Nat.lt_of_lt_of_le hq (Nat.mul_le_mul_right _ hcc)))⟩) (by omega) hcc hcm htok'
    | true =>
      obtain ⟨rfl, hK0, hK1⟩ := h
      rcases app_cases (ty := o.type) hI hu hit hzv hzs hr.one hb2.1 hb2.2.2 h0 h1 hlen trivial with ⟨rfl, hrun⟩ | ⟨t1, b, n, c', cur, nc, hkk, _⟩ | ⟨hne, cs, c', hcs, hcc, hcm, hone, hrel, hrun⟩
      · exact .inl ⟨_, _, run hrun, _, g, rho, R, s, hI, GP.le.refl g, Pre.refl rho, .p h0, rfl, fun _ _ _ _ _ => rfl, hK0 rfl⟩
      · cases hkk
      · have hfl : ∀ (l : List (List PV)), (∀ (i : Nat) (e : List PV), l[i]? = some e → e.length = it.size) → l.flatten.length = l.length * it.size ∧ ∀ (q : Nat) (x : PV), l.flatten[q]? = some x → ∃ i j e, q = i * it.size + j ∧ l[i]? = some e ∧ e[j]? = some x := by
          intro l
          induction l with
          | nil => intro _; exact ⟨by simp, fun q x h => by simp at h⟩
          | cons r l ih =>
            intro hz
            have hr0 : r.length = it.size := hz 0 r rfl
            obtain ⟨i1, i2⟩ := ih (fun i e he => hz (i + 1) e he)
            refine ⟨by simp only [List.flatten_cons, List.length_append, List.length_cons, i1, hr0, Nat.add_mul]; omega, fun q x hq => ?_⟩
            rw [List.flatten_cons] at hq
            by_cases hlt : q < r.length
            · rw [List.getElem?_append_left hlt] at hq
              exact ⟨0, q, r, by simp, rfl, hq⟩
            · rw [List.getElem?_append_right (by omega)] at hq
              obtain ⟨i, j, e', h1, h2, h3⟩ := i2 _ x hq
              exact ⟨i + 1, j, e', by rw [Nat.add_mul]; omega, h2, h3⟩
        obtain ⟨f1, f2⟩ := hfl (es ++ news) hzc
        have hnc : (es.length + news.length) * it.size ≤ cs.length := by rw [hcs]; exact Nat.mul_le_mul_right _ hcc
        have hrl : RelL g rho ((es ++ news).flatten.map .p) (cs.take ((es.length + news.length) * it.size)) := by
          refine ⟨by rw [List.length_map, f1, List.length_take, List.length_append]; omega, fun v hv => hone v (List.mem_of_mem_take hv), fun q x v hx hv => ?_⟩
          rw [List.getElem?_map, Option.map_eq_some_iff] at hx
          obtain ⟨y, hy, rfl⟩ := hx
          obtain ⟨i, j, e', rfl, he, hj⟩ := f2 q y hy
          have := hrel i j e' y he hj
          rw [List.getElem?_take] at hv
          split at hv
          · rw [List.getD_eq_getElem?_getD, hv] at this
            exact .p this
          · cases hv
        have hdrew : Inv E g rho R ks s.loc s.live s.ys w.drew := hI.drew
        have hI2 := hdrew.box (us := cs.drop ((es.length + news.length) * it.size)) e hrl
        rw [List.take_append_drop] at hI2
        exact .inl ⟨_, _, run hrun, .sli s.loc.length (es ++ news).length it.size, g, rho ++ [w.heap.size], R, mkOwn s _, hI2, GP.le.refl g, Pre.app _ _, by
          rw [List.length_append]
          exact .sli (by rw [← hI.len]; simp) hcc hcm (by omega), rfl, fun _ id hid b' hb' => keep id hid b' hb' cs, hK1 hne⟩
  · exact h.elim
end
end Go.Proofs.YtlbolnlcncjijaaGreat
namespace Go.Proofs.YtlbolnlcncjijaaGreat
open Go.RowKit Go.Shelf

theorem PVle.refl (x : PV) : PVle x x := fun _ _ h => h
theorem PVle.trans {x y z : PV} (h : PVle x y) (k : PVle y z) : PVle x z := fun g v r => k g v (h g v r)
theorem PVle.sh (k : SK) (sz : Nat) (es : List (List PV)) : PVle (.sl k sz es) (.sl .sh sz es) := fun _ _ h => h.share
theorem PVle.nil (k : SK) (sz sz' : Nat) : PVle (.sl k sz []) (.sl .sh sz' []) := fun _ _ h => (relP_nilsz h).share
theorem PVleL.refl : ∀ l : List PV, PVleL l l
  | [] => trivial
  | x :: l => ⟨PVle.refl x, PVleL.refl l⟩
theorem PVleL.spec : ∀ {l r : List PV}, PVleL l r → l.length = r.length ∧ ∀ (i : Nat) (x y : PV), l[i]? = some x → r[i]? = some y → PVle x y
  | [], [], _ => ⟨rfl, fun i x y h => by simp at h⟩
  | a :: l, b :: r, h => by
    obtain ⟨h1, h2⟩ := PVleL.spec h.2
    refine ⟨by simp [h1], fun i x y hx hy => ?_⟩
    cases i with
    | zero => simp at hx hy; subst hx; subst hy; exact h.1
    | succ i => exact h2 i x y (by simpa using hx) (by simpa using hy)
  | [], _ :: _, h => h.elim
  | _ :: _, [], h => h.elim
theorem PVle.agg {l r : List PV} (h : PVleL l r) : PVle (.agg l) (.agg r) := fun g v hv => by
  obtain ⟨h1, h2⟩ := h.spec
  cases hv with
  | agg _ vs hl h1' hh => exact .agg r vs (by omega) h1' (fun i x v hx hv => by
      have hi : i < l.length := by rw [h1]; exact (List.getElem?_eq_some_iff.1 hx).1
      exact h2 i _ x (List.getElem?_eq_getElem hi) hx g v (hh i _ v (List.getElem?_eq_getElem hi) hv))
theorem PVle.tup {l r : List PV} (h : PVleL l r) : PVle (.tup l) (.tup r) := fun g v hv => by
  obtain ⟨h1, h2⟩ := h.spec
  cases hv with
  | tup _ vs hl hh => exact .tup r vs (by omega) (fun i x v hx hv => by
      have hi : i < l.length := by rw [h1]; exact (List.getElem?_eq_some_iff.1 hx).1
      exact h2 i _ x (List.getElem?_eq_getElem hi) hx g v (hh i _ v (List.getElem?_eq_getElem hi) hv))
def PVleR : List (List PV) → List (List PV) → Prop
  | [], [] => True
  | x :: l, y :: r => PVleL x y ∧ PVleR l r
  | _, _ => False
theorem PVleR.refl : ∀ l : List (List PV), PVleR l l
  | [] => trivial
  | x :: l => ⟨PVleL.refl x, PVleR.refl l⟩
theorem PVleR.spec : ∀ {l r : List (List PV)}, PVleR l r → l.length = r.length ∧ ∀ (i : Nat) (x y : List PV), l[i]? = some x → r[i]? = some y → PVleL x y
  | [], [], _ => ⟨rfl, fun i x y h => by simp at h⟩
  | a :: l, b :: r, h => by
    obtain ⟨h1, h2⟩ := PVleR.spec h.2
    refine ⟨by simp [h1], fun i x y hx hy => ?_⟩
    cases i with
    | zero => simp at hx hy; subst hx; subst hy; exact h.1
    | succ i => exact h2 i x y (by simpa using hx) (by simpa using hy)
  | [], _ :: _, h => h.elim
  | _ :: _, [], h => h.elim
theorem PVle.rows {k : SK} {sz : Nat} {l r : List (List PV)} (h : PVleR l r) : PVle (.sl k sz l) (.sl .sh sz r) := fun g v hv => by
  obtain ⟨h1, h2⟩ := h.spec
  cases hv with
  | sl _ _ _ ad n c f hl hn hc hm hk hz hat hh =>
    refine .sl .sh sz r ad n c f (by omega) hn hc hm trivial (fun i e he => ?_) hat (fun i j e x he hx => ?_)
    · have hi : i < l.length := by rw [h1]; exact (List.getElem?_eq_some_iff.1 he).1
      rw [← (h2 i _ e (List.getElem?_eq_getElem hi) he).spec.1]
      exact hz i _ (List.getElem?_eq_getElem hi)
    · have hi : i < l.length := by rw [h1]; exact (List.getElem?_eq_some_iff.1 he).1
      obtain ⟨h3, h4⟩ := (h2 i _ e (List.getElem?_eq_getElem hi) he).spec
      have hj : j < l[i].length := by rw [h3]; exact (List.getElem?_eq_some_iff.1 hx).1
      exact h4 j _ x (List.getElem?_eq_getElem hj) hx g _ (hh i j _ _ (List.getElem?_eq_getElem hi) (List.getElem?_eq_getElem hj))

end Go.Proofs.YtlbolnlcncjijaaGreat
