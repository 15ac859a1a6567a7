/- MendCaps returns true for every book and numbers; no condition. MendCaps: the law. MendCaps. -/
import Derived.Test.YtlcpplkbmlmmbaaGreatCaps14
import Derived.Test.YtlcpplkbmlmmbaaGreatCaps07
import Derived.Test.YtlcpplkbmlmmbaaGreatGa17
namespace Go.Proofs.YtlcpplkbmlmmbaaGreat.Mk.Me
open Go.RowKit Ls
def lay3 (i j : Nat) (x y z : ABlk) : List ABlk := if i = 4 then (if j = 5 then [x, y, z] else [x, z, y]) else if i = 5 then (if j = 4 then [y, x, z] else [z, x, y]) else (if j = 4 then [y, z, x] else [z, y, x])
theorem lay45 {x y z : ABlk} : lay3 4 5 x y z = [x, y, z] := rfl
theorem lay46 {x y z : ABlk} : lay3 4 6 x y z = [x, z, y] := rfl
theorem lay54 {x y z : ABlk} : lay3 5 4 x y z = [y, x, z] := rfl
theorem lay56 {x y z : ABlk} : lay3 5 6 x y z = [z, x, y] := rfl
theorem lay64 {x y z : ABlk} : lay3 6 4 x y z = [y, z, x] := rfl
theorem lay65 {x y z : ABlk} : lay3 6 5 x y z = [z, y, x] := rfl
abbrev kz (κ : KS) (i : Nat) : KS := if i = 0 then κ else shJ κ
theorem sh_kz (κ : KS) (i : Nat) : shJ (kz κ i) = kz κ (i + 1) := by
  unfold kz
  split <;> rfl
abbrev bk (κ : KS) (b : EBook) : ABlk := .cells ((ebC κ b).map .p)
abbrev sp2 (lo hi : Int) : ABlk := .cells [.p (pi lo), .p (pi hi)]
theorem bare_loss {b : EBook} (ho : okE b) (hw : whoL b.mb ≠ []) : outI true (bareB b b.jobs.length) 2 (bareB b b.jobs.length).jobs = 0 ∧ outI false (bareB b b.jobs.length) 2 (bareB b b.jobs.length).jobs = 0 := by
  have hw2 : whoL (bareB b b.jobs.length).mb ≠ [] := by rw [bareB_who]; exact hw
  refine loss_all (bareB_ok ho _) (known_ne hw2) fun i hi => loss_none (known_ne hw2) ?_
  rw [bareB_len] at hi
  exact bareB_cap _ (Nat.le_refl _) i hi
set_option maxRecDepth 20000 in
set_option maxHeartbeats 8000000 in
theorem caps_rest (κ : KS) {b : EBook} (ho : okE b) (hw : whoL b.mb ≠ []) {k : Nat} (hk : k < b.jobs.length) {m n0 n1 : Int} (hm : -1 ≤ m ∧ m ≤ 999) (hle : capLe (jobN b k).cap m) {C : Con} (hC : ∀ f args rd K s, SemP Tryz.prog Fence.wide f args rd K s → C.call f args rd K s)
    (i1 i2 i3 : Nat) (hp : (i1 = 4 ∧ i2 = 5 ∧ i3 = 6) ∨ (i1 = 4 ∧ i2 = 6 ∧ i3 = 5) ∨ (i1 = 5 ∧ i2 = 4 ∧ i3 = 6) ∨ (i1 = 5 ∧ i2 = 6 ∧ i3 = 4) ∨ (i1 = 6 ∧ i2 = 4 ∧ i3 = 5) ∨ (i1 = 6 ∧ i2 = 5 ∧ i3 = 4)) (t : List (Nat × AV))
    (h2 : look t 2 = .loc 0 0) (h5 : look t 5 = .p (pi k)) (h6 : look t 6 = .loc 2 0) (h8 : look t 8 = .loc 3 0) (h9 : look t 9 = .p (pi 0)) (h11 : look t 11 = .loc i1 0) (h12 : look t 12 = .loc i2 0) (h13 : look t 13 = .loc i3 0) :
    exec C acr6 (retC Tryz.prog [.tmp 4] (fun r => r = pb true)) ⟨t, [bk κ b, sp2 n0 n1, sp2 (outI true b 1 b.jobs) (outI false b 1 b.jobs), sp2 (outI true b 2 b.jobs) (outI false b 2 b.jobs)] ++ lay3 i1 i2 (bk (shJ κ) (capB b k m)) (bk (shJ κ) (capB b k (-1))) (bk κ b), [], some [], 0⟩ := by
  have h4 := ho.2.1.2
  have hF := errF_of ho hw
  have hk2 : k < (capB b k (-1)).jobs.length := by rw [capB_len]; exact hk
  have hFx := capB_errF (k := k) ho hw hm
  have hFy := capB_errF (k := k) (m := -1) ho hw (by omega)
  have hFz : errF (bareB b b.jobs.length) true = 0 := errF_of (bareB_ok ho _) (by rw [bareB_who]; exact hw)
  have b1 := capB_paid hk hle
  have b2 := capB_lost hk hle
  have b3 := capB_paid (b := capB b k m) (k := k) (m := -1) (by rw [capB_len]; exact hk) (.inl rfl)
  rw [capB_two] at b3
  have hJ := Job_ok κ hF hk
  have hJy := Job_ok (shJ κ) hFy hk2
  unfold spanP at hJ hJy
  have ej : jobN (capB b k (-1)) k = capJ (jobN b k) (-1) := capB_at hk
  rw [ej, capB_cost hk, capB_cost hk] at hJy
  have hX := Bill_ok (shJ κ) hFx
  have hXl := Loss_ok (shJ κ) hFx
  have hY := Bill_ok (shJ κ) hFy
  have hZ := Loss_ok (kz κ b.jobs.length) hFz
  unfold spanP at hX hXl hY hZ
  obtain ⟨z1, z2⟩ := bare_loss ho hw
  rw [z1, z2] at hZ
  have c1 := b1 true
  have c2 := b1 false
  have c3 := b2 true
  have c4 := b2 false
  have c5 := b3 true
  have c6 := b3 false
  clear b1 b2 b3 ej z1 z2
  generalize outI true b 1 b.jobs = s0 at *
  generalize outI false b 1 b.jobs = s1 at *
  generalize outI true b 2 b.jobs = t0 at *
  generalize outI false b 2 b.jobs = t1 at *
  generalize outI true (capB b k m) 1 (capB b k m).jobs = u0 at *
  generalize outI false (capB b k m) 1 (capB b k m).jobs = u1 at *
  generalize outI true (capB b k m) 2 (capB b k m).jobs = v0 at *
  generalize outI false (capB b k m) 2 (capB b k m).jobs = v1 at *
  generalize outI true (capB b k (-1)) 1 (capB b k (-1)).jobs = w0 at *
  generalize outI false (capB b k (-1)) 1 (capB b k (-1)).jobs = w1 at *
  generalize outI true b 0 [jobN b k] = p0 at *
  generalize outI false b 0 [jobN b k] = p1 at *
  unfold acr6
  rcases hp with ⟨e1, e2, e3⟩ | ⟨e1, e2, e3⟩ | ⟨e1, e2, e3⟩ | ⟨e1, e2, e3⟩ | ⟨e1, e2, e3⟩ | ⟨e1, e2, e3⟩
  all_goals
    simp only [e1, e2, e3, lay45, lay46, lay54, lay56, lay64, lay65, List.cons_append, List.nil_append] at h11 h12 h13 ⊢
    simp only [go_sem]
    refine loop_kl b.jobs.length (fun _ => True) [2, 5, 6, 8, 9, 11, 12, 13] (fun i => [(14, .p (pi i))]) (fun i => [bk κ b, sp2 n0 n1, sp2 s0 s1, sp2 t0 t1] ++ lay3 i1 i2 (bk (shJ κ) (capB b k m)) (bk (shJ κ) (capB b k (-1))) (bk (kz κ i) (bareB b i))) trivial (by simp [Wk, wkT, wkL, look, AV.lo, AV.lo.loL, ABlk.toZ, upS_eq, keepS_nil, keepS_cons, h2, h5, h6, h8, h9, h11, h12, h13, e1, e2, lay45, lay46, lay54, lay56, lay64, lay65, bareB, kz]) ?_
    rintro i ⟨hi, -⟩
    simp only [e1, e2, lay45, lay46, lay54, lay56, lay64, lay65, List.cons_append, List.nil_append]
    simp only [go_sem, Nat.reduceBEq, Nat.reduceAdd, h2, h5, h6, h8, h9, h11, h12, h13, List.length_map]
    refine ⟨fun d5 => ?_, fun d5 => ?_⟩
    · have hi2 : i < b.jobs.length := by omega
      refine call_pure2 hC (capped_sem (kz κ i) (b := bareB b i) (k := i) (by rw [bareB_len]; exact hi2) (by rw [bareB_len]; exact h4) (-1)) rfl (PVleL_refl _) ?_
      rintro r rfl
      simp only [go_sem, Nat.reduceBEq, Nat.reduceAdd, putCells, wrap_succ (k := i) (by omega)]
      refine ⟨⟨i + 1, hi2, trivial⟩, by simp only; omega, ?_⟩
      simp only [← sh_kz, bareB]
      simp [Wk, wkT, wkL, look, AV.lo, AV.lo.loL, ABlk.toZ]
    · have hin : i = b.jobs.length := by omega
      subst hin
      refine call_pure2 hC (hX) rfl (PVleL_refl _) ?_
      rintro r rfl
      simp only [go_sem, Nat.reduceBEq, Nat.reduceAdd, putCells]
      refine call_pure2 hC (hXl) rfl (PVleL_refl _) ?_
      rintro r rfl
      simp only [go_sem, Nat.reduceBEq, Nat.reduceAdd, putCells]
      refine call_pure2 hC (hY) rfl (PVleL_refl _) ?_
      rintro r rfl
      simp only [go_sem, Nat.reduceBEq, Nat.reduceAdd, putCells]
      refine call_pure2 hC (hZ) rfl (PVleL_refl _) ?_
      rintro r rfl
      simp only [go_sem, Nat.reduceBEq, Nat.reduceAdd, putCells, decide_false, not_true_eq_false, not_false_eq_true, Int.reduceNeg]
      refine call_pure2 hC (hJ) rfl (PVleL_refl _) ?_
      rintro r rfl
      simp only [go_sem, Nat.reduceBEq, Nat.reduceAdd, putCells]
      refine call_pure2 hC (hJy) rfl (PVleL_refl _) ?_
      rintro r rfl
      simp only [go_sem, Nat.reduceBEq, Nat.reduceAdd, putCells, decide_true, Bool.true_and, Bool.false_eq_true, not_false_eq_true, Int.reduceNeg, decide_eq_true c1, decide_eq_true c2, decide_eq_true c3, decide_eq_true c4, decide_eq_true c5, decide_eq_true c6]
      refine call_pure2 hC (One_sem 0) rfl (PVleL_refl _) ?_
      rintro r rfl
      simp only [go_sem, Nat.reduceBEq, decide_true, Bool.true_and, Int.reduceNeg]
      refine call_pure2 hC (exs_sem) rfl (PVleL_refl _) ?_
      rintro r rfl
      simp only [go_sem, Nat.reduceBEq]
      exact retQ_one rfl rfl
end Go.Proofs.YtlcpplkbmlmmbaaGreat.Mk.Me
namespace Go.Proofs.YtlcpplkbmlmmbaaGreat.Mk.Me
open Go.RowKit Ls
set_option maxRecDepth 20000 in
set_option maxHeartbeats 8000000 in
theorem Caps_law (κ : KS) (b : EBook) (n0 n1 : Int) : Sem1 6 [.agg (ebC κ b), .agg [pi n0, pi n1]] (pb true) := by
  by_cases ho : okE b
  rotate_left
  · refine semC_of_exec' mixed Tryz.func6 (by kernel_rfl) (by kernel_rfl) ac6_ok 2 rfl (by decide) [(.tmp 4)] (by kernel_rfl) ?_
    intro hr C hC hI
    unfold ac6
    simp only [go_sem, Nat.reduceBEq, Nat.reduceAdd]
    refine call_pure2 hC (sound_sem κ b) rfl (PVleL_refl _) ?_
    rintro r rfl
    simp only [go_sem, Nat.reduceBEq, decide_eq_false ho, Int.reduceNeg]
    refine call_pure2 hC (exs_sem) rfl (PVleL_refl _) ?_
    rintro r rfl
    simp only [go_sem, Nat.reduceBEq]
    exact retQ_one rfl rfl
  obtain ⟨k, ek, hk⟩ := rnd_job ho n0
  by_cases hw : whoL b.mb = []
  · have hF := errF_no ho hw
    refine semC_of_exec' mixed Tryz.func6 (by kernel_rfl) (by kernel_rfl) ac6_ok 2 rfl (by decide) [(.tmp 4)] (by kernel_rfl) ?_
    intro hr C hC hI
    unfold ac6
    simp only [go_sem, Nat.reduceBEq, Nat.reduceAdd]
    refine call_pure2 hC (sound_sem κ b) rfl (PVleL_refl _) ?_
    rintro r rfl
    simp only [go_sem, Nat.reduceBEq, decide_eq_true ho, List.length_map, Int.reduceNeg]
    refine call_pure2 hC (Round_sem n0 (b.jobs.length : Int)) rfl (PVleL_refl _) ?_
    rintro r rfl
    simp only [go_sem, Nat.reduceBEq, Nat.reduceAdd, ek]
    refine call_pure2 hC (Bill_no κ hF) rfl (PVleL_refl _) ?_
    rintro r rfl
    simp only [go_sem, Nat.reduceBEq, Nat.reduceAdd, putCells, not_false_eq_true, Int.reduceNeg]
    refine call_pure2 hC (Loss_no κ hF) rfl (PVleL_refl _) ?_
    rintro r rfl
    simp only [go_sem, Nat.reduceBEq, Nat.reduceAdd, putCells, decide_true, not_false_eq_true, Int.reduceEq, Int.reduceNeg]
    refine call_pure2 hC (exs_sem) rfl (PVleL_refl _) ?_
    rintro r rfl
    simp only [go_sem, Nat.reduceBEq]
    exact retQ_one rfl rfl
  have hF := errF_of ho hw
  have hcap := (ho.2.2.2.1 _ (jobN_mem hk)).2.2.2
  have h4 := ho.2.1.2
  have ei := iadr_map (f := jobC) (kd := κ.c) (sz := 6) hk
  rw [jobN_get hk] at ei
  by_cases h1 : (jobN b k).cap = -1
  · refine semC_of_exec' mixed Tryz.func6 (by kernel_rfl) (by kernel_rfl) ac6_ok 2 rfl (by decide) [(.tmp 4)] (by kernel_rfl) ?_
    intro hr C hC hI
    unfold ac6
    simp only [go_sem, Nat.reduceBEq, Nat.reduceAdd]
    refine call_pure2 hC (sound_sem κ b) rfl (PVleL_refl _) ?_
    rintro r rfl
    simp only [go_sem, Nat.reduceBEq, decide_eq_true ho, List.length_map, Int.reduceNeg]
    refine call_pure2 hC (Round_sem n0 (b.jobs.length : Int)) rfl (PVleL_refl _) ?_
    rintro r rfl
    simp only [go_sem, Nat.reduceBEq, Nat.reduceAdd, ek]
    refine call_pure2 hC (Bill_ok κ hF) rfl (PVleL_refl _) ?_
    rintro r rfl
    simp only [go_sem, Nat.reduceBEq, Nat.reduceAdd, putCells, not_false_eq_true, Int.reduceNeg]
    refine call_pure2 hC (Loss_ok κ hF) rfl (PVleL_refl _) ?_
    rintro r rfl
    simp only [go_sem, Nat.reduceBEq, Nat.reduceAdd, putCells, ei, h1, gs_newA, gs_stA, List.map_cons, List.map_nil, true_or, true_and, decide_false, not_true_eq_false, Bool.false_eq_true, not_false_eq_true, Int.reduceNeg]
    have hle : capLe (jobN b k).cap (-1) := .inl rfl
    have hm : -1 ≤ (-1 : Int) ∧ (-1 : Int) ≤ 999 := by omega
    repeat' (first | (guard_target =~ _ ∧ _; constructor) | (guard_target =~ _ ∨ _; simp; done) | (guard_target =~ _ ≤ _; simp; done) | (guard_target =~ Con.call _ 33 _ _ _ _; refine call_pure2 hC (capped_sem κ hk h4 (-1)) rfl (PVleL_refl _) ?_; rintro _ rfl; simp only [go_sem, Nat.reduceBEq, Nat.reduceAdd, Nat.reduceEqDiff, putCells, stG_loc, stGB_cells, List.map_cons, List.map_nil, true_or, true_and]))
    all_goals first | (refine caps_rest κ ho hw hk hm hle hC 4 5 6 (by decide) _ ?_ ?_ ?_ ?_ ?_ ?_ ?_ ?_ <;> rfl) | (refine caps_rest κ ho hw hk hm hle hC 4 6 5 (by decide) _ ?_ ?_ ?_ ?_ ?_ ?_ ?_ ?_ <;> rfl) | (refine caps_rest κ ho hw hk hm hle hC 5 4 6 (by decide) _ ?_ ?_ ?_ ?_ ?_ ?_ ?_ ?_ <;> rfl) | (refine caps_rest κ ho hw hk hm hle hC 5 6 4 (by decide) _ ?_ ?_ ?_ ?_ ?_ ?_ ?_ ?_ <;> rfl) | (refine caps_rest κ ho hw hk hm hle hC 6 4 5 (by decide) _ ?_ ?_ ?_ ?_ ?_ ?_ ?_ ?_ <;> rfl) | (refine caps_rest κ ho hw hk hm hle hC 6 5 4 (by decide) _ ?_ ?_ ?_ ?_ ?_ ?_ ?_ ?_ <;> rfl)
  · have hr := rndI_range (n := n1) (m := 20) (by decide)
    obtain ⟨c, hc⟩ : ∃ c, (jobN b k).cap = c := ⟨_, rfl⟩
    obtain ⟨m, hm⟩ : ∃ m, maxI false 999 (c + rndI n1 20) = m := ⟨_, rfl⟩
    have hm2 : m = min 999 (c + rndI n1 20) := by
      rw [← hm]
      unfold maxI
      simp only [Bool.false_eq_true, if_false]
      split <;> omega
    have hle : capLe (jobN b k).cap m := .inr ⟨h1, by omega⟩
    have hm3 : -1 ≤ m ∧ m ≤ 999 := by omega
    have w1 : IntKind.i64.wrap (c + rndI n1 20) = c + rndI n1 20 := wrap_id (by omega) (by omega)
    have h2 : ¬ c = -1 := by omega
    refine semC_of_exec' mixed Tryz.func6 (by kernel_rfl) (by kernel_rfl) ac6_ok 2 rfl (by decide) [(.tmp 4)] (by kernel_rfl) ?_
    intro hr C hC hI
    unfold ac6
    simp only [go_sem, Nat.reduceBEq, Nat.reduceAdd]
    refine call_pure2 hC (sound_sem κ b) rfl (PVleL_refl _) ?_
    rintro r rfl
    simp only [go_sem, Nat.reduceBEq, decide_eq_true ho, List.length_map, Int.reduceNeg]
    refine call_pure2 hC (Round_sem n0 (b.jobs.length : Int)) rfl (PVleL_refl _) ?_
    rintro r rfl
    simp only [go_sem, Nat.reduceBEq, Nat.reduceAdd, ek]
    refine call_pure2 hC (Bill_ok κ hF) rfl (PVleL_refl _) ?_
    rintro r rfl
    simp only [go_sem, Nat.reduceBEq, Nat.reduceAdd, putCells, not_false_eq_true, Int.reduceNeg]
    refine call_pure2 hC (Loss_ok κ hF) rfl (PVleL_refl _) ?_
    rintro r rfl
    simp only [go_sem, Nat.reduceBEq, Nat.reduceAdd, putCells, ei, hc, eq_false h2, decide_true, decide_false, not_true_eq_false, not_false_eq_true, Int.reduceNeg]
    refine call_pure2 hC (Round_sem n1 20) rfl (PVleL_refl _) ?_
    rintro r rfl
    simp only [go_sem, Nat.reduceBEq, Nat.reduceAdd, w1, hm, gs_newA, gs_stA, List.map_cons, List.map_nil]
    repeat' (first | (guard_target =~ _ ∧ _; constructor) | (guard_target =~ _ ∨ _; simp; done) | (guard_target =~ _ ≤ _; simp; done) | (guard_target =~ Con.call _ 33 _ _ _ _; first | (refine call_pure2 hC (capped_sem κ hk h4 m) rfl (PVleL_refl _) ?_; rintro _ rfl; simp only [go_sem, Nat.reduceBEq, Nat.reduceAdd]) | (refine call_pure2 hC (capped_sem κ hk h4 (-1)) rfl (PVleL_refl _) ?_; rintro _ rfl; simp only [go_sem, Nat.reduceBEq, Nat.reduceAdd, Nat.reduceEqDiff, putCells, stG_loc, stGB_cells, List.map_cons, List.map_nil, true_or, true_and])))
    all_goals first | (refine caps_rest κ ho hw hk hm3 hle hC 4 5 6 (by decide) _ ?_ ?_ ?_ ?_ ?_ ?_ ?_ ?_ <;> rfl) | (refine caps_rest κ ho hw hk hm3 hle hC 4 6 5 (by decide) _ ?_ ?_ ?_ ?_ ?_ ?_ ?_ ?_ <;> rfl) | (refine caps_rest κ ho hw hk hm3 hle hC 5 4 6 (by decide) _ ?_ ?_ ?_ ?_ ?_ ?_ ?_ ?_ <;> rfl) | (refine caps_rest κ ho hw hk hm3 hle hC 5 6 4 (by decide) _ ?_ ?_ ?_ ?_ ?_ ?_ ?_ ?_ <;> rfl) | (refine caps_rest κ ho hw hk hm3 hle hC 6 4 5 (by decide) _ ?_ ?_ ?_ ?_ ?_ ?_ ?_ ?_ <;> rfl) | (refine caps_rest κ ho hw hk hm3 hle hC 6 5 4 (by decide) _ ?_ ?_ ?_ ?_ ?_ ?_ ?_ ?_ <;> rfl)
set_option maxRecDepth 100000 in
theorem Caps_row {l0 l1 : List PV} (T0 : Ty Tryz.prog 10 29 l0) (T1 : Ty Tryz.prog 10 47 l1) : SemC Tryz.prog 6 [argPV Tryz.prog 29 l0, argPV Tryz.prog 47 l1] (fun r => r = pb true) := by
  obtain ⟨b, rfl⟩ := ty_ebook T0
  obtain ⟨n0, n1, rfl⟩ := ty_two T1
  rw [argStruct Tryz.underlying29, argArray Tryz.underlying47]
  exact Caps_law shK b n0 n1
end Go.Proofs.YtlcpplkbmlmmbaaGreat.Mk.Me
namespace Go.Proofs.YtlcpplkbmlmmbaaGreat
open Go.Proofs.YtlcpplkbmlmmbaaGreat Go.ChangeShapes Go.WideShapes Go.ChangeAt Go.RowKit Go.Deep

set_option maxRecDepth 100000 in
theorem mendCaps_lifted (os : Os) (started : os.Started) (H : Type) (enc : TypeId × Value → H) :
    ReturnsInHanded {} Tryz.checked os 6 .any (Rows.mendCapsSpec.pre6 enc Tryz.prog Tryz.f6 Rows.mendCapsRow.domain false) (Rows.mendCapsSpec.post enc Tryz.prog Tryz.f6 false true false false) := by
  refine returnsInHanded_of_change_sized (C := Tryz.checked) ownKnobs started (by kernel_rfl) Tryz.func6
    (ChangeSpec.witness6 (enc := enc) (C := Tryz.checked) false ⟨#[], #[.agg #[.slice none 0 0, .slice none 0 0, .int .i64 0, .int .i64 0, .slice none 0 0, .int .i64 0, .slice none 0 0, .slice none 0 0], .agg #[.int .i64 0, .int .i64 0]], []⟩ 8 (by kernel_rfl) (by kernel_rfl) (by kernel_rfl) (by kernel_rfl)) ?_
  intro W base args ds gs before hval0 hW hcnd hsz0 _
  have hval : ∀ (j : Nat) t v, Tryz.f6.params[j]? = some t → args[j]? = some v → Value.okWide Tryz.prog W .any base t v := hval0
  have hsz : (DataW.weightsEach Tryz.prog (Tryz.f6.params.toList ++ Rows.mendCapsSpec.plain.varTypes Tryz.prog) (ds ++ gs)).all (· ≤ reachBytes) = true := hsz0
  have hW' := hW
  obtain ⟨p, q, hA0, hV, rfl, hfz, hnd⟩ := hW
  have hA : DataW.TrodAll enc Tryz.prog W 0 (fun _ => true) true Tryz.f6.params.toList args.toList ds p := hA0
  rw [Tryz.params6] at hA hval hsz
  obtain ⟨v0, vs0, d0, ds0, p0, q0, hargs, rfl, rfl, h0, r0⟩ := trodAll_cons hA
  obtain ⟨v1, vs1, d1, ds1, p1, q1, rfl, rfl, rfl, h1, r1⟩ := trodAll_cons r0
  obtain ⟨rfl, rfl, rfl⟩ := trodAll_nil r1
  obtain rfl : args = #[v0, v1] := by cases args; simp_all
  obtain ⟨rfl, rfl⟩ := trodVars_none hV
  have lt0 : ∀ x ∈ p0, x.block < W.heap.size := by obtain ⟨m, hm⟩ := h0; exact DataW.trod_lt m _ _ _ hm
  have lt1 : ∀ x ∈ p1, x.block < W.heap.size := by obtain ⟨m, hm⟩ := h1; exact DataW.trod_lt m _ _ _ hm
  have z0 : SizedP Tryz.prog 29 d0 := sizedP_each hsz (j := 0) rfl rfl
  obtain ⟨l0, T0, R0⟩ := rd_arg 10 (by kernel_rfl) (hval 0 29 v0 rfl rfl) h0 z0
  have z1 : SizedP Tryz.prog 47 d1 := sizedP_each hsz (j := 1) rfl rfl
  obtain ⟨l1, T1, R1⟩ := rd_arg 10 (by kernel_rfl) (hval 1 47 v1 rfl rfl) h1 z1
  clear hA0 hval0 hsz0
  refine (law_calls (Mk.Me.Caps_row T0 T1) (argsP_cons R0 (argsP_cons R1 argsP_nil))).mono fun e W' ⟨he, bel⟩ => ?_
  subst he
  exact ⟨_, rfl, _, _, _, [], _, [], hW', trodAll_mk1 (shut_bool Tryz.underlying4 _), (trodAll_cons_mk (Below.trod laidOut (by kernel_rfl) (of_decide_eq_true (by kernel_rfl)) h0 bel lt0) (trodAll_cons_mk (Below.trod laidOut (by kernel_rfl) (of_decide_eq_true (by kernel_rfl)) h1 bel lt1) trodAll_mk0)), rfl, bel.frame _, fun h => by cases h⟩

theorem mendCaps_joined : joinedFacts Tryz.prog 6 Tryz.f6 Rows.mendCapsSpec Rows.mendCapsRow = true := by
  simp only [joinedFacts, Bool.and_eq_true]
  repeat' apply And.intro
  all_goals first | with_reducible exact laidOut | with_reducible exact mapsR | with_reducible exact stopsH | with_reducible exact mayE | (rw [lift0]; kernel_rfl) | (rw [make0]; kernel_rfl) | kernel_rfl

theorem mendCaps_holds : Rows.MendCapsSaid :=
  OpenClaim.holds_of_wide 6 Tryz.f6 rfl rfl rfl rfl rfl rfl rfl ⟨rfl, rfl, rfl, rfl, rfl⟩ rfl rfl rfl rfl rfl (by kernel_rfl) Tryz.func6 mendCaps_joined
    (of_decide_eq_true (by kernel_rfl)) (by unfold Func.isWrapper; first | (rw [if_pos (by decide +kernel)]; kernel_rfl) | (rw [if_neg (by decide +kernel)]; exact ⟨rfl, rfl⟩))
    (fun os started H enc _ => mendCaps_lifted os started H enc)
end Go.Proofs.YtlcpplkbmlmmbaaGreat
