/- Abstract code, step by step. -/
import Derived.Test.YtlbolnlcncjijaaGreatGa12
namespace Go.Proofs.YtlbolnlcncjijaaGreat
open Go.RowKit Go.Shelf

def contOps (C : Con) (l : List AOp) (Q : AEx → AS → Prop) (rd : List Nat) (s : AS) : Prop := execOps C rd l Q s
def elimK (v : Option AV) (C : Con) (rd : List Nat) (d : Option Nat) (l : List AOp) (Q : AEx → AS → Prop) (s : AS) : Prop :=
  match v with
  | some v => contOps C l Q rd (s.put d v)
  | none => False
def guardK (v : AV) (j : AX) (b : Bool) (C : Con) (rd : List Nat) (o : AOp) (l : List AOp) (Q : AEx → AS → Prop) (s : AS) : Prop :=
  match v with
  | .p (.val (.bool t)) => (t = b → contOps C ({ o with guard := none } :: l) Q rd (s.know j b)) ∧ (t = !b → contOps C l Q rd ((s.know j (!b)).put o.dst (.p .und)))
  | .p .und => contOps C l Q rd (s.put o.dst (.p .und))
  | _ => False
def condK (v : AV) (c : AX) (C : Con) (x y : AC) (Q : AEx → AS → Prop) (s : AS) : Prop :=
  match v with
  | .p (.val (.bool t)) => (t = true → exec C x Q (s.know c true)) ∧ (t = false → exec C y Q (s.know c false))
  | _ => False
def putK (C : Con) (l : List AOp) (Q : AEx → AS → Prop) (rd : List Nat) (d : Option Nat) (v : AV) (s : AS) : Prop := contOps C l Q rd (s.put d v)
def effK (lst : Bool) (C : Con) (rd : List Nat) (d : Option Nat) (k : AK) (l : List AOp) (Q : AEx → AS → Prop) (s : AS) : Prop := effQ C lst rd s (putK C l Q rd d) k

def boxK (v : Option (List AV)) (C : Con) (rd : List Nat) (d : Option Nat) (l : List AOp) (Q : AEx → AS → Prop) (s : AS) : Prop :=
  match v with
  | some cs => contOps C l Q rd ((mkOwn s cs).put d (.loc s.loc.length 0))
  | none => False
def newK (z : PV) (C : Con) (rd : List Nat) (d : Option Nat) (l : List AOp) (Q : AEx → AS → Prop) (s : AS) : Prop :=
  match z with
  | .agg cs => contOps C l Q rd ((mkOwn s (cs.map .p)).put d (.loc s.loc.length 0))
  | .any => False
  | .und => False
  | .tup [.any] => contOps C l Q rd ((mkOwn s [.p .any]).put d (.loc s.loc.length 0))
  | .tup _ => False
  | x => contOps C l Q rd ((mkOwn s [.p x]).put d (.loc s.loc.length 0))
def stK (lst : Bool) (v : AV) (u : Option (List AV)) (C : Con) (rd : List Nat) (d : Option Nat) (n : Nat) (l : List AOp) (Q : AEx → AS → Prop) (s : AS) : Prop :=
  match v, u with
  | .loc id off, some c => stB lst id off s.loc[id]? c C rd d n l Q s
  | _, _ => False
 where stB (lst : Bool) (id off : Nat) (k : Option ABlk) (c : List AV) (C : Con) (rd : List Nat) (d : Option Nat) (n : Nat) (l : List AOp) (Q : AEx → AS → Prop) (s : AS) : Prop :=
  match k with
  | some (.cells cs) => (lst = true ∨ id ∉ rd) ∧ off + n ≤ cs.length ∧ contOps C l Q rd (({ s with loc := s.loc.set id (.cells (putCells cs off c)) } : AS).put d (.p .und))
  | some (.prt m cs) => (lst = true ∨ id ∉ rd) ∧ m ≤ off ∧ off + n ≤ cs.length ∧ contOps C l Q rd (({ s with loc := s.loc.set id (.prt m (putCells cs off c)) } : AS).put d (.p .und))
  | _ => False

section
variable {C : Con} {rd : List Nat} {d : Option Nat} {i : Nat} {tk lst b : Bool} {l : List AOp} {Q : AEx → AS → Prop} {s : AS} {v : AV} {k : AK}
theorem contOps_nil : contOps C [] Q rd s = Q .normal s := id rfl
theorem contOps_still (h : k.still = true) : contOps C (⟨d, k, none, i, tk, lst⟩ :: l) Q rd s = elimK (stillV s k) C (bif tk then rdOf s k ++ rd else rd) d l Q s := by
  simp only [contOps, execOps, stepQ, h, elimK]
  cases tk <;> cases stillV s k <;> rfl
theorem contOps_eff (h : k.still = false) : contOps C (⟨d, k, none, i, tk, lst⟩ :: l) Q rd s = effK lst C (bif lst then [] else rd) d k l Q s := by
  simp only [contOps, execOps, stepQ, h, effK]
  rfl
theorem contOps_guard {j : Nat} : contOps C (⟨d, k, some (j, b), i, tk, lst⟩ :: l) Q rd s = guardK (look s.t j) (.t j) b C rd ⟨d, k, some (j, b), i, tk, lst⟩ l Q s := by
  simp only [contOps, execOps, guardK]
  cases look s.t j with
  | p x =>
    cases x with
    | val v => cases v <;> rfl
    | _ => rfl
  | _ => rfl
theorem elimK_some : elimK (some v) C rd d l Q s = contOps C l Q rd (s.put d v) := rfl
theorem exec_skip : exec C .skip Q s = Q .normal s := id rfl
theorem exec_ops : exec C (.ops l) Q s = contOps C l Q [] s := id rfl
theorem exec_seq {x y : AC} : exec C (.seq x y) Q s = exec C x (thenQ (exec C y Q) Q) s := id rfl
theorem exec_cond {c : AX} {x y : AC} : exec C (.cond c x y) Q s = condK (c.ev s) c C x y Q s := by
  show condQ (c.ev s) _ _ = condK (c.ev s) c C x y Q s
  generalize c.ev s = v
  cases v with
  | p z =>
    cases z with
    | val u => cases u <;> rfl
    | _ => rfl
  | _ => rfl
theorem exec_block {n : Nat} {x : AC} : exec C (.block n x) Q s = exec C x (blockQ n Q) s := id rfl
theorem exec_exit {n : Nat} : exec C (.exit n) Q s = Q (.exit n) s := id rfl
theorem exec_ret : exec C .ret Q s = Q .ret s := id rfl
theorem thenQ_normal {K : AS → Prop} : thenQ K Q .normal s = K s := id rfl
theorem thenQ_ret {K : AS → Prop} : thenQ K Q .ret s = Q .ret s := id rfl
theorem thenQ_exit {K : AS → Prop} {n : Nat} : thenQ K Q (.exit n) s = Q (.exit n) s := id rfl
theorem blockQ_normal {n : Nat} : blockQ n Q .normal s = Q .normal s := id rfl
theorem blockQ_ret {n : Nat} : blockQ n Q .ret s = Q .ret s := id rfl
theorem blockQ_exit {n m : Nat} : blockQ n Q (.exit m) s = bif m == n then Q .normal s else Q (.exit m) s := by
  simp only [blockQ]
  by_cases h : m = n
  · simp [h]
  · simp [h]
theorem roundQ_ret {ι : Type} {st : ι → AS} {μ : ι → Nat} {i : ι} : roundQ st μ i Q .ret s = Q .ret s := rfl
theorem roundQ_exit {ι : Type} {st : ι → AS} {μ : ι → Nat} {i : ι} {n : Nat} : roundQ st μ i Q (.exit n) s = Q (.exit n) s := rfl
theorem roundQ_normal {ι : Type} {st : ι → AS} {μ : ι → Nat} {i : ι} : roundQ st μ i Q .normal s = ∃ j, μ j < μ i ∧ Wk s (st j) := rfl
theorem guardK_val {t : Bool} {j : AX} {o : AOp} : guardK (.p (.val (.bool t))) j b C rd o l Q s = ((t = b → contOps C ({ o with guard := none } :: l) Q rd (s.know j b)) ∧ (t = !b → contOps C l Q rd ((s.know j (!b)).put o.dst (.p .und)))) := rfl
theorem guardK_und {j : AX} {o : AOp} : guardK (.p .und) j b C rd o l Q s = contOps C l Q rd (s.put o.dst (.p .und)) := rfl
theorem condK_val {t : Bool} {c : AX} {x y : AC} : condK (.p (.val (.bool t))) c C x y Q s = ((t = true → exec C x Q (s.know c true)) ∧ (t = false → exec C y Q (s.know c false))) := rfl
theorem condK_true {c : AX} {x y : AC} : condK (.p (.val (.bool true))) c C x y Q s = exec C x Q (s.know c true) := by simp [condK]
theorem condK_false {c : AX} {x y : AC} : condK (.p (.val (.bool false))) c C x y Q s = exec C y Q (s.know c false) := by simp [condK]
theorem guardK_tt {j : AX} {o : AOp} : guardK (.p (.val (.bool true))) j true C rd o l Q s = contOps C ({ o with guard := none } :: l) Q rd (s.know j true) := by simp [guardK]
theorem guardK_ff {j : AX} {o : AOp} : guardK (.p (.val (.bool false))) j false C rd o l Q s = contOps C ({ o with guard := none } :: l) Q rd (s.know j false) := by simp [guardK]
theorem guardK_tf {j : AX} {o : AOp} : guardK (.p (.val (.bool true))) j false C rd o l Q s = contOps C l Q rd ((s.know j true).put o.dst (.p .und)) := by simp [guardK]
theorem guardK_ft {j : AX} {o : AOp} : guardK (.p (.val (.bool false))) j true C rd o l Q s = contOps C l Q rd ((s.know j false).put o.dst (.p .und)) := by simp [guardK]
section
variable {t : List (Nat × AV)} {L : List ABlk} {V : List Nat} {Y : Option (List (List PV))} {B : Nat}
theorem put_mk {j : Nat} : (AS.mk t L V Y B).put (some j) v = ⟨(j, v) :: t, L, V, Y, B⟩ := rfl
theorem put_none : s.put none v = s := rfl
theorem know_t {j : Nat} {c : Bool} : (AS.mk t L V Y B).know (.t j) c = ⟨(j, .p (.val (.bool c))) :: t, L, V, Y, B⟩ := rfl
theorem know_c {x : PV} {c : Bool} : s.know (.c x) c = s := rfl
theorem ev_t {j : Nat} : AX.ev ⟨t, L, V, Y, B⟩ (.t j) = look t j := rfl
theorem ev_c {x : PV} : AX.ev s (.c x) = .p x := rfl
theorem look_cons {j m : Nat} : look ((j, v) :: t) m = bif j == m then v else look t m := rfl
theorem mkOwn_mk {cs : List AV} : mkOwn ⟨t, L, V, Y, B⟩ cs = ⟨t, L ++ [.cells cs], V, Y, B⟩ := rfl
theorem loc_mk : (AS.mk t L V Y B).loc = L := rfl
theorem live_mk : (AS.mk t L V Y B).live = V := rfl
theorem ys_mk : (AS.mk t L V Y B).ys = Y := rfl
theorem base_mk : (AS.mk t L V Y B).base = B := rfl
theorem t_mk : (AS.mk t L V Y B).t = t := rfl
end
def ldS (n : Option Nat) (L : List ABlk) : AV → Option AV
  | .p (.ptr cs off) => (partP cs off n).map .p
  | .loc id off => ldB n off L[id]?
  | _ => none
 where ldB (n : Option Nat) (off : Nat) : Option ABlk → Option AV
  | some (.cells cs) => partA cs off n
  | some (.frz cs) => (partP cs off n).map .p
  | some (.half cs) => partA cs off n
  | some (.prt _ cs) => partA cs off n
  | _ => none
theorem still_ld' {n : Option Nat} {x : AX} : stillV s (.ld n x) = ldS n s.loc (x.ev s) := by
  simp only [stillV]
  split
  · rename_i e; rw [e]; rfl
  · rename_i e; rw [e]; simp only [ldS]; split <;> simp_all [ldS.ldB]
  · rename_i h1 h2
    unfold ldS
    split
    · rename_i e; exact absurd e (h1 _ _)
    · rename_i e; exact absurd e (h2 _ _)
    · rfl
theorem still_mv' {x : AX} : stillV s (.mv x) = some (x.ev s) := rfl
def binS (c : Bool) (op : BinOp) : AV → AV → Option AV
  | .p (.val a), .p (.val b) => (binV op c a b).map fun v => .p (.val v)
  | _, _ => none
theorem still_bin' {c : Bool} {op : BinOp} {x y : AX} : stillV s (.bin c op x y) = binS c op (x.ev s) (y.ev s) := rfl
theorem bin_add {k : IntKind} {a b : Int} : binS false .add (.p (.val (.int k a))) (.p (.val (.int k b))) = some (.p (.val (.int k (k.wrap (a + b))))) := by simp [binS, binV]
theorem bin_sub {k : IntKind} {a b : Int} : binS false .sub (.p (.val (.int k a))) (.p (.val (.int k b))) = some (.p (.val (.int k (k.wrap (a - b))))) := by simp [binS, binV]
theorem bin_mul {k : IntKind} {a b : Int} : binS false .mul (.p (.val (.int k a))) (.p (.val (.int k b))) = some (.p (.val (.int k (k.wrap (a * b))))) := by simp [binS, binV]
theorem bin_eql {k : IntKind} {a b : Int} : binS false .eql (.p (.val (.int k a))) (.p (.val (.int k b))) = some (.p (.val (.bool (decide (a = b))))) := by simp [binS, binV]; rfl
theorem bin_neq {k : IntKind} {a b : Int} : binS false .neq (.p (.val (.int k a))) (.p (.val (.int k b))) = some (.p (.val (.bool (decide (¬ a = b))))) := by simp [binS, binV]; rfl
theorem bin_lss {k : IntKind} {a b : Int} : binS false .lss (.p (.val (.int k a))) (.p (.val (.int k b))) = some (.p (.val (.bool (decide (a < b))))) := by simp [binS, binV]
theorem bin_leq {k : IntKind} {a b : Int} : binS false .leq (.p (.val (.int k a))) (.p (.val (.int k b))) = some (.p (.val (.bool (decide (a ≤ b))))) := by simp [binS, binV]
theorem bin_gtr {k : IntKind} {a b : Int} : binS false .gtr (.p (.val (.int k a))) (.p (.val (.int k b))) = some (.p (.val (.bool (decide (b < a))))) := by simp [binS, binV]
theorem bin_geq {k : IntKind} {a b : Int} : binS false .geq (.p (.val (.int k a))) (.p (.val (.int k b))) = some (.p (.val (.bool (decide (b ≤ a))))) := by simp [binS, binV]
theorem bin_and {k : IntKind} {a b : Int} : binS false .and (.p (.val (.int k a))) (.p (.val (.int k b))) = some (.p (.val (.int k (k.wrap ((BitVec.ofInt k.bits a) &&& (BitVec.ofInt k.bits b)).toNat)))) := by simp [binS, binV]
theorem bin_or {k : IntKind} {a b : Int} : binS false .or (.p (.val (.int k a))) (.p (.val (.int k b))) = some (.p (.val (.int k (k.wrap ((BitVec.ofInt k.bits a) ||| (BitVec.ofInt k.bits b)).toNat)))) := by simp [binS, binV]
theorem bin_quo {k : IntKind} {a b : Int} (h : ¬ b = 0) : binS false .quo (.p (.val (.int k a))) (.p (.val (.int k b))) = some (.p (.val (.int k (k.wrap (a.tdiv b))))) := by simp [binS, binV, h]
theorem bin_rem {k : IntKind} {a b : Int} (h : ¬ b = 0) : binS false .rem (.p (.val (.int k a))) (.p (.val (.int k b))) = some (.p (.val (.int k (a.tmod b)))) := by simp [binS, binV, h]
theorem bin_shl {k k' : IntKind} {a b : Int} (h : ¬ b < 0) : binS false .shl (.p (.val (.int k a))) (.p (.val (.int k' b))) = some (.p (.val (.int k (k.wrap (a * 2 ^ (min b.toNat k.bits)))))) := by simp [binS, binV, h]
theorem bin_shr {k k' : IntKind} {a b : Int} (h : ¬ b < 0) : binS false .shr (.p (.val (.int k a))) (.p (.val (.int k' b))) = some (.p (.val (.int k (a.fdiv (2 ^ (min b.toNat k.bits)))))) := by simp [binS, binV, h]
theorem binb_eql {a b : Bool} : binS true .eql (.p (.val (.bool a))) (.p (.val (.bool b))) = some (.p (.val (.bool (decide (a = b))))) := by cases a <;> cases b <;> rfl
theorem binb_neq {a b : Bool} : binS true .neq (.p (.val (.bool a))) (.p (.val (.bool b))) = some (.p (.val (.bool (decide (¬ a = b))))) := by cases a <;> cases b <;> rfl
def pickS : AV → AV → AV → Option AV
  | .p (.val (.bool t)), a, b => some (if t then a else b)
  | _, _, _ => none
theorem still_pick' {c a b : AX} : stillV s (.pick c a b) = pickS (c.ev s) (a.ev s) (b.ev s) := by
  simp only [stillV, pickS]
  generalize c.ev s = v
  cases v with
  | p z =>
    cases z with
    | val u => cases u <;> rfl
    | _ => rfl
  | _ => rfl
theorem pickS_true {a b : AV} : pickS (.p (.val (.bool true))) a b = some a := rfl
theorem pickS_false {a b : AV} : pickS (.p (.val (.bool false))) a b = some b := rfl
theorem pickS_und {a b : AV} : pickS (.p .und) a b = none := rfl
theorem pickS_val {t : Bool} {a b : Value} : pickS (.p (.val (.bool t))) (.p (.val a)) (.p (.val b)) = some (.p (.val (if t then a else b))) := by cases t <;> rfl
def lenS : AV → Option AV
  | .p (.sl _ _ es) => some (.p (.val (.int .i64 es.length)))
  | .sli _ n _ => some (.p (.val (.int .i64 n)))
  | _ => none
theorem still_len' {x : AX} : stillV s (.len x) = lenS (x.ev s) := by
  simp only [stillV, lenS]
  generalize x.ev s = v
  cases v with
  | p z => cases z <;> rfl
  | _ => rfl
theorem lenS_sl {k : SK} {sz : Nat} {es : List (List PV)} : lenS (.p (.sl k sz es)) = some (.p (.val (.int .i64 es.length))) := rfl
theorem lenS_sli {id n sz : Nat} : lenS (.sli id n sz) = some (.p (.val (.int .i64 n))) := rfl
def iadrS' (sz : Nat) : AV → AV → Option AV
  | .p (.sl _ sz' es), .p (.val (.int _ i)) => if 0 ≤ i ∧ sz' = sz then (es[i.toNat]?).map fun e => .p (.ptr e 0) else none
  | .sli id m sz', .p (.val (.int _ i)) => if 0 ≤ i ∧ i < m ∧ sz' = sz then some (.loc id (i.toNat * sz)) else none
  | _, _ => none
theorem still_iadrS' {sz : Nat} {x i : AX} : stillV s (.iadrS sz x i) = iadrS' sz (x.ev s) (i.ev s) := by
  simp only [stillV, iadrS']
  generalize x.ev s = v
  generalize i.ev s = u
  cases v with
  | p z =>
    cases z with
    | sl k sz' es =>
      cases u with
      | p y =>
        cases y with
        | val q =>
          cases q with
          | int _ n =>
            simp only
            by_cases h : 0 ≤ n ∧ sz' = sz
            · rw [if_pos h, if_pos h]; cases es[n.toNat]? <;> rfl
            · rw [if_neg h, if_neg h]
          | _ => rfl
        | _ => rfl
      | _ => rfl
    | _ => rfl
  | sli id m sz' =>
    cases u with
    | p y =>
      cases y with
      | val q => cases q <;> rfl
      | _ => rfl
    | _ => rfl
  | _ => rfl
theorem iadrS_sl {sz : Nat} {k : SK} {es : List (List PV)} {kk : IntKind} {i : Int} {e : List PV} (h0 : 0 ≤ i) (he : es[i.toNat]? = some e) : iadrS' sz (.p (.sl k sz es)) (.p (.val (.int kk i))) = some (.p (.ptr e 0)) := by
  simp [iadrS', h0, he]
theorem iadrS_sli {sz id m : Nat} {kk : IntKind} {i : Int} (h0 : 0 ≤ i) (h1 : i < m) : iadrS' sz (.sli id m sz) (.p (.val (.int kk i))) = some (.loc id (i.toNat * sz)) := by
  simp [iadrS', h0, h1]
theorem ldS_ptr {n : Option Nat} {L : List ABlk} {cs : List PV} {off : Nat} : ldS n L (.p (.ptr cs off)) = (partP cs off n).map .p := rfl
theorem ldS_loc {n : Option Nat} {L : List ABlk} {id off : Nat} : ldS n L (.loc id off) = ldS.ldB n off L[id]? := rfl
theorem ldB_cells {n : Option Nat} {cs : List AV} {off : Nat} : ldS.ldB n off (some (.cells cs)) = partA cs off n := rfl
theorem ldB_frz {n : Option Nat} {cs : List PV} {off : Nat} : ldS.ldB n off (some (.frz cs)) = (partP cs off n).map .p := rfl
theorem partP_none {cs : List PV} {off : Nat} : partP cs off none = cs[off]? := rfl
theorem partP_some {cs : List PV} {off n : Nat} (h : off + n ≤ cs.length) : partP cs off (some n) = some (.agg ((cs.drop off).take n)) := by simp [partP, h]
theorem partA_none {cs : List AV} {off : Nat} : partA cs off none = cs[off]? := rfl
theorem partA_some {cs : List AV} {off n : Nat} (h : off + n ≤ cs.length) : partA cs off (some n) = some (mkAgg ((cs.drop off).take n)) := by simp [partA, h]
def fldS (off : Nat) (n : Option Nat) : AV → Option AV
  | .p (.agg cs) => (partP cs off n).map .p
  | .agg cs => partA cs off n
  | _ => none
theorem still_fld' {off : Nat} {n : Option Nat} {x : AX} : stillV s (.fld off n x) = fldS off n (x.ev s) := by
  simp only [stillV, fldS]
  generalize x.ev s = v
  cases v with
  | p z => cases z <;> rfl
  | _ => rfl
theorem fldS_agg {off : Nat} {n : Option Nat} {cs : List PV} : fldS off n (.p (.agg cs)) = (partP cs off n).map .p := rfl
theorem fldS_aggA {off : Nat} {n : Option Nat} {cs : List AV} : fldS off n (.agg cs) = partA cs off n := rfl
def fadrS (off : Nat) : AV → Option AV
  | .p (.ptr cs o) => some (.p (.ptr cs (o + off)))
  | .loc id o => some (.loc id (o + off))
  | _ => none
theorem still_fadr' {off : Nat} {x : AX} : stillV s (.fadr off x) = fadrS off (x.ev s) := by
  simp only [stillV, fadrS]
  generalize x.ev s = v
  cases v with
  | p z => cases z <;> rfl
  | _ => rfl
theorem fadrS_ptr {off o : Nat} {cs : List PV} : fadrS off (.p (.ptr cs o)) = some (.p (.ptr cs (o + off))) := rfl
theorem fadrS_loc {off o id : Nat} : fadrS off (.loc id o) = some (.loc id (o + off)) := rfl
def extS (i : Nat) : AV → Option AV
  | .p (.tup vs) => (vs[i]?).map .p
  | .tup vs => vs[i]?
  | _ => none
theorem still_ext' {i : Nat} {x : AX} : stillV s (.ext x i) = extS i (x.ev s) := by
  simp only [stillV, extS]
  generalize x.ev s = v
  cases v with
  | p z => cases z <;> rfl
  | _ => rfl
theorem extS_tupA {i : Nat} {vs : List AV} : extS i (.tup vs) = vs[i]? := rfl
theorem extS_tup {i : Nat} {vs : List PV} : extS i (.p (.tup vs)) = (vs[i]?).map .p := rfl
def unS : UnOp → AV → Option AV
  | .neg, .p (.val (.int k n)) => some (.p (.val (.int k (k.wrap (0 - n)))))
  | .not, .p (.val (.bool b)) => some (.p (.val (.bool !b)))
  | _, _ => none
theorem still_un' {op : UnOp} {x : AX} : stillV s (.un op x) = unS op (x.ev s) := by
  simp only [stillV, unS]
  generalize x.ev s = v
  cases op <;> cases v with
  | p z =>
    cases z with
    | val u => cases u <;> rfl
    | _ => rfl
  | _ => rfl
theorem unS_neg {k : IntKind} {n : Int} : unS .neg (.p (.val (.int k n))) = some (.p (.val (.int k (k.wrap (0 - n))))) := rfl
theorem unS_not {b : Bool} : unS .not (.p (.val (.bool b))) = some (.p (.val (.bool !b))) := rfl
def convS (k : IntKind) : AV → Option AV
  | .p (.val (.int _ n)) => some (.p (.val (.int k (k.wrap n))))
  | _ => none
theorem still_conv' {k : IntKind} {x : AX} : stillV s (.conv k x) = convS k (x.ev s) := by
  simp only [stillV, convS]
  generalize x.ev s = v
  cases v with
  | p z =>
    cases z with
    | val u => cases u <;> rfl
    | _ => rfl
  | _ => rfl
theorem convS_int {k k' : IntKind} {n : Int} : convS k (.p (.val (.int k' n))) = some (.p (.val (.int k (k.wrap n)))) := rfl
theorem still_mkf' {f : FuncId} {fi cap : List AX} : stillV s (.mkf f fi cap) = some (mkClo f (evs s fi) (evs s cap)) := rfl
theorem nilc_ptr {x : AX} {cs : List PV} {o : Nat} (h : x.ev s = .p (.ptr cs o)) : stillV s (.nilc x) = some (.p (.ptr cs o)) := by simp [stillV, h]
theorem nilc_loc {x : AX} {id o : Nat} (h : x.ev s = .loc id o) : stillV s (.nilc x) = some (.loc id o) := by simp [stillV, h]
theorem wrap_id {n : Int} (h1 : -9223372036854775808 ≤ n) (h2 : n ≤ 9223372036854775807) : IntKind.i64.wrap n = n := by
  rw [IntKind.wrap_i64]; omega
theorem co_mv {q1 : AX} : contOps C (⟨d, .mv q1, none, i, tk, lst⟩ :: l) Q rd s = elimK (stillV s (.mv q1)) C rd d l Q s := (contOps_still rfl).trans (by cases tk <;> rfl)
theorem co_pick {q1 : AX} {q2 : AX} {q3 : AX} : contOps C (⟨d, .pick q1 q2 q3, none, i, tk, lst⟩ :: l) Q rd s = elimK (stillV s (.pick q1 q2 q3)) C rd d l Q s := (contOps_still rfl).trans (by cases tk <;> rfl)
theorem co_build {q1 : List PV} {q2 : List (Nat × Nat × AX)} : contOps C (⟨d, .build q1 q2, none, i, tk, lst⟩ :: l) Q rd s = elimK (stillV s (.build q1 q2)) C rd d l Q s := (contOps_still rfl).trans (by cases tk <;> rfl)
theorem co_fld {q1 : Nat} {q2 : Option Nat} {q3 : AX} : contOps C (⟨d, .fld q1 q2 q3, none, i, tk, lst⟩ :: l) Q rd s = elimK (stillV s (.fld q1 q2 q3)) C rd d l Q s := (contOps_still rfl).trans (by cases tk <;> rfl)
theorem co_fadr {q1 : Nat} {q2 : AX} : contOps C (⟨d, .fadr q1 q2, none, i, tk, lst⟩ :: l) Q rd s = elimK (stillV s (.fadr q1 q2)) C rd d l Q s := (contOps_still rfl).trans (by cases tk <;> rfl)
theorem co_iadrS {q1 : Nat} {q2 : AX} {q3 : AX} : contOps C (⟨d, .iadrS q1 q2 q3, none, i, tk, lst⟩ :: l) Q rd s = elimK (stillV s (.iadrS q1 q2 q3)) C rd d l Q s := (contOps_still rfl).trans (by cases tk <;> rfl)
theorem co_iadrA {q1 : Nat} {q2 : Nat} {q3 : AX} {q4 : AX} : contOps C (⟨d, .iadrA q1 q2 q3 q4, none, i, tk, lst⟩ :: l) Q rd s = elimK (stillV s (.iadrA q1 q2 q3 q4)) C rd d l Q s := (contOps_still rfl).trans (by cases tk <;> rfl)
theorem co_idx {q1 : Nat} {q2 : Nat} {q3 : Option Nat} {q4 : AX} {q5 : AX} : contOps C (⟨d, .idx q1 q2 q3 q4 q5, none, i, tk, lst⟩ :: l) Q rd s = elimK (stillV s (.idx q1 q2 q3 q4 q5)) C rd d l Q s := (contOps_still rfl).trans (by cases tk <;> rfl)
theorem co_bin {q1 : Bool} {q2 : BinOp} {q3 : AX} {q4 : AX} : contOps C (⟨d, .bin q1 q2 q3 q4, none, i, tk, lst⟩ :: l) Q rd s = elimK (stillV s (.bin q1 q2 q3 q4)) C rd d l Q s := (contOps_still rfl).trans (by cases tk <;> rfl)
theorem co_eqs {q1 : List CK} {q2 : Bool} {q3 : AX} {q4 : AX} : contOps C (⟨d, .eqs q1 q2 q3 q4, none, i, tk, lst⟩ :: l) Q rd s = elimK (stillV s (.eqs q1 q2 q3 q4)) C rd d l Q s := (contOps_still rfl).trans (by cases tk <;> rfl)
theorem co_un {q1 : UnOp} {q2 : AX} : contOps C (⟨d, .un q1 q2, none, i, tk, lst⟩ :: l) Q rd s = elimK (stillV s (.un q1 q2)) C rd d l Q s := (contOps_still rfl).trans (by cases tk <;> rfl)
theorem co_conv {q1 : IntKind} {q2 : AX} : contOps C (⟨d, .conv q1 q2, none, i, tk, lst⟩ :: l) Q rd s = elimK (stillV s (.conv q1 q2)) C rd d l Q s := (contOps_still rfl).trans (by cases tk <;> rfl)
theorem co_ext {q1 : AX} {q2 : Nat} : contOps C (⟨d, .ext q1 q2, none, i, tk, lst⟩ :: l) Q rd s = elimK (stillV s (.ext q1 q2)) C rd d l Q s := (contOps_still rfl).trans (by cases tk <;> rfl)
theorem co_len {q1 : AX} : contOps C (⟨d, .len q1, none, i, tk, lst⟩ :: l) Q rd s = elimK (stillV s (.len q1)) C rd d l Q s := (contOps_still rfl).trans (by cases tk <;> rfl)
theorem co_mx {q1 : Bool} {q2 : List AX} : contOps C (⟨d, .mx q1 q2, none, i, tk, lst⟩ :: l) Q rd s = elimK (stillV s (.mx q1 q2)) C rd d l Q s := (contOps_still rfl).trans (by cases tk <;> rfl)
theorem co_slc {q1 : Nat} {q2 : AX} {q3 : Option AX} {q4 : Option AX} {q5 : Option AX} : contOps C (⟨d, .slc q1 q2 q3 q4 q5, none, i, tk, lst⟩ :: l) Q rd s = elimK (stillV s (.slc q1 q2 q3 q4 q5)) C rd d l Q s := (contOps_still rfl).trans (by cases tk <;> rfl)
theorem co_mkf {q1 : FuncId} {q2 q3 : List AX} : contOps C (⟨d, .mkf q1 q2 q3, none, i, tk, lst⟩ :: l) Q rd s = elimK (stillV s (.mkf q1 q2 q3)) C rd d l Q s := (contOps_still rfl).trans (by cases tk <;> rfl)
theorem co_nilc {q1 : AX} : contOps C (⟨d, .nilc q1, none, i, tk, lst⟩ :: l) Q rd s = elimK (stillV s (.nilc q1)) C rd d l Q s := (contOps_still rfl).trans (by cases tk <;> rfl)
theorem co_box {q1 : Nat} {q2 : AX} : contOps C (⟨d, .box q1 q2, none, i, tk, lst⟩ :: l) Q rd s = effK lst C (bif lst then [] else rd) d (.box q1 q2) l Q s := (contOps_eff rfl).trans rfl
theorem co_new {q1 : PV} : contOps C (⟨d, .new q1, none, i, tk, lst⟩ :: l) Q rd s = effK lst C (bif lst then [] else rd) d (.new q1) l Q s := (contOps_eff rfl).trans rfl
theorem co_bslice {q1 : Bool} {q2 : TypeId} {q3 : Nat} {q4 : Nat} {q5 : List PV} {q6 : List (Nat × Nat × AX)} : contOps C (⟨d, .bslice q1 q2 q3 q4 q5 q6, none, i, tk, lst⟩ :: l) Q rd s = effK lst C (bif lst then [] else rd) d (.bslice q1 q2 q3 q4 q5 q6) l Q s := (contOps_eff rfl).trans rfl
theorem co_st {q1 : Nat} {q2 : AX} {q3 : AX} : contOps C (⟨d, .st q1 q2 q3, none, i, tk, lst⟩ :: l) Q rd s = effK lst C (bif lst then [] else rd) d (.st q1 q2 q3) l Q s := (contOps_eff rfl).trans rfl
theorem co_app {q1 : Bool} {q2 : TypeId} {q3 : Nat} {q4 : Nat} {q5 : List PV} {q6 : AX} {q7 : AX} : contOps C (⟨d, .app q1 q2 q3 q4 q5 q6 q7, none, i, tk, lst⟩ :: l) Q rd s = effK lst C (bif lst then [] else rd) d (.app q1 q2 q3 q4 q5 q6 q7) l Q s := (contOps_eff rfl).trans rfl
theorem co_mks {q1 : Bool} {q2 : TypeId} {q3 : Nat} {q4 : Nat} {q5 : List PV} {q6 : AX} {q7 : AX} : contOps C (⟨d, .mks q1 q2 q3 q4 q5 q6 q7, none, i, tk, lst⟩ :: l) Q rd s = effK lst C (bif lst then [] else rd) d (.mks q1 q2 q3 q4 q5 q6 q7) l Q s := (contOps_eff rfl).trans rfl
theorem co_call {q1 : FuncId} {q2 : List AX} : contOps C (⟨d, .call q1 q2, none, i, tk, lst⟩ :: l) Q rd s = effK lst C (bif lst then [] else rd) d (.call q1 q2) l Q s := (contOps_eff rfl).trans rfl
theorem co_callv {q1 : AX} {q2 : List AX} : contOps C (⟨d, .callv q1 q2, none, i, tk, lst⟩ :: l) Q rd s = effK lst C (bif lst then [] else rd) d (.callv q1 q2) l Q s := (contOps_eff rfl).trans rfl
def rdL (L : List ABlk) : AV → List Nat
  | .loc id _ => rdB id L[id]?
  | _ => []
 where rdB (id : Nat) : Option ABlk → List Nat
  | some (.cells _) => [id]
  | some (.prt _ _) => [id]
  | _ => []
theorem co_ld {n : Option Nat} {x : AX} : contOps C (⟨d, .ld n x, none, i, tk, lst⟩ :: l) Q rd s = elimK (stillV s (.ld n x)) C (bif tk then rdL s.loc (x.ev s) ++ rd else rd) d l Q s := by
  exact (contOps_still rfl).trans rfl
theorem rdL_p {L : List ABlk} {x : PV} : rdL L (.p x) = [] := rfl
theorem rdL_loc {L : List ABlk} {id off : Nat} : rdL L (.loc id off) = rdL.rdB id L[id]? := rfl
theorem rdB_cells {id : Nat} {cs : List AV} : rdL.rdB id (some (.cells cs)) = [id] := rfl
theorem ldB_prt {n : Option Nat} {m : Nat} {cs : List AV} {off : Nat} : ldS.ldB n off (some (.prt m cs)) = partA cs off n := rfl
theorem ldB_half {n : Option Nat} {cs : List AV} {off : Nat} : ldS.ldB n off (some (.half cs)) = partA cs off n := rfl
theorem rdB_prt {id m : Nat} {cs : List AV} : rdL.rdB id (some (.prt m cs)) = [id] := rfl
theorem rdB_half {id : Nat} {cs : List AV} : rdL.rdB id (some (.half cs)) = [] := rfl
theorem cells_mpl {id : Nat} : cellsA 1 (.mpl id) = some [.mpl id] := rfl
theorem pures_mpl {id : Nat} {cs : List AV} : pures (.mpl id :: cs) = none := rfl
def lkL : AV → List Nat
  | .mpl id => [id]
  | _ => []
theorem lkL_mpl {id : Nat} : lkL (.mpl id) = [id] := rfl
def lkS (ks : List CK) (ag : Bool) (z : PV) (ok : Bool) (L : List ABlk) : AV → AV → Option AV
  | .mpl id, .p k => lkB ks ag z ok k L[id]?
  | .p (.mpf es), .p k => (lkpV ks ag z ok es k).map .p
  | _, _ => none
 where lkB (ks : List CK) (ag : Bool) (z : PV) (ok : Bool) (k : PV) : Option ABlk → Option AV
  | some (.mp es) => (lkpV ks ag z ok es k).map .p
  | some (.mfz es) => (lkpV ks ag z ok es k).map .p
  | _ => none
theorem still_lkp' {ks : List CK} {ag ok : Bool} {z : PV} {x y : AX} : stillV s (.lkp ks ag z ok x y) = lkS ks ag z ok s.loc (x.ev s) (y.ev s) := by
  simp only [stillV]
  split
  · rename_i e1 e2
    rw [e1, e2]
    simp only [lkS]
    split
    · rename_i h; rw [h]; rfl
    · rename_i h; rw [h]; rfl
    · unfold lkS.lkB; split <;> simp_all
  · rename_i e1 e2; rw [e1, e2]; rfl
  · rename_i h1 h2
    unfold lkS
    split
    · rename_i e1 e2; exact absurd e2 (h1 _ _ e1)
    · rename_i e1 e2; exact absurd e2 (h2 _ _ e1)
    · rfl
theorem lkS_mpf {ks : List CK} {ag ok : Bool} {z k : PV} {L : List ABlk} {es : List (PV × PV)} : lkS ks ag z ok L (.p (.mpf es)) (.p k) = (lkpV ks ag z ok es k).map .p := rfl
theorem lkB_mfz {ks : List CK} {ag ok : Bool} {z k : PV} {es : List (PV × PV)} : lkS.lkB ks ag z ok k (some (.mfz es)) = (lkpV ks ag z ok es k).map .p := rfl
theorem lkL_p {x : PV} : lkL (.p x) = [] := rfl
theorem cells_mpf {es : List (PV × PV)} : cellsA 1 (.p (.mpf es)) = some [.p (.mpf es)] := rfl
theorem lkS_mpl {ks : List CK} {ag ok : Bool} {z k : PV} {L : List ABlk} {id : Nat} : lkS ks ag z ok L (.mpl id) (.p k) = lkS.lkB ks ag z ok k L[id]? := rfl
theorem lkB_mp {ks : List CK} {ag ok : Bool} {z k : PV} {es : List (PV × PV)} : lkS.lkB ks ag z ok k (some (.mp es)) = (lkpV ks ag z ok es k).map .p := rfl
theorem co_lkp {ks : List CK} {ag ok : Bool} {z : PV} {x y : AX} : contOps C (⟨d, .lkp ks ag z ok x y, none, i, tk, lst⟩ :: l) Q rd s = elimK (stillV s (.lkp ks ag z ok x y)) C (bif tk then lkL (x.ev s) ++ rd else rd) d l Q s := by
  rw [contOps_still rfl]
  rfl
theorem co_mkm : contOps C (⟨d, .mkm, none, i, tk, lst⟩ :: l) Q rd s = contOps C l Q (bif lst then [] else rd) (({ s with loc := s.loc ++ [.mp []] } : AS).put d (.mpl s.loc.length)) := (contOps_eff rfl).trans rfl
def mupK (lst : Bool) (ks : List CK) (ag : Bool) (x k v : AV) (C : Con) (rd : List Nat) (d : Option Nat) (l : List AOp) (Q : AEx → AS → Prop) (s : AS) : Prop :=
  match x, k, v with
  | .mpl id, .p k, .p v => mupB lst ks ag id k v s.loc[id]? C rd d l Q s
  | _, _, _ => False
 where mupB (lst : Bool) (ks : List CK) (ag : Bool) (id : Nat) (k v : PV) (b : Option ABlk) (C : Con) (rd : List Nat) (d : Option Nat) (l : List AOp) (Q : AEx → AS → Prop) (s : AS) : Prop :=
  match b with
  | some (.mp es) => ∃ es', mput ks ag k v es = some es' ∧ (lst = true ∨ id ∉ rd) ∧ contOps C l Q rd (({ s with loc := s.loc.set id (.mp es') } : AS).put d (.p .und))
  | _ => False
theorem co_mup {ks : List CK} {ag : Bool} {x k v : AX} : contOps C (⟨d, .mup ks ag x k v, none, i, tk, lst⟩ :: l) Q rd s = mupK lst ks ag (x.ev s) (k.ev s) (v.ev s) C (bif lst then [] else rd) d l Q s := by
  rw [contOps_eff rfl]
  simp only [effK, effQ, putK]
  generalize x.ev s = a
  generalize k.ev s = b
  generalize v.ev s = c
  cases a with
  | mpl id =>
    cases b with
    | p k =>
      cases c with
      | p v =>
        simp only [mupK]
        generalize s.loc[id]? = o
        cases o with
        | none => rfl
        | some q =>
          cases q with
          | mp es =>
            simp only [mupK.mupB]
            cases mput ks ag k v es <;> simp
          | _ => rfl
      | _ => rfl
    | _ => rfl
  | _ => rfl
theorem mupK_mpl {ks : List CK} {ag : Bool} {id : Nat} {k v : PV} : mupK lst ks ag (.mpl id) (.p k) (.p v) C rd d l Q s = mupK.mupB lst ks ag id k v s.loc[id]? C rd d l Q s := rfl
theorem mupB_mp {ks : List CK} {ag : Bool} {id : Nat} {k v : PV} {es : List (PV × PV)} : mupK.mupB lst ks ag id k v (some (.mp es)) C rd d l Q s = ∃ es', mput ks ag k v es = some es' ∧ (lst = true ∨ id ∉ rd) ∧ contOps C l Q rd (({ s with loc := s.loc.set id (.mp es') } : AS).put d (.p .und)) := rfl
def iadrAS (sz len : Nat) : AV → AV → Option AV
  | .p (.ptr cs o), .p (.val (.int _ i)) => if 0 ≤ i ∧ i < len then some (.p (.ptr cs (o + i.toNat * sz))) else none
  | .loc id o, .p (.val (.int _ i)) => if 0 ≤ i ∧ i < len then some (.loc id (o + i.toNat * sz)) else none
  | _, _ => none
theorem still_iadrA' {sz len : Nat} {x y : AX} : stillV s (.iadrA sz len x y) = iadrAS sz len (x.ev s) (y.ev s) := rfl
theorem iadrA_loc' {sz len id o j : Nat} {k : IntKind} (h : j < len) : iadrAS sz len (.loc id o) (.p (.val (.int k (j : Int)))) = some (.loc id (o + j * sz)) := by
  have h1 : 0 ≤ (j : Int) ∧ (j : Int) < (len : Int) := ⟨by omega, by omega⟩
  simp [iadrAS, h1]
theorem iadrA_ptr' {sz len o j : Nat} {cs : List PV} {k : IntKind} (h : j < len) : iadrAS sz len (.p (.ptr cs o)) (.p (.val (.int k (j : Int)))) = some (.p (.ptr cs (o + j * sz))) := by
  have h1 : 0 ≤ (j : Int) ∧ (j : Int) < (len : Int) := ⟨by omega, by omega⟩
  simp [iadrAS, h1]
def idxS (sz len : Nat) (n : Option Nat) : AV → AV → Option AV
  | .p (.agg cs), .p (.val (.int _ i)) => if 0 ≤ i ∧ i < len then (partP cs (i.toNat * sz) n).map .p else none
  | .agg cs, .p (.val (.int _ i)) => if 0 ≤ i ∧ i < len then partA cs (i.toNat * sz) n else none
  | _, _ => none
theorem still_idx' {sz len : Nat} {n : Option Nat} {x y : AX} : stillV s (.idx sz len n x y) = idxS sz len n (x.ev s) (y.ev s) := rfl
def nilcS : AV → Option AV
  | .p (.ptr cs o) => some (.p (.ptr cs o))
  | .loc id o => some (.loc id o)
  | .p (.val (.func (.func f) a b)) => some (.p (.val (.func (.func f) a b)))
  | _ => none
theorem still_nilc' {x : AX} : stillV s (.nilc x) = nilcS (x.ev s) := rfl
theorem nilcS_ptr {cs : List PV} {o : Nat} : nilcS (.p (.ptr cs o)) = some (.p (.ptr cs o)) := rfl
theorem nilcS_loc {id o : Nat} : nilcS (.loc id o) = some (.loc id o) := rfl
theorem nilcS_fn {f : FuncId} {a b : Array Value} : nilcS (.p (.val (.func (.func f) a b))) = some (.p (.val (.func (.func f) a b))) := rfl
def slaK (sz len : Nat) (l h : Option Int) (p : Option (PV × List ABlk)) (C : Con) (rd : List Nat) (d : Option Nat) (r : List AOp) (Q : AEx → AS → Prop) (s : AS) : Prop :=
  match l, h, p with
  | some l, some h, some (.ptr cs off, L') => 0 ≤ l ∧ l ≤ h ∧ h ≤ len ∧ off + len * sz ≤ cs.length ∧
      contOps C r Q rd (({ s with loc := L' } : AS).put d (.p (.sl (if h = len then .full else .sh) sz (rows sz (h - l).toNat (cs.drop (off + l.toNat * sz))))))
  | _, _, _ => False
theorem co_slcA {sz len : Nat} {x : AX} {lo hi : Option AX} : contOps C (⟨d, .slcA sz len x lo hi, none, i, tk, lst⟩ :: l) Q rd s = slaK sz len (optInt s lo 0) (optInt s hi len) (pur 100 s.loc (x.ev s)) C (bif lst then [] else rd) d l Q s := by
  rw [contOps_eff rfl]
  simp only [effK, effQ, slaK, putK]
  split
  · rename_i e1 e2 e3; rw [e1, e2, e3]
  · rename_i h1
    split
    · rename_i e1 e2 e3; exact absurd e3 (h1 _ _ _ _ _ e1 e2)
    · rfl
theorem slaK_some {sz len off : Nat} {a b : Int} {cs : List PV} {L' : List ABlk} : slaK sz len (some a) (some b) (some (.ptr cs off, L')) C rd d l Q s = (0 ≤ a ∧ a ≤ b ∧ b ≤ len ∧ off + len * sz ≤ cs.length ∧
      contOps C l Q rd (({ s with loc := L' } : AS).put d (.p (.sl (if b = len then .full else .sh) sz (rows sz (b - a).toNat (cs.drop (off + a.toNat * sz))))))) := rfl
theorem optI_none {b : Int} : optInt s none b = some b := rfl
theorem optI_some {x : AX} {b : Int} : optInt s (some x) b = (x.ev s).int? := rfl
theorem pur_p {x : PV} {L : List ABlk} : pur 100 L (.p x) = some (x, L) := rfl
theorem cloOf_clo {f : FuncId} {fi cap : List PV} : cloOf (.clo f fi cap) = some (f, fi, cap) := rfl
theorem rdB_frz {id : Nat} {cs : List PV} : rdL.rdB id (some (.frz cs)) = [] := rfl
theorem effK_box {n : Nat} {x : AX} : effK lst C rd d (.box n x) l Q s = boxK (cellsA n (x.ev s)) C rd d l Q s := by
  simp only [effK, effQ, boxK]
  cases cellsA n (x.ev s) <;> rfl
theorem boxK_some {cs : List AV} : boxK (some cs) C rd d l Q s = contOps C l Q rd ((mkOwn s cs).put d (.loc s.loc.length 0)) := rfl
theorem cells_val {v : Value} : cellsA 1 (.p (.val v)) = some [.p (.val v)] := rfl
theorem cells_sl {k : SK} {sz : Nat} {es : List (List PV)} : cellsA 1 (.p (.sl k sz es)) = some [.p (.sl k sz es)] := rfl
theorem cells_ptr {cs : List PV} {o : Nat} : cellsA 1 (.p (.ptr cs o)) = some [.p (.ptr cs o)] := rfl
theorem cells_loc {id o : Nat} : cellsA 1 (.loc id o) = some [.loc id o] := rfl
theorem cells_sli {id n sz : Nat} : cellsA 1 (.sli id n sz) = some [.sli id n sz] := rfl
theorem cells_clo {f : FuncId} {fi cap : List AV} : cellsA 1 (.clo f fi cap) = some [.clo f fi cap] := rfl
theorem cells_cloP {f : FuncId} {fi cap : List PV} : cellsA 1 (.p (.clo f fi cap)) = some [.p (.clo f fi cap)] := rfl
theorem cells_agg {n : Nat} {cs : List PV} (h : cs.length = n) : cellsA n (.p (.agg cs)) = some (cs.map .p) := by simp [cellsA, h]
theorem cells_aggA {n : Nat} {cs : List AV} (h : cs.length = n) : cellsA n (.agg cs) = some cs := by simp [cellsA, h]
theorem effK_new {z : PV} : effK lst C rd d (.new z) l Q s = newK z C rd d l Q s := by
  cases z with
  | tup vs => (rcases vs with _ | ⟨x, _ | ⟨y, l⟩⟩ <;> first | rfl | (cases x <;> rfl))
  | _ => rfl
theorem newK_map : newK (.tup [.any]) C rd d l Q s = contOps C l Q rd ((mkOwn s [.p .any]).put d (.loc s.loc.length 0)) := rfl
theorem newK_agg {cs : List PV} : newK (.agg cs) C rd d l Q s = contOps C l Q rd ((mkOwn s (cs.map .p)).put d (.loc s.loc.length 0)) := rfl
theorem newK_val {v : Value} : newK (.val v) C rd d l Q s = contOps C l Q rd ((mkOwn s [.p (.val v)]).put d (.loc s.loc.length 0)) := rfl
theorem newK_sl {k : SK} {sz : Nat} {es : List (List PV)} : newK (.sl k sz es) C rd d l Q s = contOps C l Q rd ((mkOwn s [.p (.sl k sz es)]).put d (.loc s.loc.length 0)) := rfl
theorem effK_call {f : FuncId} {xs : List AX} : effK lst C rd d (.call f xs) l Q s = C.call f (evs s xs) (if lst then [] else rd) (putK C l Q rd d) s := rfl
theorem putK_ap : putK C l Q rd d v s = contOps C l Q rd (s.put d v) := id rfl
theorem evs_nil : evs s [] = [] := rfl
theorem evs_cons {x : AX} {xs : List AX} : evs s (x :: xs) = x.ev s :: evs s xs := rfl
theorem effK_st {n : Nat} {x y : AX} : effK lst C rd d (.st n x y) l Q s = stK lst (x.ev s) (cellsA n (y.ev s)) C rd d n l Q s := by
  simp only [effK, effQ, stK]
  generalize x.ev s = v
  generalize cellsA n (y.ev s) = u
  cases v with
  | loc id off =>
    cases u with
    | none => rfl
    | some c =>
      simp only
      cases s.loc[id]? with
      | none => rfl
      | some k => cases k <;> rfl
  | _ => rfl
theorem stK_loc {id off n : Nat} {c : List AV} : stK lst (.loc id off) (some c) C rd d n l Q s = stK.stB lst id off s.loc[id]? c C rd d n l Q s := rfl
theorem stB_prt {id off n m : Nat} {c cs : List AV} : stK.stB lst id off (some (.prt m cs)) c C rd d n l Q s = ((lst = true ∨ id ∉ rd) ∧ m ≤ off ∧ off + n ≤ cs.length ∧ contOps C l Q rd (({ s with loc := s.loc.set id (.prt m (putCells cs off c)) } : AS).put d (.p .und))) := rfl
theorem stB_cells {id off n : Nat} {c cs : List AV} : stK.stB lst id off (some (.cells cs)) c C rd d n l Q s = ((lst = true ∨ id ∉ rd) ∧ off + n ≤ cs.length ∧ contOps C l Q rd (({ s with loc := s.loc.set id (.cells (putCells cs off c)) } : AS).put d (.p .und))) := rfl
theorem guardK_dec {p : Prop} [Decidable p] {j : AX} {o : AOp} : guardK (.p (.val (.bool (decide p)))) j true C rd o l Q s = ((p → contOps C ({ o with guard := none } :: l) Q rd (s.know j true)) ∧ (¬ p → contOps C l Q rd ((s.know j false).put o.dst (.p .und)))) := by
  rw [guardK_val]
  by_cases h : p <;> simp [h]
theorem guardK_decf {p : Prop} [Decidable p] {j : AX} {o : AOp} : guardK (.p (.val (.bool (decide p)))) j false C rd o l Q s = ((¬ p → contOps C ({ o with guard := none } :: l) Q rd (s.know j false)) ∧ (p → contOps C l Q rd ((s.know j true).put o.dst (.p .und)))) := by
  rw [guardK_val]
  by_cases h : p <;> simp [h]
theorem condK_dec {p : Prop} [Decidable p] {c : AX} {x y : AC} : condK (.p (.val (.bool (decide p)))) c C x y Q s = ((p → exec C x Q (s.know c true)) ∧ (¬ p → exec C y Q (s.know c false))) := by
  rw [condK_val]
  by_cases h : p <;> simp [h]
theorem unS_notd {p : Prop} [Decidable p] : unS .not (.p (.val (.bool (decide p)))) = some (.p (.val (.bool (decide (¬ p))))) := by simp [unS]
theorem still_build' {z : List PV} {ps : List (Nat × Nat × AX)} : stillV s (.build z ps) = (fillA s ps (z.map .p)).map mkAgg := rfl
def fillK (v : Option (List AV)) (s : AS) (o n : Nat) (l : List (Nat × Nat × AX)) (cs : List AV) : Option (List AV) :=
  match v with
  | some v => if o + n ≤ cs.length then fillA s l (putCells cs o v) else none
  | none => none
theorem fillA_nil {cs : List AV} : fillA s [] cs = some cs := rfl
theorem fillA_cons {o n : Nat} {x : AX} {ps : List (Nat × Nat × AX)} {cs : List AV} : fillA s ((o, n, x) :: ps) cs = fillK (cellsA n (x.ev s)) s o n ps cs := by
  simp only [fillA, fillK]
  cases cellsA n (x.ev s) <;> rfl
theorem fillK_some {o n : Nat} {ps : List (Nat × Nat × AX)} {v cs : List AV} : fillK (some v) s o n ps cs = if o + n ≤ cs.length then fillA s ps (putCells cs o v) else none := rfl
theorem putCells_eq {cs v : List AV} {o : Nat} : putCells cs o v = cs.take o ++ v ++ cs.drop (o + v.length) := rfl
def mkAggK (v : Option (List PV)) (cs : List AV) : AV :=
  match v with
  | some l => .p (.agg l)
  | none => .agg cs
theorem mkAgg_eq {cs : List AV} : mkAgg cs = mkAggK (pures cs) cs := by
  simp only [mkAgg, mkAggK]
  cases pures cs <;> rfl
theorem mkAggK_some {l : List PV} {cs : List AV} : mkAggK (some l) cs = .p (.agg l) := rfl
theorem mkAggK_none {cs : List AV} : mkAggK none cs = .agg cs := rfl
theorem pures_nil : pures [] = some [] := rfl
theorem pures_p {x : PV} {cs : List AV} : pures (.p x :: cs) = (pures cs).map (x :: ·) := rfl
theorem pures_loc {id o : Nat} {cs : List AV} : pures (.loc id o :: cs) = none := rfl
theorem pures_agg {xs cs : List AV} : pures (.agg xs :: cs) = none := rfl
theorem pures_sli {id n sz : Nat} {cs : List AV} : pures (.sli id n sz :: cs) = none := rfl
theorem pures_mapP (l : List PV) : pures (l.map .p) = some l := by
  induction l with
  | nil => rfl
  | cons x l ih => rw [List.map_cons, pures_p, ih]; rfl
theorem cells_agg' {n : Nat} {cs : List PV} : cellsA n (.p (.agg cs)) = if cs.length = n then some (cs.map .p) else none := rfl
theorem cells_aggA' {n : Nat} {cs : List AV} : cellsA n (.agg cs) = if cs.length = n then some cs else none := rfl
theorem partP_some' {cs : List PV} {off n : Nat} : partP cs off (some n) = if off + n ≤ cs.length then some (.agg ((cs.drop off).take n)) else none := rfl
theorem partA_some' {cs : List AV} {off n : Nat} : partA cs off (some n) = if off + n ≤ cs.length then some (mkAgg ((cs.drop off).take n)) else none := rfl
def bslK (m : Bool) (v : Option (List AV)) (sz n : Nat) (C : Con) (rd : List Nat) (d : Option Nat) (l : List AOp) (Q : AEx → AS → Prop) (s : AS) : Prop :=
  match v with
  | some cs => match m with
    | true => contOps C l Q rd ((mkOwn s cs).put d (.sli s.loc.length n sz))
    | false => bslP (pures cs) sz n C rd d l Q s
  | none => False
 where bslP (v : Option (List PV)) (sz n : Nat) (C : Con) (rd : List Nat) (d : Option Nat) (l : List AOp) (Q : AEx → AS → Prop) (s : AS) : Prop :=
  match v with
  | some r => contOps C l Q rd (s.put d (.p (.sl .full sz (rows sz n r))))
  | none => False
theorem effK_bslice {m : Bool} {e : TypeId} {sz n : Nat} {z : List PV} {ps : List (Nat × Nat × AX)} : effK lst C rd d (.bslice m e sz n z ps) l Q s = bslK m (fillA s ps ((repl n z).map .p)) sz n C rd d l Q s := by
  simp only [effK, effQ, bslK]
  cases fillA s ps ((repl n z).map .p) with
  | none => rfl
  | some cs =>
    cases m with
    | true => rfl
    | false =>
      simp only [bslK.bslP]
      cases pures cs <;> rfl
theorem bslK_own {sz n : Nat} {cs : List AV} : bslK true (some cs) sz n C rd d l Q s = contOps C l Q rd ((mkOwn s cs).put d (.sli s.loc.length n sz)) := rfl
theorem bslK_pure {sz n : Nat} {cs : List AV} : bslK false (some cs) sz n C rd d l Q s = bslK.bslP (pures cs) sz n C rd d l Q s := rfl
theorem bslP_some {sz n : Nat} {r : List PV} : bslK.bslP (some r) sz n C rd d l Q s = contOps C l Q rd (s.put d (.p (.sl .full sz (rows sz n r)))) := rfl
theorem repl_zero {z : List PV} : repl 0 z = [] := rfl
theorem repl_succ {n : Nat} {z : List PV} : repl (n + 1) z = z ++ repl n z := rfl
theorem rows_zero {sz : Nat} {cs : List PV} : rows sz 0 cs = [] := rfl
theorem rows_succ {sz n : Nat} {cs : List PV} : rows sz (n + 1) cs = cs.take sz :: rows sz n (cs.drop sz) := rfl
def appK (m : Bool) (v u : AV) (e : TypeId) (sz : Nat) (C : Con) (rd : List Nat) (d : Option Nat) (l : List AOp) (Q : AEx → AS → Prop) (s : AS) : Prop :=
  match v, u with
  | .p (.sl k sz1 es), .p (.sl _ sz2 news) => (sz1 = sz ∨ es = []) ∧ (sz2 = sz ∨ news = []) ∧ es.length + news.length ≤ 1000000 ∧
      match m with
      | false => canApp s.live e sz k ∧ ∀ t, t ∉ s.live → contOps C l Q rd (({ s with live := t :: liveApp s.live k } : AS).put d (.p (.sl (.own t e sz) sz (es ++ news))))
      | true => k = .full ∧ (news = [] → contOps C l Q rd (s.put d (.p (.sl .full sz es)))) ∧ (news ≠ [] → contOps C l Q rd ((mkOwn s ((es ++ news).flatten.map .p)).put d (.sli s.loc.length (es ++ news).length sz)))
  | _, _ => False
theorem effK_app {m : Bool} {e : TypeId} {sz q : Nat} {z : List PV} {x y : AX} : effK lst C rd d (.app m e sz q z x y) l Q s = appK m (x.ev s) (y.ev s) e sz C rd d l Q s := by
  simp only [effK, effQ, appK]
  generalize x.ev s = v
  generalize y.ev s = u
  cases v with
  | p a =>
    cases a with
    | sl k sz1 es =>
      cases u with
      | p b =>
        cases b with
        | sl k2 sz2 news => cases m <;> rfl
        | _ => rfl
      | _ => rfl
    | _ => rfl
  | _ => rfl
theorem appK_sl {k k2 : SK} {e : TypeId} {sz sz1 sz2 : Nat} {es news : List (List PV)} : appK false (.p (.sl k sz1 es)) (.p (.sl k2 sz2 news)) e sz C rd d l Q s =
    ((sz1 = sz ∨ es = []) ∧ (sz2 = sz ∨ news = []) ∧ es.length + news.length ≤ 1000000 ∧ canApp s.live e sz k ∧ ∀ t, t ∉ s.live → contOps C l Q rd (({ s with live := t :: liveApp s.live k } : AS).put d (.p (.sl (.own t e sz) sz (es ++ news))))) := rfl
theorem appK_own {k k2 : SK} {e : TypeId} {sz sz1 sz2 : Nat} {es news : List (List PV)} : appK true (.p (.sl k sz1 es)) (.p (.sl k2 sz2 news)) e sz C rd d l Q s =
    ((sz1 = sz ∨ es = []) ∧ (sz2 = sz ∨ news = []) ∧ es.length + news.length ≤ 1000000 ∧ k = .full ∧ (news = [] → contOps C l Q rd (s.put d (.p (.sl .full sz es)))) ∧ (news ≠ [] → contOps C l Q rd ((mkOwn s ((es ++ news).flatten.map .p)).put d (.sli s.loc.length (es ++ news).length sz)))) := rfl
theorem canApp_full {V : List Nat} {e : TypeId} {sz : Nat} : canApp V e sz .full = True := rfl
theorem canApp_own {V : List Nat} {e e' : TypeId} {sz sz' t : Nat} : canApp V e sz (.own t e' sz') = (t ∈ V ∧ e' = e ∧ sz' = sz) := rfl
theorem liveApp_full {V : List Nat} : liveApp V .full = V := rfl
theorem liveApp_own {V : List Nat} {e : TypeId} {sz t : Nat} : liveApp V (.own t e sz) = V.erase t := rfl
def mksK (m : Bool) (v u : Option Int) (e : TypeId) (sz : Nat) (z : List PV) (C : Con) (rd : List Nat) (d : Option Nat) (l : List AOp) (Q : AEx → AS → Prop) (s : AS) : Prop :=
  match v, u with
  | some a, some c => 0 ≤ a ∧ a ≤ c ∧ c ≤ 1000000 ∧ match m with
    | false => ∀ t, t ∉ s.live → contOps C l Q rd (({ s with live := t :: s.live } : AS).put d (.p (.sl (.own t e sz) sz (List.replicate a.toNat z))))
    | true => contOps C l Q rd ((mkOwn s ((repl a.toNat z).map .p)).put d (.sli s.loc.length a.toNat sz))
  | _, _ => False
theorem effK_mks {m : Bool} {e : TypeId} {sz q : Nat} {z : List PV} {x y : AX} : effK lst C rd d (.mks m e sz q z x y) l Q s = mksK m (x.ev s).int? (y.ev s).int? e sz z C rd d l Q s := by
  simp only [effK, effQ, mksK]
  cases (x.ev s).int? <;> cases (y.ev s).int? <;> first | rfl | (cases m <;> rfl)
theorem mksK_pure {a c : Int} {e : TypeId} {sz : Nat} {z : List PV} : mksK false (some a) (some c) e sz z C rd d l Q s = (0 ≤ a ∧ a ≤ c ∧ c ≤ 1000000 ∧ ∀ t, t ∉ s.live → contOps C l Q rd (({ s with live := t :: s.live } : AS).put d (.p (.sl (.own t e sz) sz (List.replicate a.toNat z))))) := rfl
theorem mksK_own {a c : Int} {e : TypeId} {sz : Nat} {z : List PV} : mksK true (some a) (some c) e sz z C rd d l Q s = (0 ≤ a ∧ a ≤ c ∧ c ≤ 1000000 ∧ contOps C l Q rd ((mkOwn s ((repl a.toNat z).map .p)).put d (.sli s.loc.length a.toNat sz))) := rfl
theorem int_val {k : IntKind} {n : Int} : AV.int? (.p (.val (.int k n))) = some n := rfl
def mxS (m : Bool) (v : AV) (xs : List AX) (s : AS) : Option AV :=
  match v with
  | .p (.val (.int k n)) => (mxV m s xs k n).map fun v => .p (.val v)
  | _ => none
theorem still_mx' {m : Bool} {x : AX} {xs : List AX} : stillV s (.mx m (x :: xs)) = mxS m (x.ev s) xs s := by
  simp only [stillV, mxS]
  generalize x.ev s = v
  cases v with
  | p z =>
    cases z with
    | val u => cases u <;> rfl
    | _ => rfl
  | _ => rfl
theorem mxS_int {m : Bool} {k : IntKind} {n : Int} {xs : List AX} : mxS m (.p (.val (.int k n))) xs s = (mxV m s xs k n).map fun v => .p (.val v) := rfl
theorem mxV_nil {m : Bool} {k : IntKind} {n : Int} : mxV m s [] k n = some (.int k n) := rfl
def mxK (m : Bool) (v : AV) (xs : List AX) (k : IntKind) (n : Int) (s : AS) : Option Value :=
  match v with
  | .p (.val (.int k' b)) => if k = k' then mxV m s xs k (maxI m n b) else none
  | _ => none
theorem mxV_cons {m : Bool} {k : IntKind} {n : Int} {x : AX} {xs : List AX} : mxV m s (x :: xs) k n = mxK m (x.ev s) xs k n s := by
  simp only [mxV, mxK]
  generalize x.ev s = v
  cases v with
  | p z =>
    cases z with
    | val u => cases u <;> rfl
    | _ => rfl
  | _ => rfl
theorem mxK_int {m : Bool} {k : IntKind} {n b : Int} {xs : List AX} : mxK m (.p (.val (.int k b))) xs k n s = mxV m s xs k (maxI m n b) := by simp [mxK]
theorem maxI_t {x y : Int} : maxI true x y = if y > x then y else x := rfl
theorem maxI_f {x y : Int} : maxI false x y = if y < x then y else x := rfl
theorem effK_callv {x : AX} {xs : List AX} : effK lst C rd d (.callv x xs) l Q s = effQ C lst rd s (putK C l Q rd d) (.callv x xs) := rfl
def cvK (lst : Bool) (v : AV) (args : List AV) (C : Con) (rd : List Nat) (d : Option Nat) (l : List AOp) (Q : AEx → AS → Prop) (s : AS) : Prop :=
  match v with
  | .p (.val (.func (.func f) _ _)) => C.call f args (if lst then [] else rd) (putK C l Q rd d) s
  | .p .yld => ydK s.ys (purArgs s args) C rd d l Q s
  | .p (.clo f fi cap) => C.call f (fi.map .p ++ args ++ cap.map .p) (if lst then [] else rd) (putK C l Q rd d) s
  | .clo f fi cap => C.call f (fi ++ args ++ cap) (if lst then [] else rd) (putK C l Q rd d) s
  | _ => False
 where ydK (ys : Option (List (List PV))) (p : Option (List PV × List ABlk)) (C : Con) (rd : List Nat) (d : Option Nat) (l : List AOp) (Q : AEx → AS → Prop) (s : AS) : Prop :=
  match ys with
  | some (y :: r) => match p with
    | some (xs, L') => PVleL xs y ∧ contOps C l Q rd (({ s with loc := L', ys := some r } : AS).put d (.p (.val (.bool true)))) ∧ contOps C l Q rd (({ s with loc := L', ys := none } : AS).put d (.p (.val (.bool false))))
    | none => False
  | _ => False
theorem effK_callv' {x : AX} {xs : List AX} : effK lst C rd d (.callv x xs) l Q s = cvK lst (x.ev s) (evs s xs) C rd d l Q s := by
  simp only [effK, effQ, cvK]
  generalize x.ev s = v
  cases v with
  | p z =>
    cases z with
    | val u =>
      cases u with
      | func f _ _ => cases f <;> rfl
      | _ => rfl
    | yld =>
      simp only [cvK.ydK]
      cases s.ys with
      | none => rfl
      | some ys =>
        cases ys with
        | nil => rfl
        | cons y r => cases purArgs s (evs s xs) <;> rfl
    | _ => rfl
  | _ => rfl
theorem cvK_fn {f : FuncId} {a b : Array Value} {args : List AV} : cvK lst (.p (.val (.func (.func f) a b))) args C rd d l Q s = C.call f args (if lst then [] else rd) (putK C l Q rd d) s := rfl
theorem cvK_clo {f : FuncId} {fi cap : List AV} {args : List AV} : cvK lst (.clo f fi cap) args C rd d l Q s = C.call f (fi ++ args ++ cap) (if lst then [] else rd) (putK C l Q rd d) s := rfl
theorem cvK_cloP {f : FuncId} {fi cap : List PV} {args : List AV} : cvK lst (.p (.clo f fi cap)) args C rd d l Q s = C.call f (fi.map .p ++ args ++ cap.map .p) (if lst then [] else rd) (putK C l Q rd d) s := rfl
theorem cvK_yld {args : List AV} : cvK lst (.p .yld) args C rd d l Q s = cvK.ydK s.ys (purArgs s args) C rd d l Q s := rfl
theorem ydK_some {y xs : List PV} {r : List (List PV)} {L' : List ABlk} : cvK.ydK (some (y :: r)) (some (xs, L')) C rd d l Q s = (PVleL xs y ∧ contOps C l Q rd (({ s with loc := L', ys := some r } : AS).put d (.p (.val (.bool true)))) ∧ contOps C l Q rd (({ s with loc := L', ys := none } : AS).put d (.p (.val (.bool false))))) := rfl
theorem purA_eq {args : List AV} : purArgs s args = purArgs.purV args s.loc := rfl
theorem purV_nil {L : List ABlk} : purArgs.purV [] L = some ([], L) := rfl
def purVK (x : Option (List PV × List ABlk)) (y : PV) : Option (List PV × List ABlk) :=
  match x with
  | some (r, L) => some (y :: r, L)
  | none => none
theorem purV_p {x : PV} {args : List AV} {L : List ABlk} : purArgs.purV (.p x :: args) L = purVK (purArgs.purV args L) x := by
  simp only [purArgs.purV, pur, purVK]
  cases purArgs.purV args L <;> rfl
theorem purVK_some {r : List PV} {L : List ABlk} {y : PV} : purVK (some (r, L)) y = some (y :: r, L) := rfl
def rndO (T : List (Nat × AV)) (B : Nat) (okn : Prop) (nxt : AS) (Q : AEx → AS → Prop) : AEx → AS → Prop := rndQ T B (fun n => n = nxt ∧ okn) Q
theorem rng_st {f : AX} {ps : List Nat} {a b : AC} (h : ∃ (x : PV) (L' : List ABlk) (g : FuncId) (fi cap : List PV) (xs : List (List PV)) (st : Nat → AS) (ok : Nat → Prop), pur 100 s.loc (f.ev s) = some (x, L') ∧ cloOf x = some (g, fi, cap) ∧ C.it g (fi ++ .yld :: cap) xs ∧ (noY.noYL fi && noY.noYL cap && noY.noYR xs) = true ∧ (∀ y ∈ xs, y.length = ps.length) ∧ Wk { s with loc := L' } (st 0) ∧ ok 0 ∧ (∀ i, (st i).t = (st 0).t ∧ (st i).base = s.base) ∧
      (∀ i y, xs[i]? = some y → ok i → exec C a (asQ (exec C b (rndO (st 0).t s.base (ok (i + 1)) (st (i + 1)) Q))) { st i with t := setPs ps y (st i).t, base := (st i).loc.length }) ∧ (ok xs.length → Q .normal (st xs.length))) : exec C (.rng f ps a b) Q s := by
  obtain ⟨x, L', g, fi, cap, xs, st, ok, h1, h2, h3, h4, h5, h6, h7, h8, h9, h10⟩ := h
  exact ⟨x, L', g, fi, cap, xs, fun i n => n = st i ∧ ok i, st 0, h1, h2, h3, h4, h5, h6, ⟨rfl, h7⟩, fun i n ⟨h, _⟩ => by subst h; exact h8 i, fun i y n hy ⟨h, ho⟩ => by subst h; exact h9 i y hy ho, fun n ⟨h, ho⟩ => by subst h; exact h10 ho⟩
def rndX {ι : Type} (T : List (Nat × AV)) (B : Nat) (ok : ι → Prop) (st : ι → AS) (Q : AEx → AS → Prop) : AEx → AS → Prop := rndQ T B (fun n => ∃ x, n = st x ∧ ok x) Q
theorem rng_ix {ι : Type} {f : AX} {ps : List Nat} {a b : AC} (x : PV) (L' : List ABlk) (g : FuncId) (fi cap : List PV) (xs : List (List PV)) (T : List (Nat × AV)) (st : Nat → ι → AS) (ok : Nat → ι → Prop) (a0 : ι) (h1 : pur 100 s.loc (f.ev s) = some (x, L')) (h2 : cloOf x = some (g, fi, cap)) (h3 : C.it g (fi ++ .yld :: cap) xs) (h4 : (noY.noYL fi && noY.noYL cap && noY.noYR xs) = true) (h5 : ∀ y ∈ xs, y.length = ps.length)
    (h6 : Wk { s with loc := L' } (st 0 a0)) (h7 : ok 0 a0) (h8 : ∀ i a, (st i a).t = T ∧ (st i a).base = s.base) (h9 : ∀ i y c, xs[i]? = some y → ok i c → exec C a (asQ (exec C b (rndX T s.base (ok (i + 1)) (st (i + 1)) Q))) { st i c with t := setPs ps y (st i c).t, base := (st i c).loc.length }) (h10 : ∀ c, ok xs.length c → Q .normal (st xs.length c)) : exec C (.rng f ps a b) Q s :=
  ⟨x, L', g, fi, cap, xs, fun i n => ∃ c, n = st i c ∧ ok i c, st 0 a0, h1, h2, h3, h4, h5, h6, ⟨a0, rfl, h7⟩, fun i n ⟨c, h, _⟩ => by subst h; exact ⟨(h8 i c).1.trans (h8 0 a0).1.symm, (h8 i c).2⟩, fun i y n hy ⟨c, h, ho⟩ => by subst h; rw [(h8 0 a0).1]; exact h9 i y c hy ho, fun n ⟨c, h, ho⟩ => by subst h; exact h10 c ho⟩
theorem asQ_normal {K : AS → Prop} : asQ K .normal s = K s := rfl
theorem rndO_normal {T : List (Nat × AV)} {B : Nat} {okn : Prop} {nxt : AS} : rndO T B okn nxt Q .normal s = (okn ∧ Wk { s with t := T, base := B } nxt) :=
  propext ⟨fun ⟨_, ⟨h1, h2⟩, h3⟩ => by subst h1; exact ⟨h2, h3⟩, fun ⟨h1, h2⟩ => ⟨_, ⟨rfl, h1⟩, h2⟩⟩
theorem rndO_ret {T : List (Nat × AV)} {B : Nat} {okn : Prop} {nxt : AS} : rndO T B okn nxt Q .ret s = Q .ret { s with t := T, base := B } := rfl
theorem rndO_exit {T : List (Nat × AV)} {B n : Nat} {okn : Prop} {nxt : AS} : rndO T B okn nxt Q (.exit n) s = Q (.exit n) { s with t := T, base := B } := rfl
theorem rndX_normal {ι : Type} {T : List (Nat × AV)} {B : Nat} {ok : ι → Prop} {st : ι → AS} : rndX T B ok st Q .normal s = ∃ x, ok x ∧ Wk { s with t := T, base := B } (st x) :=
  propext ⟨fun ⟨_, ⟨x, h1, h2⟩, h3⟩ => by subst h1; exact ⟨x, h2, h3⟩, fun ⟨x, h1, h2⟩ => ⟨_, ⟨x, rfl, h1⟩, h2⟩⟩
theorem rndX_ret {ι : Type} {T : List (Nat × AV)} {B : Nat} {ok : ι → Prop} {st : ι → AS} : rndX T B ok st Q .ret s = Q .ret { s with t := T, base := B } := rfl
theorem rndX_exit {ι : Type} {T : List (Nat × AV)} {B n : Nat} {ok : ι → Prop} {st : ι → AS} : rndX T B ok st Q (.exit n) s = Q (.exit n) { s with t := T, base := B } := rfl
theorem setPs_cons {p : Nat} {ps : List Nat} {x : PV} {xs : List PV} {T : List (Nat × AV)} : setPs (p :: ps) (x :: xs) T = setPs ps xs ((p, .p x) :: T) := rfl
theorem setPs_nil {xs : List PV} {T : List (Nat × AV)} : setPs [] xs T = T := by cases xs <;> rfl
def mkCloK (a b : Option (List PV)) (f : FuncId) (fi cap : List AV) : AV :=
  match a, b with
  | some a, some b => .p (.clo f a b)
  | _, _ => .clo f fi cap
theorem mkClo_eq {f : FuncId} {fi cap : List AV} : mkClo f fi cap = mkCloK (pures fi) (pures cap) f fi cap := by
  simp only [mkClo, mkCloK]
  cases pures fi <;> cases pures cap <;> rfl
theorem mkCloK_some {f : FuncId} {fi cap : List AV} {a b : List PV} : mkCloK (some a) (some b) f fi cap = .p (.clo f a b) := rfl
theorem mkCloK_none1 {f : FuncId} {fi cap : List AV} {b : Option (List PV)} : mkCloK none b f fi cap = .clo f fi cap := by cases b <;> rfl
theorem mkCloK_none2 {f : FuncId} {fi cap : List AV} {a : Option (List PV)} : mkCloK a none f fi cap = .clo f fi cap := by cases a <;> rfl
def eqS (n : List CK) (ne : Bool) : AV → AV → Option AV
  | .p (.agg a), .p (.agg b) => (eqCs n a b).map fun t => .p (.val (.bool (if ne then !t else t)))
  | _, _ => none
theorem still_eqs' {n : List CK} {ne : Bool} {x y : AX} : stillV s (.eqs n ne x y) = eqS n ne (x.ev s) (y.ev s) := by
  simp only [stillV, eqS]
  generalize x.ev s = v
  generalize y.ev s = u
  cases v with
  | p z =>
    cases z with
    | agg a =>
      cases u with
      | p y => cases y <;> rfl
      | _ => rfl
    | _ => rfl
  | _ => rfl
theorem eqS_eq {n : List CK} {a b : List PV} : eqS n false (.p (.agg a)) (.p (.agg b)) = (eqCs n a b).map fun t => .p (.val (.bool t)) := rfl
theorem eqS_ne {n : List CK} {a b : List PV} : eqS n true (.p (.agg a)) (.p (.agg b)) = (eqCs n a b).map fun t => .p (.val (.bool (!t))) := rfl
theorem eqCs_nil : eqCs [] [] [] = some true := rfl
theorem eqCs_i {n : List CK} {k : IntKind} {a b : Int} {l r : List PV} : eqCs (.i :: n) (.val (.int k a) :: l) (.val (.int k b) :: r) = (eqCs n l r).map fun t => decide (a = b) && t := by
  simp only [eqCs, eqC, if_true]
  cases eqCs n l r <;> rfl
theorem eqCs_b {n : List CK} {a b : Bool} {l r : List PV} : eqCs (.b :: n) (.val (.bool a) :: l) (.val (.bool b) :: r) = (eqCs n l r).map fun t => decide (a = b) && t := by
  simp only [eqCs, eqC]
  cases eqCs n l r <;> cases a <;> cases b <;> rfl
theorem dec_and {p q : Prop} [Decidable p] [Decidable q] : (decide p && decide q) = decide (p ∧ q) := by by_cases hp : p <;> by_cases hq : q <;> simp [hp, hq]
theorem dec_tt {p : Prop} [Decidable p] : (decide p && true) = decide p := by simp
theorem dec_not {p : Prop} [Decidable p] : (!decide p) = decide (¬ p) := by by_cases hp : p <;> simp [hp]
theorem unS_nott : unS .not (.p (.val (.bool true))) = some (.p (.val (.bool false))) := rfl
theorem unS_notf : unS .not (.p (.val (.bool false))) = some (.p (.val (.bool true))) := rfl
def nsK (ne : Bool) (v : AV) (C : Con) (rd : List Nat) (d : Option Nat) (l : List AOp) (Q : AEx → AS → Prop) (s : AS) : Prop :=
  match v with
  | .p (.sl _ _ es) => contOps C l Q rd (s.put d (.p (.val (.bool ne)))) ∧ (es = [] → contOps C l Q rd (s.put d (.p (.val (.bool (!ne))))))
  | _ => False
theorem co_nilS {ne : Bool} {x : AX} : contOps C (⟨d, .nilS ne x, none, i, tk, lst⟩ :: l) Q rd s = nsK ne (x.ev s) C (bif lst then [] else rd) d l Q s := by
  rw [contOps_eff rfl]
  simp only [effK, effQ, nsK]
  generalize x.ev s = v
  cases v with
  | p z => cases z <;> rfl
  | _ => rfl
theorem nsK_sl {ne : Bool} {k : SK} {sz : Nat} {es : List (List PV)} : nsK ne (.p (.sl k sz es)) C rd d l Q s = (contOps C l Q rd (s.put d (.p (.val (.bool ne)))) ∧ (es = [] → contOps C l Q rd (s.put d (.p (.val (.bool (!ne))))))) := rfl
def elimG (v : Option AV) (K : AV → Prop) : Prop :=
  match v with
  | some v => K v
  | none => False
theorem elimG_some {K : AV → Prop} : elimG (some v) K = K v := rfl
theorem exec_stop : exec C .stop Q s = False := id rfl
theorem exec_tree {t : AT} : exec C (.tree t) Q s = execT C t [] Q s := id rfl
theorem execT_fin : execT C .fin rd Q s = Q .normal s := rfl
theorem execT_op {o : AOp} {r : AT} : execT C (.op o r) rd Q s = gstep C rd o s (fun rd s => execT C r rd Q s) := rfl
theorem execT_alt {o : AOp} {r r2 : AT} : execT C (.alt o r r2) rd Q s = (gstep C rd o s (fun rd s => execT C r rd Q s) ∧ execT C r2 rd Q s) := rfl
theorem execT_fk {o1 o2 : AOp} {r1 r2 : AT} : execT C (.fk o1 o2 r1 r2) rd Q s = (gstep C rd o1 s (fun rd s => execT C r1 rd Q s) ∧ gstep C rd o2 s (fun rd s => execT C r2 rd Q s)) := rfl
theorem gs_still {K : List Nat → AS → Prop} (h : k.still = true) : gstep C rd ⟨d, k, none, i, tk, lst⟩ s K = elimG (stillV s k) (fun v => K (bif tk then rdOf s k ++ rd else rd) (s.put d v)) := by
  simp only [gstep, stepQ, h, elimG]
  cases tk <;> cases stillV s k <;> rfl
theorem gs_eff {K : List Nat → AS → Prop} (h : k.still = false) : gstep C rd ⟨d, k, none, i, tk, lst⟩ s K = effQ C lst (bif lst then [] else rd) s (fun v s' => K (bif lst then [] else rd) (s'.put d v)) k := by
  simp only [gstep, stepQ, h]
theorem gs_ld {K : List Nat → AS → Prop} {n : Option Nat} {x : AX} : gstep C rd ⟨d, .ld n x, none, i, tk, lst⟩ s K = elimG (stillV s (.ld n x)) (fun v => K (bif tk then rdL s.loc (x.ev s) ++ rd else rd) (s.put d v)) := (gs_still rfl).trans rfl
def gsG (v : AV) (j : AX) (b : Bool) (C : Con) (rd : List Nat) (o : AOp) (K : List Nat → AS → Prop) (s : AS) : Prop :=
  match v with
  | .p (.val (.bool t)) => (t = b → gstep C rd { o with guard := none } (s.know j b) K) ∧ (t = !b → K rd ((s.know j (!b)).put o.dst (.p .und)))
  | .p .und => K rd (s.put o.dst (.p .und))
  | _ => False
theorem gs_guard {K : List Nat → AS → Prop} {j : Nat} : gstep C rd ⟨d, k, some (j, b), i, tk, lst⟩ s K = gsG (look s.t j) (.t j) b C rd ⟨d, k, some (j, b), i, tk, lst⟩ K s := by
  simp only [gstep, gsG]
  cases look s.t j with
  | p x =>
    cases x with
    | val v => cases v <;> rfl
    | _ => rfl
  | _ => rfl
theorem gsG_tt {K : List Nat → AS → Prop} {j : AX} {o : AOp} : gsG (.p (.val (.bool true))) j true C rd o K s = gstep C rd { o with guard := none } (s.know j true) K := by simp [gsG]
theorem gsG_ff {K : List Nat → AS → Prop} {j : AX} {o : AOp} : gsG (.p (.val (.bool false))) j false C rd o K s = gstep C rd { o with guard := none } (s.know j false) K := by simp [gsG]
theorem gsG_tf {K : List Nat → AS → Prop} {j : AX} {o : AOp} : gsG (.p (.val (.bool true))) j false C rd o K s = K rd ((s.know j true).put o.dst (.p .und)) := by simp [gsG]
theorem gsG_ft {K : List Nat → AS → Prop} {j : AX} {o : AOp} : gsG (.p (.val (.bool false))) j true C rd o K s = K rd ((s.know j false).put o.dst (.p .und)) := by simp [gsG]
theorem gsG_und {K : List Nat → AS → Prop} {j : AX} {o : AOp} : gsG (.p .und) j b C rd o K s = K rd (s.put o.dst (.p .und)) := rfl
theorem gsG_dec {p : Prop} [Decidable p] {K : List Nat → AS → Prop} {j : AX} {o : AOp} : gsG (.p (.val (.bool (decide p)))) j true C rd o K s = ((p → gstep C rd { o with guard := none } (s.know j true) K) ∧ (¬ p → K rd ((s.know j false).put o.dst (.p .und)))) := by
  by_cases h : p <;> simp [gsG, h]
theorem gsG_decf {p : Prop} [Decidable p] {K : List Nat → AS → Prop} {j : AX} {o : AOp} : gsG (.p (.val (.bool (decide p)))) j false C rd o K s = ((¬ p → gstep C rd { o with guard := none } (s.know j false) K) ∧ (p → K rd ((s.know j true).put o.dst (.p .und)))) := by
  by_cases h : p <;> simp [gsG, h]
theorem gs_call {K : List Nat → AS → Prop} {f : FuncId} {xs : List AX} : gstep C rd ⟨d, .call f xs, none, i, tk, lst⟩ s K = C.call f (evs s xs) (if lst then [] else (bif lst then [] else rd)) (fun v s' => K (bif lst then [] else rd) (s'.put d v)) s := gs_eff rfl
def boxG (v : Option (List AV)) (d : Option Nat) (s : AS) (K : AS → Prop) : Prop :=
  match v with
  | some cs => K ((mkOwn s cs).put d (.loc s.loc.length 0))
  | none => False
theorem boxG_some {cs : List AV} {K : AS → Prop} : boxG (some cs) d s K = K ((mkOwn s cs).put d (.loc s.loc.length 0)) := rfl
theorem gs_box {K : List Nat → AS → Prop} {n : Nat} {x : AX} : gstep C rd ⟨d, .box n x, none, i, tk, lst⟩ s K = boxG (cellsA n (x.ev s)) d s (K (bif lst then [] else rd)) := by
  rw [gs_eff rfl]
  simp only [effQ, boxG]
  cases cellsA n (x.ev s) <;> rfl
theorem gs_mv {q1 : AX} {K : List Nat → AS → Prop} : gstep C rd ⟨d, .mv q1, none, i, tk, lst⟩ s K = elimG (stillV s (.mv q1)) (fun v => K rd (s.put d v)) := (gs_still rfl).trans (by cases tk <;> rfl)
theorem gs_pick {q1 : AX} {q2 : AX} {q3 : AX} {K : List Nat → AS → Prop} : gstep C rd ⟨d, .pick q1 q2 q3, none, i, tk, lst⟩ s K = elimG (stillV s (.pick q1 q2 q3)) (fun v => K rd (s.put d v)) := (gs_still rfl).trans (by cases tk <;> rfl)
theorem gs_build {q1 : List PV} {q2 : List (Nat × Nat × AX)} {K : List Nat → AS → Prop} : gstep C rd ⟨d, .build q1 q2, none, i, tk, lst⟩ s K = elimG (stillV s (.build q1 q2)) (fun v => K rd (s.put d v)) := (gs_still rfl).trans (by cases tk <;> rfl)
theorem gs_fld {q1 : Nat} {q2 : Option Nat} {q3 : AX} {K : List Nat → AS → Prop} : gstep C rd ⟨d, .fld q1 q2 q3, none, i, tk, lst⟩ s K = elimG (stillV s (.fld q1 q2 q3)) (fun v => K rd (s.put d v)) := (gs_still rfl).trans (by cases tk <;> rfl)
theorem gs_fadr {q1 : Nat} {q2 : AX} {K : List Nat → AS → Prop} : gstep C rd ⟨d, .fadr q1 q2, none, i, tk, lst⟩ s K = elimG (stillV s (.fadr q1 q2)) (fun v => K rd (s.put d v)) := (gs_still rfl).trans (by cases tk <;> rfl)
theorem gs_iadrS {q1 : Nat} {q2 : AX} {q3 : AX} {K : List Nat → AS → Prop} : gstep C rd ⟨d, .iadrS q1 q2 q3, none, i, tk, lst⟩ s K = elimG (stillV s (.iadrS q1 q2 q3)) (fun v => K rd (s.put d v)) := (gs_still rfl).trans (by cases tk <;> rfl)
theorem gs_iadrA {q1 : Nat} {q2 : Nat} {q3 : AX} {q4 : AX} {K : List Nat → AS → Prop} : gstep C rd ⟨d, .iadrA q1 q2 q3 q4, none, i, tk, lst⟩ s K = elimG (stillV s (.iadrA q1 q2 q3 q4)) (fun v => K rd (s.put d v)) := (gs_still rfl).trans (by cases tk <;> rfl)
theorem gs_idx {q1 : Nat} {q2 : Nat} {q3 : Option Nat} {q4 : AX} {q5 : AX} {K : List Nat → AS → Prop} : gstep C rd ⟨d, .idx q1 q2 q3 q4 q5, none, i, tk, lst⟩ s K = elimG (stillV s (.idx q1 q2 q3 q4 q5)) (fun v => K rd (s.put d v)) := (gs_still rfl).trans (by cases tk <;> rfl)
theorem gs_bin {q1 : Bool} {q2 : BinOp} {q3 : AX} {q4 : AX} {K : List Nat → AS → Prop} : gstep C rd ⟨d, .bin q1 q2 q3 q4, none, i, tk, lst⟩ s K = elimG (stillV s (.bin q1 q2 q3 q4)) (fun v => K rd (s.put d v)) := (gs_still rfl).trans (by cases tk <;> rfl)
theorem gs_eqs {q1 : List CK} {q2 : Bool} {q3 : AX} {q4 : AX} {K : List Nat → AS → Prop} : gstep C rd ⟨d, .eqs q1 q2 q3 q4, none, i, tk, lst⟩ s K = elimG (stillV s (.eqs q1 q2 q3 q4)) (fun v => K rd (s.put d v)) := (gs_still rfl).trans (by cases tk <;> rfl)
theorem gs_un {q1 : UnOp} {q2 : AX} {K : List Nat → AS → Prop} : gstep C rd ⟨d, .un q1 q2, none, i, tk, lst⟩ s K = elimG (stillV s (.un q1 q2)) (fun v => K rd (s.put d v)) := (gs_still rfl).trans (by cases tk <;> rfl)
theorem gs_conv {q1 : IntKind} {q2 : AX} {K : List Nat → AS → Prop} : gstep C rd ⟨d, .conv q1 q2, none, i, tk, lst⟩ s K = elimG (stillV s (.conv q1 q2)) (fun v => K rd (s.put d v)) := (gs_still rfl).trans (by cases tk <;> rfl)
theorem gs_ext {q1 : AX} {q2 : Nat} {K : List Nat → AS → Prop} : gstep C rd ⟨d, .ext q1 q2, none, i, tk, lst⟩ s K = elimG (stillV s (.ext q1 q2)) (fun v => K rd (s.put d v)) := (gs_still rfl).trans (by cases tk <;> rfl)
theorem gs_len {q1 : AX} {K : List Nat → AS → Prop} : gstep C rd ⟨d, .len q1, none, i, tk, lst⟩ s K = elimG (stillV s (.len q1)) (fun v => K rd (s.put d v)) := (gs_still rfl).trans (by cases tk <;> rfl)
theorem gs_mx {q1 : Bool} {q2 : List AX} {K : List Nat → AS → Prop} : gstep C rd ⟨d, .mx q1 q2, none, i, tk, lst⟩ s K = elimG (stillV s (.mx q1 q2)) (fun v => K rd (s.put d v)) := (gs_still rfl).trans (by cases tk <;> rfl)
theorem gs_slc {q1 : Nat} {q2 : AX} {q3 : Option AX} {q4 : Option AX} {q5 : Option AX} {K : List Nat → AS → Prop} : gstep C rd ⟨d, .slc q1 q2 q3 q4 q5, none, i, tk, lst⟩ s K = elimG (stillV s (.slc q1 q2 q3 q4 q5)) (fun v => K rd (s.put d v)) := (gs_still rfl).trans (by cases tk <;> rfl)
theorem gs_mkf {q1 : FuncId} {q2 q3 : List AX} {K : List Nat → AS → Prop} : gstep C rd ⟨d, .mkf q1 q2 q3, none, i, tk, lst⟩ s K = elimG (stillV s (.mkf q1 q2 q3)) (fun v => K rd (s.put d v)) := (gs_still rfl).trans (by cases tk <;> rfl)
theorem gs_nilc {q1 : AX} {K : List Nat → AS → Prop} : gstep C rd ⟨d, .nilc q1, none, i, tk, lst⟩ s K = elimG (stillV s (.nilc q1)) (fun v => K rd (s.put d v)) := (gs_still rfl).trans (by cases tk <;> rfl)
theorem gs_lkp {K : List Nat → AS → Prop} {ks : List CK} {ag ok : Bool} {z : PV} {x y : AX} : gstep C rd ⟨d, .lkp ks ag z ok x y, none, i, tk, lst⟩ s K = elimG (stillV s (.lkp ks ag z ok x y)) (fun v => K (bif tk then lkL (x.ev s) ++ rd else rd) (s.put d v)) := (gs_still rfl).trans rfl
theorem gs_mkm {K : List Nat → AS → Prop} : gstep C rd ⟨d, .mkm, none, i, tk, lst⟩ s K = K (bif lst then [] else rd) (({ s with loc := s.loc ++ [.mp []] } : AS).put d (.mpl s.loc.length)) := by simp only [gstep, stepQ, AK.still, effQ]
def optJ (s : AS) : Option AX → Option (Option Int)
  | none => some none
  | some x => (x.ev s).int?.map some
theorem optJ_none : optJ s none = some none := rfl
theorem optJ_some {x : AX} : optJ s (some x) = (x.ev s).int?.map some := rfl
def slcS (sz' : Nat) (v : AV) (lo hi mx : Option (Option Int)) : Option AV :=
  match v, lo, hi, mx with
  | .p (.sl k sz es), some lo, some hi, some mx => if sz ≠ sz' ∧ es.isEmpty = false then none else
      if 0 ≤ lo.getD 0 ∧ lo.getD 0 ≤ hi.getD es.length ∧ hi.getD es.length ≤ es.length then match mx with
        | none => some (.p (.sl (if lo.getD 0 = 0 ∧ hi.getD es.length = es.length then k else .sh) sz' ((es.take (hi.getD es.length).toNat).drop (lo.getD 0).toNat)))
        | some m => if m = hi.getD es.length then some (.p (.sl .full sz' ((es.take (hi.getD es.length).toNat).drop (lo.getD 0).toNat))) else none
      else none
  | _, _, _, _ => none
theorem still_slc' {sz : Nat} {x : AX} {lo hi mx : Option AX} : stillV s (.slc sz x lo hi mx) = slcS sz (x.ev s) (optJ s lo) (optJ s hi) (optJ s mx) := by
  have ho : ∀ (o : Option AX) (d : Int), optInt s o d = (optJ s o).map (·.getD d) := fun o d => by
    cases o with
    | none => rfl
    | some x => simp only [optInt, optJ]; cases (x.ev s).int? <;> rfl
  simp only [stillV, ho]
  generalize x.ev s = v
  have hm : optJ s mx = none → ∃ m, mx = some m ∧ (m.ev s).int? = none := fun h => by
    cases mx with
    | none => cases h
    | some m => refine ⟨m, rfl, ?_⟩; simp only [optJ, Option.map_eq_none_iff] at h; exact h
  cases v with
  | p z =>
    cases z with
    | sl k sz1 es =>
      simp only [slcS]
      cases hlo : optJ s lo <;> cases hhi : optJ s hi
      · simp
      · simp
      · simp
      · rename_i a b
        simp only [Option.map_some]
        cases hmx : optJ s mx with
        | none =>
          obtain ⟨m, rfl, h⟩ := hm hmx
          simp only [h]
          split <;> (try rfl)
          split <;> rfl
        | some m =>
          cases mx with
          | none => cases hmx; rfl
          | some q =>
            simp only [optJ] at hmx
            cases hq : (q.ev s).int? with
            | none => rw [hq] at hmx; cases hmx
            | some w => rw [hq] at hmx; cases hmx; simp only [hq]
    | _ => rfl
  | _ => rfl
theorem slcS_hm {sz sz' : Nat} {k : SK} {es : List (List PV)} {h : Int} (hsz : sz = sz' ∨ es = []) (h0 : 0 ≤ h ∧ h ≤ es.length) : slcS sz' (.p (.sl k sz es)) (some none) (some (some h)) (some (some h)) = some (.p (.sl .full sz' (es.take h.toNat))) := by
  have h1 : ¬ sz = sz' → es = [] := fun h => hsz.resolve_left h
  simpa [slcS, h0] using h1
theorem slcS_all {sz sz' : Nat} {k : SK} {es : List (List PV)} (hsz : sz = sz' ∨ es = []) : slcS sz' (.p (.sl k sz es)) (some none) (some (some (es.length : Int))) (some (some (es.length : Int))) = some (.p (.sl .full sz' es)) := by
  rw [slcS_hm hsz ⟨by omega, by omega⟩]; simp
theorem slcS_lo {sz sz' : Nat} {k : SK} {es : List (List PV)} {l : Int} (hsz : sz = sz' ∨ es = []) (h0 : 0 ≤ l ∧ l ≤ es.length) : slcS sz' (.p (.sl k sz es)) (some (some l)) (some none) (some none) = some (.p (.sl (if l = 0 then k else .sh) sz' (es.drop l.toNat))) := by
  have h1 : ¬ sz = sz' → es = [] := fun h => hsz.resolve_left h
  simpa [slcS, h0] using h1
theorem slcS_hi {sz sz' : Nat} {k : SK} {es : List (List PV)} {h : Int} (hsz : sz = sz' ∨ es = []) (h0 : 0 ≤ h ∧ h ≤ es.length) : slcS sz' (.p (.sl k sz es)) (some none) (some (some h)) (some none) = some (.p (.sl (if h = es.length then k else .sh) sz' (es.take h.toNat))) := by
  have h1 : ¬ sz = sz' → es = [] := fun h => hsz.resolve_left h
  simpa [slcS, h0] using h1
end
end Go.Proofs.YtlbolnlcncjijaaGreat
