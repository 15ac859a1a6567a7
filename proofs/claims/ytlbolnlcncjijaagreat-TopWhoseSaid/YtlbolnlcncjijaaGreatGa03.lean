/- Abstract states, and what abstract code does. What abstract values stand for; operations that only compute or read. Operations that only compute or read: what they run to. -/
import Derived.Test.YtlbolnlcncjijaaGreatGa02
import Derived.Laws.Cells
import Derived.Laws.CopyRow
import Derived.Shelf.Abstract
import Derived.ChangeKeysEq
namespace Go.Proofs.YtlbolnlcncjijaaGreat
open Go.RowKit

inductive AV where
  | p (x : PV)
  | loc (id off : Nat)
  | agg (cs : List AV)
  | clo (f : FuncId) (fi cap : List AV)
  | sli (id n sz : Nat)
  | mpl (id : Nat)
  | tup (vs : List AV)

inductive ABlk where
  | cells (cs : List AV)
  | frz (cs : List PV)
  | dead
  | mp (es : List (PV × PV))
  | half (cs : List AV)
  | mpz (es : List (PV × PV))
  | mfz (es : List (PV × PV))
  | prz (n m : Nat) (cs : List AV)
  | prt (n : Nat) (cs : List AV)

structure AS where
  t : List (Nat × AV)
  loc : List ABlk
  live : List Nat
  ys : Option (List (List PV)) := some []
  base : Nat := 0

def look : List (Nat × AV) → Nat → AV
  | [], _ => .p .any
  | (i, v) :: l, j => bif i == j then v else look l j

def AX.ev (s : AS) : AX → AV
  | .t n => look s.t n
  | .c x => .p x

def AS.put (s : AS) (d : Option Nat) (v : AV) : AS :=
  match d with
  | some i => { s with t := (i, v) :: s.t }
  | none => s

def pures : List AV → Option (List PV)
  | [] => some []
  | .p x :: l => (pures l).map (x :: ·)
  | _ :: _ => none
def mkClo (f : FuncId) (fi cap : List AV) : AV :=
  match pures fi, pures cap with
  | some a, some b => .p (.clo f a b)
  | _, _ => .clo f fi cap
def mkAgg (cs : List AV) : AV :=
  match pures cs with
  | some l => .p (.agg l)
  | none => .agg cs

def partP (cs : List PV) (off : Nat) : Option Nat → Option PV
  | none => cs[off]?
  | some n => if off + n ≤ cs.length then some (.agg ((cs.drop off).take n)) else none
def partA (cs : List AV) (off : Nat) : Option Nat → Option AV
  | none => cs[off]?
  | some n => if off + n ≤ cs.length then some (mkAgg ((cs.drop off).take n)) else none

def cellsA (n : Nat) : AV → Option (List AV)
  | .p (.agg cs) => if cs.length = n then some (cs.map .p) else none
  | .p .any => none
  | .p .und => none
  | .p (.tup _) => none
  | .agg cs => if cs.length = n then some cs else none
  | .tup _ => none
  | x => if n = 1 then some [x] else none

def putCells (cs : List AV) (off : Nat) (news : List AV) : List AV := cs.take off ++ news ++ cs.drop (off + news.length)

def fillA (s : AS) : List (Nat × Nat × AX) → List AV → Option (List AV)
  | [], cs => some cs
  | (o, n, x) :: l, cs => match cellsA n (x.ev s) with
    | some v => if o + n ≤ cs.length then fillA s l (putCells cs o v) else none
    | none => none

def binV (op : BinOp) : Bool → Value → Value → Option Value
  | false, .int k a, .int k' b => match op with
    | .shl => if b < 0 then none else some (.int k (k.wrap (a * 2 ^ (min b.toNat k.bits))))
    | .shr => if b < 0 then none else some (.int k (a.fdiv (2 ^ (min b.toNat k.bits))))
    | _ => if k = k' then match op with
      | .add => some (.int k (k.wrap (a + b)))
      | .sub => some (.int k (k.wrap (a - b)))
      | .mul => some (.int k (k.wrap (a * b)))
      | .quo => if b = 0 then none else some (.int k (k.wrap (a.tdiv b)))
      | .rem => if b = 0 then none else some (.int k (a.tmod b))
      | .and => some (.int k (k.wrap ((BitVec.ofInt k.bits a) &&& (BitVec.ofInt k.bits b)).toNat))
      | .or => some (.int k (k.wrap ((BitVec.ofInt k.bits a) ||| (BitVec.ofInt k.bits b)).toNat))
      | .eql => some (.bool (a == b))
      | .neq => some (.bool (a != b))
      | .lss => some (.bool (decide (a < b)))
      | .leq => some (.bool (decide (a ≤ b)))
      | .gtr => some (.bool (decide (b < a)))
      | .geq => some (.bool (decide (b ≤ a)))
      | _ => none
    else none
  | true, .bool a, .bool b => match op with
    | .eql => some (.bool (a == b))
    | .neq => some (.bool (a != b))
    | _ => none
  | _, _, _ => none

def eqC : CK → Value → Value → Option Bool
  | .i, .int k a, .int k' b => if k = k' then some (a == b) else none
  | .b, .bool a, .bool b => some (a == b)
  | .s, .string a, .string b => some (a == b)
  | _, _, _ => none
def eqCs : List CK → List PV → List PV → Option Bool
  | [], [], [] => some true
  | k :: ks, .val a :: l, .val b :: r => match eqC k a b, eqCs ks l r with
    | some x, some y => some (x && y)
    | _, _ => none
  | _, _, _ => none

def maxI (isMax : Bool) (x y : Int) : Int := if isMax then (if y > x then y else x) else (if y < x then y else x)
def mxV (isMax : Bool) (s : AS) : List AX → IntKind → Int → Option Value
  | [], k, n => some (.int k n)
  | x :: l, k, n => match x.ev s with
    | .p (.val (.int k' m)) => if k = k' then mxV isMax s l k (maxI isMax n m) else none
    | _ => none

def AV.int? : AV → Option Int
  | .p (.val (.int _ n)) => some n
  | _ => none
def optInt (s : AS) : Option AX → Int → Option Int
  | none, d => some d
  | some x, _ => (x.ev s).int?

def keyEq (ks : List CK) : Bool → PV → PV → Option Bool
  | true, .agg a, .agg b => eqCs ks a b
  | false, a, b => eqCs ks [a] [b]
  | _, _, _ => none
def mseek (ks : List CK) (ag : Bool) (k : PV) : List (PV × PV) → Nat → Option (Option (Nat × PV))
  | [], _ => some none
  | e :: l, i => match keyEq ks ag k e.1 with
    | some true => some (some (i, e.2))
    | some false => mseek ks ag k l (i + 1)
    | none => none
def mput (ks : List CK) (ag : Bool) (k v : PV) (l : List (PV × PV)) : Option (List (PV × PV)) :=
  if (keyEq ks ag k k).isSome then match mseek ks ag k l 0 with
    | some (some (i, _)) => some (l.set i (k, v))
    | some none => some (l ++ [(k, v)])
    | none => none
  else none
def lkpV (ks : List CK) (ag : Bool) (z : PV) (ok : Bool) (es : List (PV × PV)) (k : PV) : Option PV :=
  if (keyEq ks ag k k).isSome then match mseek ks ag k es 0 with
    | some r => some (if ok then .tup [(r.map (·.2)).getD z, .val (.bool r.isSome)] else (r.map (·.2)).getD z)
    | none => none
  else none

def evs (s : AS) : List AX → List AV
  | [] => []
  | x :: l => x.ev s :: evs s l

def stillV (s : AS) : AK → Option AV
  | .mv x => some (x.ev s)
  | .pick c a b => match c.ev s with
    | .p (.val (.bool t)) => some (if t then a.ev s else b.ev s)
    | _ => none
  | .build z ps => (fillA s ps (z.map .p)).map mkAgg
  | .ld n x => match x.ev s with
    | .p (.ptr cs off) => (partP cs off n).map .p
    | .loc id off => match s.loc[id]? with
      | some (.cells cs) => partA cs off n
      | some (.frz cs) => (partP cs off n).map .p
      | some (.half cs) => partA cs off n
      | some (.prt _ cs) => partA cs off n
      | _ => none
    | _ => none
  | .fld off n x => match x.ev s with
    | .p (.agg cs) => (partP cs off n).map .p
    | .agg cs => partA cs off n
    | _ => none
  | .fadr off x => match x.ev s with
    | .p (.ptr cs o) => some (.p (.ptr cs (o + off)))
    | .loc id o => some (.loc id (o + off))
    | _ => none
  | .iadrS sz x i => match x.ev s, i.ev s with
    | .p (.sl _ sz' es), .p (.val (.int _ i)) => if 0 ≤ i ∧ sz' = sz then match es[i.toNat]? with
      | some e => some (.p (.ptr e 0))
      | none => none
      else none
    | .sli id m sz', .p (.val (.int _ i)) => if 0 ≤ i ∧ i < m ∧ sz' = sz then some (.loc id (i.toNat * sz)) else none
    | _, _ => none
  | .iadrA sz len x i => match x.ev s, i.ev s with
    | .p (.ptr cs o), .p (.val (.int _ i)) => if 0 ≤ i ∧ i < len then some (.p (.ptr cs (o + i.toNat * sz))) else none
    | .loc id o, .p (.val (.int _ i)) => if 0 ≤ i ∧ i < len then some (.loc id (o + i.toNat * sz)) else none
    | _, _ => none
  | .idx sz len n x i => match x.ev s, i.ev s with
    | .p (.agg cs), .p (.val (.int _ i)) => if 0 ≤ i ∧ i < len then (partP cs (i.toNat * sz) n).map .p else none
    | .agg cs, .p (.val (.int _ i)) => if 0 ≤ i ∧ i < len then partA cs (i.toNat * sz) n else none
    | _, _ => none
  | .bin c op x y => match x.ev s, y.ev s with
    | .p (.val a), .p (.val b) => (binV op c a b).map fun v => .p (.val v)
    | _, _ => none
  | .eqs n ne x y => match x.ev s, y.ev s with
    | .p (.agg a), .p (.agg b) => (eqCs n a b).map fun t => .p (.val (.bool (if ne then !t else t)))
    | _, _ => none
  | .un op x => match op, x.ev s with
    | .neg, .p (.val (.int k n)) => some (.p (.val (.int k (k.wrap (0 - n)))))
    | .not, .p (.val (.bool b)) => some (.p (.val (.bool !b)))
    | _, _ => none
  | .conv k x => match x.ev s with
    | .p (.val (.int _ n)) => some (.p (.val (.int k (k.wrap n))))
    | _ => none
  | .ext x i => match x.ev s with
    | .p (.tup vs) => (vs[i]?).map .p
    | .tup vs => vs[i]?
    | _ => none
  | .len x => match x.ev s with
    | .p (.sl _ _ es) => some (.p (.val (.int .i64 es.length)))
    | .sli _ n _ => some (.p (.val (.int .i64 n)))
    | _ => none
  | .mx m xs => match xs with
    | [] => none
    | x :: l => match x.ev s with
      | .p (.val (.int k n)) => (mxV m s l k n).map fun v => .p (.val v)
      | _ => none
  | .slc sz' x lo hi mx => match x.ev s with
    | .p (.sl k sz es) => if sz ≠ sz' ∧ es.isEmpty = false then none else match optInt s lo 0, optInt s hi es.length with
      | some l, some h => if 0 ≤ l ∧ l ≤ h ∧ h ≤ es.length then match mx with
          | none => some (.p (.sl (if l = 0 ∧ h = es.length then k else .sh) sz' ((es.take h.toNat).drop l.toNat)))
          | some m => match (m.ev s).int? with
            | some m => if m = h then some (.p (.sl .full sz' ((es.take h.toNat).drop l.toNat))) else none
            | none => none
        else none
      | _, _ => none
    | _ => none
  | .mkf f fi cap => some (mkClo f (evs s fi) (evs s cap))
  | .nilc x => match x.ev s with
    | .p (.ptr cs o) => some (.p (.ptr cs o))
    | .loc id o => some (.loc id o)
    | .p (.val (.func (.func f) a b)) => some (.p (.val (.func (.func f) a b)))
    | _ => none
  | .lkp ks ag z ok x i => match x.ev s, i.ev s with
    | .mpl id, .p k => match s.loc[id]? with
      | some (.mp es) => (lkpV ks ag z ok es k).map .p
      | some (.mfz es) => (lkpV ks ag z ok es k).map .p
      | _ => none
    | .p (.mpf es), .p k => (lkpV ks ag z ok es k).map .p
    | _, _ => none
  | _ => none

def rows (sz : Nat) : Nat → List PV → List (List PV)
  | 0, _ => []
  | n + 1, cs => cs.take sz :: rows sz n (cs.drop sz)
def repl {α : Type} : Nat → List α → List α
  | 0, _ => []
  | n + 1, z => z ++ repl n z

inductive AEx where
  | normal
  | exit (id : Nat)
  | ret

def PVle (x y : PV) : Prop := ∀ (g : GP) (v : Value), RelP g x v → RelP g y v
def PVleL : List PV → List PV → Prop
  | [], [] => True
  | x :: l, y :: r => PVle x y ∧ PVleL l r
  | _, _ => False
def AV.isMap : AV → Bool
  | .mpl _ => true
  | _ => false
 mutual
def pur : Nat → List ABlk → AV → Option (PV × List ABlk)
  | 0, _, _ => none
  | _ + 1, L, .p x => some (x, L)
  | f + 1, L, .agg cs => match purL f L cs with
    | some (l, L') => some (.agg l, L')
    | none => none
  | f + 1, L, .loc id off => match L[id]? with
    | some (.cells cs) => match purL f L cs with
      | some (l, L') => match L'[id]? with
        | some (.cells _) => some (.ptr l off, L'.set id (if cs.any AV.isMap then .half cs else .frz l))
        | _ => none
      | none => none
    | some (.frz cs) => some (.ptr cs off, L)
    | some (.half cs) => match purL f L cs with
      | some (l, L') => some (.ptr l off, L')
      | none => none
    | some (.prz n m cs) => match pures (cs.take m) with
      | some l => if n ≤ m then some (.ptr l off, L.set id (.prt m cs)) else none
      | none => none
    | some (.prt n cs) => match pures (cs.take n) with
      | some l => some (.ptr l off, L)
      | none => none
    | _ => none
  | f + 1, L, .sli id n sz => match L[id]? with
    | some (.cells cs) => match purL f L cs with
      | some (l, L') => match L'[id]? with
        | some (.cells _) => if n * sz ≤ l.length then some (.sl .sh sz (rows sz n l), L'.set id (.frz l)) else none
        | _ => none
      | none => none
    | some (.frz cs) => if n * sz ≤ cs.length then some (.sl .sh sz (rows sz n cs), L) else none
    | _ => none
  | _ + 1, L, .mpl id => match L[id]? with
    | some (.mpz es) => some (.mpf es, L.set id (.mfz es))
    | some (.mfz es) => some (.mpf es, L)
    | _ => some (.any, L)
  | _ + 1, _, .tup _ => none
  | f + 1, L, .clo g fi cap => match purL f L fi with
    | some (l, L') => match purL f L' cap with
      | some (r, L'') => some (.clo g l r, L'')
      | none => none
    | none => none
def purL : Nat → List ABlk → List AV → Option (List PV × List ABlk)
  | 0, _, _ => none
  | _ + 1, L, [] => some ([], L)
  | f + 1, L, x :: l => match pur f L x with
    | some (y, L') => match purL f L' l with
      | some (r, L'') => some (y :: r, L'')
      | none => none
    | none => none
end

def purArgs (s : AS) (args : List AV) : Option (List PV × List ABlk) := purV args s.loc
 where purV : List AV → List ABlk → Option (List PV × List ABlk)
  | [], L => some ([], L)
  | x :: l, L => match pur 100 L x with
    | some (y, L') => match purV l L' with
      | some (r, L'') => some (y :: r, L'')
      | none => none
    | none => none

structure Con where
  call : FuncId → List AV → List Nat → (AV → AS → Prop) → AS → Prop
  it : FuncId → List PV → List (List PV) → Prop
instance : CoeFun Con (fun _ => FuncId → List AV → List Nat → (AV → AS → Prop) → AS → Prop) := ⟨Con.call⟩

def rdOf (s : AS) : AK → List Nat
  | .ld _ x => match x.ev s with
    | .loc id _ => match s.loc[id]? with
      | some (.cells _) => [id]
      | some (.prt _ _) => [id]
      | _ => []
    | _ => []
  | .lkp _ _ _ _ x _ => match x.ev s with
    | .mpl id => [id]
    | _ => []
  | _ => []
def mkOwn (s : AS) (cs : List AV) : AS := { s with loc := s.loc ++ [.cells cs] }

def canApp (live : List Nat) (e : TypeId) (sz : Nat) : SK → Prop
  | .sh => False
  | .full => True
  | .own t e' sz' => t ∈ live ∧ e' = e ∧ sz' = sz
def liveApp (live : List Nat) : SK → List Nat
  | .own t' _ _ => live.erase t'
  | _ => live

def effQ (C : Con) (lst : Bool) (rd : List Nat) (s : AS) (K : AV → AS → Prop) : AK → Prop
  | .box n x => match cellsA n (x.ev s) with
    | some cs => K (.loc s.loc.length 0) (mkOwn s cs)
    | none => False
  | .new z => match z with
    | .agg cs => K (.loc s.loc.length 0) (mkOwn s (cs.map .p))
    | .any => False
    | .und => False
    | .tup [.any] => K (.loc s.loc.length 0) (mkOwn s [.p .any])
    | .tup _ => False
    | x => K (.loc s.loc.length 0) (mkOwn s [.p x])
  | .bslice m _ sz n z ps => match fillA s ps ((repl n z).map .p) with
    | some cs => match m with
      | true => K (.sli s.loc.length n sz) (mkOwn s cs)
      | false => match pures cs with
        | some l => K (.p (.sl .full sz (rows sz n l))) s
        | none => False
    | none => False
  | .st n a x => match a.ev s, cellsA n (x.ev s) with
    | .loc id off, some v => match s.loc[id]? with
      | some (.cells cs) => (lst = true ∨ id ∉ rd) ∧ off + n ≤ cs.length ∧ K (.p .und) { s with loc := s.loc.set id (.cells (putCells cs off v)) }
      | some (.prt m cs) => (lst = true ∨ id ∉ rd) ∧ m ≤ off ∧ off + n ≤ cs.length ∧ K (.p .und) { s with loc := s.loc.set id (.prt m (putCells cs off v)) }
      | _ => False
    | _, _ => False
  | .app m e sz _ _ x y => match x.ev s, y.ev s with
    | .p (.sl k sz1 es), .p (.sl _ sz2 news) => (sz1 = sz ∨ es = []) ∧ (sz2 = sz ∨ news = []) ∧ es.length + news.length ≤ 1000000 ∧
        match m with
        | false => canApp s.live e sz k ∧ ∀ t, t ∉ s.live → K (.p (.sl (.own t e sz) sz (es ++ news))) { s with live := t :: liveApp s.live k }
        | true => k = .full ∧ (news = [] → K (.p (.sl .full sz es)) s) ∧ (news ≠ [] → K (.sli s.loc.length (es ++ news).length sz) (mkOwn s ((es ++ news).flatten.map .p)))
    | _, _ => False
  | .mks m e sz _ z l c => match (l.ev s).int?, (c.ev s).int? with
    | some l, some c => 0 ≤ l ∧ l ≤ c ∧ c ≤ 1000000 ∧ match m with
      | false => ∀ t, t ∉ s.live → K (.p (.sl (.own t e sz) sz (List.replicate l.toNat z))) { s with live := t :: s.live }
      | true => K (.sli s.loc.length l.toNat sz) (mkOwn s ((repl l.toNat z).map .p))
    | _, _ => False
  | .call f args => C f (evs s args) (if lst then [] else rd) K s
  | .callv f args => match f.ev s with
    | .p (.val (.func (.func f) _ _)) => C f (evs s args) (if lst then [] else rd) K s
    | .p .yld => match s.ys with
      | some (y :: l) => match purArgs s (evs s args) with
        | some (xs, L') => PVleL xs y ∧ K (.p (.val (.bool true))) { s with loc := L', ys := some l } ∧ K (.p (.val (.bool false))) { s with loc := L', ys := none }
        | none => False
      | _ => False
    | .p (.clo f fi cap) => C f (fi.map .p ++ evs s args ++ cap.map .p) (if lst then [] else rd) K s
    | .clo f fi cap => C f (fi ++ evs s args ++ cap) (if lst then [] else rd) K s
    | _ => False
  | .mkm => K (.mpl s.loc.length) { s with loc := s.loc ++ [.mp []] }
  | .mup ks ag x i v => match x.ev s, i.ev s, v.ev s with
    | .mpl id, .p k, .p v => match s.loc[id]? with
      | some (.mp es) => match mput ks ag k v es with
        | some es' => (lst = true ∨ id ∉ rd) ∧ K (.p .und) { s with loc := s.loc.set id (.mp es') }
        | none => False
      | _ => False
    | _, _, _ => False
  | .slcA sz len x lo hi => match optInt s lo 0, optInt s hi len, pur 100 s.loc (x.ev s) with
    | some l, some h, some (.ptr cs off, L') => 0 ≤ l ∧ l ≤ h ∧ h ≤ len ∧ off + len * sz ≤ cs.length ∧
        K (.p (.sl (if h = len then .full else .sh) sz (rows sz (h - l).toNat (cs.drop (off + l.toNat * sz))))) { s with loc := L' }
    | _, _, _ => False
  | .nilS ne x => match x.ev s with
    | .p (.sl _ _ es) => K (.p (.val (.bool ne))) s ∧ (es = [] → K (.p (.val (.bool (!ne)))) s)
    | _ => False
  | _ => False

def AS.know (s : AS) : AX → Bool → AS
  | .t j, b => { s with t := (j, .p (.val (.bool b))) :: s.t }
  | .c _, _ => s
def stepQ (C : Con) (rd : List Nat) (o : AOp) (s : AS) (K : List Nat → AS → Prop) : Prop :=
  match o.k.still with
  | true => match stillV s o.k with
    | some v => K (if o.tk then rdOf s o.k ++ rd else rd) (s.put o.dst v)
    | none => False
  | false => effQ C o.lst (bif o.lst then [] else rd) s (fun v s' => K (bif o.lst then [] else rd) (s'.put o.dst v)) o.k
def execOps (C : Con) : List Nat → List AOp → (AEx → AS → Prop) → AS → Prop
  | _, [], Q, s => Q .normal s
  | rd, o :: l, Q, s => match o.guard with
    | none => stepQ C rd o s (fun rd s => execOps C rd l Q s)
    | some (j, b) => match look s.t j with
      | .p (.val (.bool t)) => (t = b → stepQ C rd o (s.know (.t j) b) (fun rd s => execOps C rd l Q s)) ∧ (t = !b → execOps C rd l Q ((s.know (.t j) (!b)).put o.dst (.p .und)))
      | .p .und => execOps C rd l Q (s.put o.dst (.p .und))
      | _ => False

def gstep (C : Con) (rd : List Nat) (o : AOp) (s : AS) (K : List Nat → AS → Prop) : Prop :=
  match o.guard with
  | none => stepQ C rd o s K
  | some (j, b) => match look s.t j with
    | .p (.val (.bool t)) => (t = b → stepQ C rd o (s.know (.t j) b) K) ∧ (t = !b → K rd ((s.know (.t j) (!b)).put o.dst (.p .und)))
    | .p .und => K rd (s.put o.dst (.p .und))
    | _ => False
def execT (C : Con) : AT → List Nat → (AEx → AS → Prop) → AS → Prop
  | .fin, _, Q, s => Q .normal s
  | .op o r, rd, Q, s => gstep C rd o s (fun rd s => execT C r rd Q s)
  | .fk o1 o2 r1 r2, rd, Q, s => gstep C rd o1 s (fun rd s => execT C r1 rd Q s) ∧ gstep C rd o2 s (fun rd s => execT C r2 rd Q s)
  | .alt o r r2, rd, Q, s => gstep C rd o s (fun rd s => execT C r rd Q s) ∧ execT C r2 rd Q s

def AV.lo (n : Nat) : AV → Bool
  | .p _ => true
  | .loc id _ => decide (id < n)
  | .agg cs => loL n cs
  | .clo _ fi cap => loL n fi && loL n cap
  | .sli id _ _ => decide (id < n)
  | .mpl id => decide (id < n)
  | .tup vs => loL n vs
 where loL (n : Nat) : List AV → Bool
  | [] => true
  | x :: l => x.lo n && loL n l

def wkT (t : List (Nat × AV)) (n : Nat) : List (Nat × AV) → Prop
  | [] => True
  | (i, v) :: l => (look t i = v ∧ v.lo n = true) ∧ wkT t n l
def ABlk.toZ : ABlk → ABlk → Prop
  | .mp es, .mpz es' => es' = es
  | .cells cs, .prz n _ cs' => n = 0 ∧ cs' = cs ∧ (pures cs).isSome = true
  | .prt n cs, .prz n' _ cs' => n' = n ∧ cs' = cs ∧ (pures cs).isSome = true
  | _, _ => False
def wkL (n : Nat) : List ABlk → List ABlk → Prop
  | _, [] => True
  | [], _ :: _ => False
  | b :: l, c :: r => (c = .dead ∨ b.toZ c ∨ (c = b ∧ match c with | .cells cs => AV.lo.loL n cs = true | .half cs => AV.lo.loL n cs = true | .prz _ _ cs => AV.lo.loL n cs = true | .prt _ cs => AV.lo.loL n cs = true | _ => True)) ∧ wkL n l r
def Wk (s s' : AS) : Prop := wkT s.t s'.loc.length s'.t ∧ wkL s'.loc.length s.loc s'.loc ∧ (∀ t, t ∈ s'.live → t ∈ s.live) ∧ s'.live.Nodup ∧ s'.ys = s.ys ∧ s'.base = s.base ∧ s.base ≤ s'.loc.length

def thenQ (K : AS → Prop) (Q : AEx → AS → Prop) : AEx → AS → Prop
  | .normal, s => K s
  | e, s => Q e s
def blockQ (id : Nat) (Q : AEx → AS → Prop) : AEx → AS → Prop
  | .exit id', s => if id' = id then Q .normal s else Q (.exit id') s
  | e, s => Q e s
def roundQ {ι : Type} (st : ι → AS) (μ : ι → Nat) (i : ι) (Q : AEx → AS → Prop) : AEx → AS → Prop
  | .normal, s => ∃ j, μ j < μ i ∧ Wk s (st j)
  | e, s => Q e s
def condQ (v : AV) (A B : Prop) : Prop :=
  match v with
  | .p (.val (.bool t)) => (t = true → A) ∧ (t = false → B)
  | _ => False

def noY : PV → Bool
  | .yld => false
  | .agg cs => noYL cs
  | .tup cs => noYL cs
  | .sl _ _ es => noYR es
  | .ptr cs _ => noYL cs
  | .clo _ fi cap => noYL fi && noYL cap
  | .mpf es => noYM es
  | _ => true
 where
  noYM : List (PV × PV) → Bool
  | [] => true
  | (x, y) :: l => noY x && noY y && noYM l
  noYL : List PV → Bool
  | [] => true
  | x :: l => noY x && noYL l
  noYR : List (List PV) → Bool
  | [] => true
  | x :: l => noYL x && noYR l
def setPs : List Nat → List PV → List (Nat × AV) → List (Nat × AV)
  | p :: ps, x :: xs, T => setPs ps xs ((p, .p x) :: T)
  | _, _, T => T
def cloOf : PV → Option (FuncId × List PV × List PV)
  | .clo g fi cap => some (g, fi, cap)
  | .val (.func (.func g) _ _) => some (g, [], [])
  | _ => none
def asQ (K : AS → Prop) : AEx → AS → Prop
  | .normal, s => K s
  | _, _ => False
def rndQ (T : List (Nat × AV)) (B : Nat) (nxt : AS → Prop) (Q : AEx → AS → Prop) : AEx → AS → Prop
  | .normal, s => ∃ n, nxt n ∧ Wk { s with t := T, base := B } n
  | e, s => Q e { s with t := T, base := B }

def exec (C : Con) : AC → (AEx → AS → Prop) → AS → Prop
  | .skip, Q, s => Q .normal s
  | .ops l, Q, s => execOps C [] l Q s
  | .seq a b, Q, s => exec C a (thenQ (exec C b Q) Q) s
  | .cond c a b, Q, s => condQ (c.ev s) (exec C a Q (s.know c true)) (exec C b Q (s.know c false))
  | .block id a, Q, s => exec C a (blockQ id Q) s
  | .loop a, Q, s => ∃ (ι : Type) (st : ι → AS) (μ : ι → Nat) (i : ι), Wk s (st i) ∧ ∀ i, exec C a (roundQ st μ i Q) (st i)
  | .exit id, Q, s => Q (.exit id) s
  | .ret, Q, s => Q .ret s
  | .tree t, Q, s => execT C t [] Q s
  | .stop, _, _ => False
  | .rng f ps a b, Q, s => ∃ (x : PV) (L' : List ABlk) (g : FuncId) (fi cap : List PV) (xs : List (List PV)) (I : Nat → AS → Prop) (s0 : AS), pur 100 s.loc (f.ev s) = some (x, L') ∧ cloOf x = some (g, fi, cap) ∧ C.it g (fi ++ .yld :: cap) xs ∧ (noY.noYL fi && noY.noYL cap && noY.noYR xs) = true ∧ (∀ y ∈ xs, y.length = ps.length) ∧ Wk { s with loc := L' } s0 ∧ I 0 s0 ∧ (∀ i n, I i n → n.t = s0.t ∧ n.base = s.base) ∧
      (∀ i y n, xs[i]? = some y → I i n → exec C a (asQ (exec C b (rndQ s0.t s.base (I (i + 1)) Q))) { n with t := setPs ps y n.t, base := n.loc.length }) ∧ (∀ n, I xs.length n → Q .normal n)
end Go.Proofs.YtlbolnlcncjijaaGreat
namespace Go.Proofs.YtlbolnlcncjijaaGreat
open Go.RowKit

inductive Rel (g : GP) (rho : List Nat) : AV → Value → Prop
  | p {x : PV} {v : Value} (h : RelP g x v) : Rel g rho (.p x) v
  | loc {id off b : Nat} (h : rho[id]? = some b) : Rel g rho (.loc id off) (.pointer (some ⟨b, off, none⟩))
  | agg (cs : List AV) (vs : Array Value) (hl : cs.length = vs.size) (h1 : ∀ v ∈ vs, v.oneCell' = true)
      (h : ∀ (i : Nat) (x : AV) (v : Value), cs[i]? = some x → vs[i]? = some v → Rel g rho x v) : Rel g rho (.agg cs) (.agg vs)
  | clo (f : FuncId) (fi cap : List AV) (vf vs : Array Value) (hl : fi.length = vf.size) (hl2 : cap.length = vs.size)
      (h : ∀ (i : Nat) (x : AV) (v : Value), fi[i]? = some x → vf[i]? = some v → Rel g rho x v)
      (h2 : ∀ (i : Nat) (x : AV) (v : Value), cap[i]? = some x → vs[i]? = some v → Rel g rho x v) : Rel g rho (.clo f fi cap) (.func (.func f) vf vs)
  | sli {id n sz b c : Nat} (h : rho[id]? = some b) (hn : n ≤ c) (hc : c ≤ maxLen) (hm : n ≤ 140737488355328) : Rel g rho (.sli id n sz) (.slice (some ⟨b, 0, none⟩) n c)
  | mpl {id b : Nat} (h : rho[id]? = some b) : Rel g rho (.mpl id) (.map (some b))
  | tup (cs : List AV) (vs : Array Value) (hl : cs.length = vs.size)
      (h : ∀ (i : Nat) (x : AV) (v : Value), cs[i]? = some x → vs[i]? = some v → Rel g rho x v) : Rel g rho (.tup cs) (.tuple vs)

structure RelL (g : GP) (rho : List Nat) (cs : List AV) (vs : List Value) : Prop where
  len : cs.length = vs.length
  one : ∀ v ∈ vs, v.oneCell' = true
  at_ : ∀ (i : Nat) (x : AV) (v : Value), cs[i]? = some x → vs[i]? = some v → Rel g rho x v
structure RelLP (g : GP) (cs : List PV) (vs : List Value) : Prop where
  len : cs.length = vs.length
  one : ∀ v ∈ vs, v.oneCell' = true
  at_ : ∀ (i : Nat) (x : PV) (v : Value), cs[i]? = some x → vs[i]? = some v → RelP g x v

section
variable {g : GP} {rho : List Nat}
theorem rel_val {u v : Value} (h : Rel g rho (.p (.val u)) v) : v = u ∧ scalar u = true := by
  cases h with
  | p h => cases h with
    | val _ h => exact ⟨rfl, h⟩
theorem rel_agg {cs : List AV} {v : Value} (h : Rel g rho (.agg cs) v) : ∃ vs : List Value, v = .agg vs.toArray ∧ RelL g rho cs vs := by
  cases h with
  | agg _ vs hl h1 h => exact ⟨vs.toList, by simp, by simpa using hl, by simpa using h1, by simpa using h⟩
theorem rel_aggP {cs : List PV} {v : Value} (h : Rel g rho (.p (.agg cs)) v) : ∃ vs : List Value, v = .agg vs.toArray ∧ RelLP g cs vs := by
  cases h with
  | p h => cases h with
    | agg _ vs hl h1 h => exact ⟨vs.toList, by simp, by simpa using hl, by simpa using h1, by simpa using h⟩
theorem RelLP.toRelL {cs : List PV} {vs : List Value} (h : RelLP g cs vs) : RelL g rho (cs.map .p) vs :=
  ⟨by rw [List.length_map]; exact h.len, h.one, fun i x v hx hv => by
    rw [List.getElem?_map] at hx
    cases hc : cs[i]? with
    | none => simp [hc] at hx
    | some y => simp only [hc, Option.map_some, Option.some.injEq] at hx; subst hx; exact .p (h.at_ i y v hc hv)⟩
theorem RelLP.agg {cs : List PV} {vs : List Value} (h : RelLP g cs vs) : RelP g (.agg cs) (.agg vs.toArray) :=
  .agg _ _ (by simpa using h.len) (by simpa using h.one) (by simpa using h.at_)
theorem RelL.agg {cs : List AV} {vs : List Value} (h : RelL g rho cs vs) : Rel g rho (.agg cs) (.agg vs.toArray) :=
  .agg _ _ (by simpa using h.len) (by simpa using h.one) (by simpa using h.at_)
theorem pures_map : ∀ {cs : List AV} {l : List PV}, pures cs = some l → cs = l.map .p
  | [], l, h => by simp only [pures, Option.some.injEq] at h; subst h; rfl
  | .p x :: cs, l, h => by
    simp only [pures, Option.map_eq_some_iff] at h
    obtain ⟨m, hm, rfl⟩ := h
    rw [pures_map hm]; rfl
  | .loc _ _ :: _, _, h => by cases h
  | .agg _ :: _, _, h => by cases h
  | .clo _ _ _ :: _, _, h => by cases h
  | .sli _ _ _ :: _, _, h => by cases h
  | .mpl _ :: _, _, h => by cases h
  | .tup _ :: _, _, h => by cases h
theorem RelL.pure {l : List PV} {vs : List Value} (h : RelL g rho (l.map .p) vs) : RelLP g l vs :=
  ⟨by have := h.len; rwa [List.length_map] at this, h.one, fun i x v hx hv => by
    have := h.at_ i (.p x) v (by rw [List.getElem?_map, hx]; rfl) hv
    cases this with
    | p h => exact h⟩
theorem RelL.mkAgg {cs : List AV} {vs : List Value} (h : RelL g rho cs vs) : Rel g rho (mkAgg cs) (.agg vs.toArray) := by
  unfold Go.Proofs.YtlbolnlcncjijaaGreat.mkAgg
  split
  · rename_i l hl
    rw [pures_map hl] at h
    exact .p h.pure.agg
  · exact h.agg
theorem RelL.sub {cs : List AV} {vs : List Value} (h : RelL g rho cs vs) (a n : Nat) : RelL g rho ((cs.drop a).take n) ((vs.drop a).take n) :=
  ⟨by simp [h.len], fun v hv => h.one v (List.mem_of_mem_drop (List.mem_of_mem_take hv)), fun i x v hx hv => by
    by_cases hi : i < n
    · rw [List.getElem?_take_of_lt hi, List.getElem?_drop] at hx hv
      exact h.at_ _ _ _ hx hv
    · rw [List.getElem?_take_eq_none (by omega)] at hx; cases hx⟩
theorem RelLP.sub {cs : List PV} {vs : List Value} (h : RelLP g cs vs) (a n : Nat) : RelLP g ((cs.drop a).take n) ((vs.drop a).take n) :=
  ⟨by simp [h.len], fun v hv => h.one v (List.mem_of_mem_drop (List.mem_of_mem_take hv)), fun i x v hx hv => by
    by_cases hi : i < n
    · rw [List.getElem?_take_of_lt hi, List.getElem?_drop] at hx hv
      exact h.at_ _ _ _ hx hv
    · rw [List.getElem?_take_eq_none (by omega)] at hx; cases hx⟩
theorem RelL.append {cs ds : List AV} {vs us : List Value} (h : RelL g rho cs vs) (k : RelL g rho ds us) : RelL g rho (cs ++ ds) (vs ++ us) :=
  ⟨by simp [h.len, k.len], fun v hv => by rcases List.mem_append.1 hv with hv | hv; exact h.one v hv; exact k.one v hv, fun i x v hx hv => by
    by_cases hi : i < cs.length
    · rw [List.getElem?_append_left hi] at hx
      rw [List.getElem?_append_left (by rw [← h.len]; exact hi)] at hv
      exact h.at_ _ _ _ hx hv
    · rw [List.getElem?_append_right (by omega)] at hx
      rw [List.getElem?_append_right (by rw [← h.len]; omega), ← h.len] at hv
      exact k.at_ _ _ _ hx hv⟩
theorem RelL.take {cs : List AV} {vs : List Value} (h : RelL g rho cs vs) (n : Nat) : RelL g rho (cs.take n) (vs.take n) := by
  have := h.sub 0 n
  simpa using this
theorem RelL.drop {cs : List AV} {vs : List Value} (h : RelL g rho cs vs) (n : Nat) : RelL g rho (cs.drop n) (vs.drop n) := by
  have := h.sub n cs.length
  have e1 : (cs.drop n).take cs.length = cs.drop n := List.take_of_length_le (by simp)
  have e2 : (vs.drop n).take cs.length = vs.drop n := List.take_of_length_le (by simp [h.len])
  rwa [e1, e2] at this
theorem RelL.put {cs ds : List AV} {vs us : List Value} (h : RelL g rho cs vs) (k : RelL g rho ds us) (o : Nat) : RelL g rho (putCells cs o ds) (vs.take o ++ us ++ vs.drop (o + us.length)) := by
  unfold putCells
  rw [← k.len]
  exact ((h.take o).append k).append (h.drop _)
theorem RelL.one' {x : AV} {v : Value} (h : Rel g rho x v) (h1 : v.oneCell' = true) : RelL g rho [x] [v] :=
  ⟨rfl, by simpa using h1, fun i y u hy hu => by
    match i with
    | 0 => simp only [List.getElem?_cons_zero, Option.some.injEq] at hy hu; subst hy; subst hu; exact h
    | i + 1 => simp at hy⟩

theorem cellsA_rel {n : Nat} {x : AV} {v : Value} {cs : List AV} (h : cellsA n x = some cs) (hr : Rel g rho x v) : cs.length = n ∧ ∃ vs : List Value, v.cells = vs.toArray ∧ RelL g rho cs vs := by
  have single : ∀ {x : AV}, (if n = 1 then some [x] else none) = some cs → Rel g rho x v → v.oneCell' = true → v.cells = #[v] → cs.length = n ∧ ∃ vs : List Value, v.cells = vs.toArray ∧ RelL g rho cs vs := by
    intro x h hr h1 hc
    split at h
    · rename_i hn
      simp only [Option.some.injEq] at h
      subst h
      exact ⟨hn.symm, [v], hc, RelL.one' hr h1⟩
    · cases h
  unfold cellsA at h
  split at h
  · rename_i l
    obtain ⟨vs, rfl, hv⟩ := rel_aggP hr
    split at h
    · rename_i hn
      simp only [Option.some.injEq] at h
      subst h
      exact ⟨by simpa using hn, vs, rfl, hv.toRelL⟩
    · cases h
  · cases h
  · cases h
  · cases h
  · rename_i l
    obtain ⟨vs, rfl, hv⟩ := rel_agg hr
    split at h
    · rename_i hn
      simp only [Option.some.injEq] at h
      subst h
      exact ⟨hn, vs, rfl, hv⟩
    · cases h
  · cases h
  · rename_i h1 h2 h3 h4 h5 h6
    cases hr with
    | p hp =>
      cases hp with
      | any => exact absurd rfl h2
      | und => exact absurd rfl h3
      | tup => exact absurd rfl (h4 _)
      | agg => exact absurd rfl (h1 _)
      | val _ hu => exact single h (.p (.val v hu)) (oneCell_scalar hu) (by cases v <;> first | rfl | (simp [scalar] at hu))
      | sl k sz es a m c f hl hn hc hm hk hz hat hh => exact single h (.p (.sl k sz es a m c f hl hn hc hm hk hz hat hh)) rfl rfl
      | ptr cs off b o f hat hh => exact single h (.p (.ptr cs off b o f hat hh)) rfl rfl
      | nilp => exact single h (.p .nilp) rfl rfl
      | clo f fi cap vf vc hl hl2 hh hh2 => exact single h (.p (.clo f fi cap vf vc hl hl2 hh hh2)) rfl rfl
      | yld => exact single h (.p .yld) rfl rfl
      | mpf es b ents hl hat k1 k2 => exact single h (.p (.mpf es b ents hl hat k1 k2)) rfl rfl
    | loc hb => exact single h (.loc hb) rfl rfl
    | agg => exact absurd rfl (h5 _)
    | clo f fi cap vf vs hl hl2 hh hh2 => exact single h (.clo f fi cap vf vs hl hl2 hh hh2) rfl rfl
    | sli hb hn hc hm => exact single h (.sli hb hn hc hm) rfl rfl
    | mpl hb => exact single h (.mpl hb) rfl rfl
    | tup => exact absurd rfl (h6 _)

theorem cx_rel {s : AS} {a : Act} (hT : ∀ j, Rel g rho (look s.t j) (a.tmps.getD j undef)) {x : Operand} {y : AX} (h : cx x = some y) : Rel g rho (y.ev s) (a.eval x) := by
  cases x with
  | tmp t => simp only [cx, Option.some.injEq] at h; subst h; exact hT t
  | const v => simp only [cx, Option.some.injEq] at h; subst h; exact .p (relP_const g v)
  | func f => simp only [cx, Option.some.injEq] at h; subst h; exact .p (.val _ rfl)
  | global _ => cases h
end
end Go.Proofs.YtlbolnlcncjijaaGreat
namespace Go.Proofs.YtlbolnlcncjijaaGreat
open Go.RowKit

def FrzAt (w : World) (b o : Nat) (v : Value) : Prop := (w.cell? ⟨b, o, none⟩ = some v ∧ v.oneCell' = true) ∨ ∃ (ents : Array MapEntry) (clk : Nat), v = markV ents.toList ∧ w.heap[b]? = some (.map ents clk)
theorem FrzAt.keep {w w' : World} {b o : Nat} {v : Value} (h : FrzAt w b o v) (hk : w'.heap[b]? = w.heap[b]?) : FrzAt w' b o v := by
  rcases h with ⟨h1, h2⟩ | ⟨ents, clk, h1, h2⟩
  · exact .inl ⟨(World.cell?_of_block (w := w) (a := ⟨b, o, none⟩) hk).trans h1, h2⟩
  · exact .inr ⟨ents, clk, h1, hk.trans h2⟩
theorem FrzAt.lt {w : World} {b o : Nat} {v : Value} (h : FrzAt w b o v) : b < w.heap.size := by
  rcases h with ⟨h1, -⟩ | ⟨_, _, -, h2⟩
  · exact World.block_lt_of_cell? w ⟨b, o, none⟩ h1
  · exact (Array.getElem?_eq_some_iff.1 h2).1
theorem FrzAt.not_mark {w : World} {b o : Nat} {v : Value} {l : _} (h : FrzAt w b o v) (hb : w.heap[b]? = some (.deferred l)) : False := by
  rcases h with ⟨h1, -⟩ | ⟨_, _, -, h2⟩
  · simp [World.cell?, hb] at h1
  · rw [hb] at h2; cases h2
theorem FrzAt.of_cells {w : World} {b o : Nat} {v : Value} {cur : Array Value} {e : TypeId} {q : Nat × Nat} (h : FrzAt w b o v) (hb : w.heap[b]? = some (.cells cur e q)) : w.cell? ⟨b, o, none⟩ = some v ∧ v.oneCell' = true := by
  rcases h with h | ⟨_, _, -, h2⟩
  · exact h
  · rw [hb] at h2; cases h2
structure Agree (g : GP) (w : World) : Prop where
  frz : ∀ b o v, g.frz b o = some v → FrzAt w b o v
  fin : ∃ N, ∀ t, N ≤ t → g.tok t = none

theorem Agree.cel {g : GP} {w : World} (h : Agree g w) {b o : Nat} {v : Value} (k : g.cel b o v) : w.cell? ⟨b, o, none⟩ = some v ∧ v.oneCell' = true := by
  rcases h.frz _ _ _ k.1 with h | ⟨ents, clk, rfl, -⟩
  · exact h
  · have := k.2; rw [markV_two] at this; cases this
theorem Agree.map {g : GP} {w : World} (h : Agree g w) {b o : Nat} {l : List MapEntry} (k : g.frz b o = some (markV l)) : ∃ clk : Nat, w.heap[b]? = some (.map l.toArray clk) := by
  rcases h.frz _ _ _ k with ⟨-, h⟩ | ⟨ents, clk, e, hb⟩
  · rw [markV_two] at h; cases h
  · have := markV_inj e
    subst this
    exact ⟨clk, by simpa using hb⟩
structure EntsP (g : GP) (es : List (PV × PV)) (ents : List MapEntry) : Prop where
  len : es.length = ents.length
  at_ : ∀ (i : Nat) (x : PV × PV) (e : MapEntry), es[i]? = some x → ents[i]? = some e → RelP g x.1 e.key ∧ RelP g x.2 e.val
def BlkAt (g : GP) (rho : List Nat) (w : World) (b : Nat) : ABlk → Prop
  | .cells cs => ∃ (vs us : List Value) (t : TypeId), w.heap[b]? = some (.cells (vs ++ us).toArray t (0, 0)) ∧ RelL g rho cs vs
  | .frz cs => ∃ f : Nat → Value, ∀ (j : Nat) (x : PV), cs[j]? = some x → g.cel b j (f j) ∧ RelP g x (f j)
  | .dead => True
  | .mp es => ∃ (ents : Array MapEntry) (clk : Nat), w.heap[b]? = some (.map ents clk) ∧ EntsP g es ents.toList
  | .half cs => ∃ (vs us : List Value) (t : TypeId), w.heap[b]? = some (.cells (vs ++ us).toArray t (0, 0)) ∧ RelL g rho cs vs ∧ ∀ (j : Nat) (v : Value), vs[j]? = some v → g.frz b j = some v
  | .mpz es => ∃ (ents : Array MapEntry) (clk : Nat), w.heap[b]? = some (.map ents clk) ∧ EntsP g es ents.toList
  | .mfz es => ∃ l : List MapEntry, g.frz b 0 = some (markV l) ∧ EntsP g es l
  | .prz n _ cs => ∃ (vs us : List Value) (t : TypeId), w.heap[b]? = some (.cells (vs ++ us).toArray t (0, 0)) ∧ RelL g rho cs vs ∧ ∀ (j : Nat) (v : Value), j < n → vs[j]? = some v → g.frz b j = some v
  | .prt n cs => ∃ (vs us : List Value) (t : TypeId), w.heap[b]? = some (.cells (vs ++ us).toArray t (0, 0)) ∧ RelL g rho cs vs ∧ ∀ (j : Nat) (v : Value), j < n → vs[j]? = some v → g.frz b j = some v
def LocAt (g : GP) (rho : List Nat) (w : World) (l : List ABlk) : Prop := ∀ (id : Nat) (k : ABlk) (b : Nat), l[id]? = some k → rho[id]? = some b → BlkAt g rho w b k

section
variable {P : Program} {g : GP} {rho : List Nat} {w : World}

theorem isAgg_shape {t : TypeId} {n : Option Nat} (h : shapeN P t = some n) (w : World) : (Go.isAgg t).run P w = .ok n.isSome w ∧ ∃ i, P.info? t = some i ∧ i.size = n.getD 1 := by
  unfold shapeN at h
  split at h
  · rename_i fs i hu hi
    simp only [Option.some.injEq] at h
    subst h
    exact ⟨by simp [Go.isAgg, Sem.run_bind, run_underlying hu], i, hi, rfl⟩
  · rename_i l e i hu hi
    simp only [Option.some.injEq] at h
    subst h
    exact ⟨by simp [Go.isAgg, Sem.run_bind, run_underlying hu], i, hi, rfl⟩
  · rename_i d i h1 h2 hu hi
    split at h
    · rename_i h0
      simp only [Option.some.injEq] at h
      subst h
      refine ⟨run_isAgg_plain hu ?_ w, i, hi, h0⟩
      cases d <;> first | rfl | exact absurd rfl (h1 _) | exact absurd rfl (h2 _ _)
    · cases h
  · cases h

def readN (n : Option Nat) (f : Nat → Value) : Value :=
  match n with
  | none => f 0
  | some m => .agg ((List.range m).map f).toArray

theorem run_loadN {t : TypeId} {n : Option Nat} (h : shapeN P t = some n) (b o : Nat) (f : Nat → Value) (w : World) (hc : ∀ j, j < n.getD 1 → w.cell? ⟨b, o + j, none⟩ = some (f j)) :
    (Instr.loadAt t (.pointer (some ⟨b, o, none⟩))).run P w = .ok (readN n f) w := by
  obtain ⟨h1, i, hi, hs⟩ := isAgg_shape h w
  cases n with
  | none =>
    have := hc 0 (by simp)
    rw [Nat.add_zero] at this
    simp [Instr.loadAt, Instr.sureAddr, loadVar, Sem.run_bind, h1, this, readN]
  | some m =>
    simp only [Option.getD_some] at hs hc
    have hl := run_loadCells (P := P) w ⟨b, o, none⟩ m f (fun j hj => by rw [add_plain']; exact hc j hj)
    simp [Instr.loadAt, Instr.sureAddr, loadVar, Sem.run_bind, h1, readN, sizeOf, typeInfo, hi, hs, hl]
 where
  add_plain' : ∀ {b o i : Nat}, (⟨b, o, none⟩ : Addr).add i = ⟨b, o + i, none⟩ := by
    intro b o i
    unfold Addr.add
    split
    · rename_i h; rw [h]; rfl
    · rfl
theorem addr_add (b o i : Nat) : (⟨b, o, none⟩ : Addr).add i = ⟨b, o + i, none⟩ := run_loadN.add_plain'

theorem run_partN {t : TypeId} {n : Option Nat} (h : shapeN P t = some n) (vs : List Value) (o : Nat) (w : World) (hl : o + n.getD 1 ≤ vs.length) :
    (Go.part t vs.toArray o).run P w = .ok (readN n fun j => vs.getD (o + j) undef) w := by
  obtain ⟨h1, i, hi, hs⟩ := isAgg_shape h w
  cases n with
  | none =>
    simp only [Option.getD_none] at hl
    have hlt : o < vs.length := by omega
    simp [Go.part, Sem.run_bind, h1, readN, hlt]
  | some m =>
    simp only [Option.getD_some] at hs hl
    simp only [Go.part, Sem.run_bind, h1, readN, sizeOf, typeInfo, hi, Option.isSome_some, if_true, Result.andThen_ok, Sem.run_pure, program, Sem.run, hs]
    congr 2
    apply Array.ext'
    simp only [Array.toList_extract, List.extract_eq_take_drop]
    apply List.ext_getElem?
    intro j
    by_cases hj : j < m
    · rw [List.getElem?_take_of_lt (by omega), List.getElem?_drop, List.getElem?_map, List.getElem?_range hj]
      simp [List.getD_eq_getElem?_getD, List.getElem?_eq_getElem (show o + j < vs.length by omega)]
    · rw [List.getElem?_take_eq_none (by omega), List.getElem?_eq_none (by simp; omega)]

theorem partP_rel {cs : List PV} {f : Nat → Value} (h : ∀ j x, cs[j]? = some x → RelP g x (f j)) (h1 : ∀ j, j < cs.length → (f j).oneCell' = true) {o : Nat} {n : Option Nat} {y : PV} (hy : partP cs o n = some y) :
    o + n.getD 1 ≤ cs.length ∧ RelP g y (readN n fun j => f (o + j)) := by
  cases n with
  | none =>
    simp only [partP] at hy
    have hlt := (List.getElem?_eq_some_iff.1 hy).1
    exact ⟨by simp; omega, h o y hy⟩
  | some m =>
    simp only [partP] at hy
    split at hy
    · rename_i hm
      simp only [Option.some.injEq] at hy
      subst hy
      refine ⟨by simpa using hm, .agg _ _ (by simp; omega) (fun v hv => ?_) (fun i x v hx hv => ?_)⟩
      · simp only [List.mem_toArray, List.mem_map, List.mem_range] at hv
        obtain ⟨j, hj, rfl⟩ := hv
        exact h1 _ (by omega)
      · simp only [List.getElem?_toArray, List.getElem?_map, Option.map_eq_some_iff] at hv
        obtain ⟨j, hj, rfl⟩ := hv
        obtain ⟨hj1, hj2⟩ := List.getElem?_eq_some_iff.1 hj
        rw [List.length_range] at hj1
        rw [List.getElem_range] at hj2
        subst hj2
        rw [List.getElem?_take_of_lt hj1, List.getElem?_drop] at hx
        exact h _ _ hx
    · cases hy
theorem partA_rel {cs : List AV} {f : Nat → Value} (h : ∀ j x, cs[j]? = some x → Rel g rho x (f j)) (h1 : ∀ j, j < cs.length → (f j).oneCell' = true) {o : Nat} {n : Option Nat} {y : AV} (hy : partA cs o n = some y) :
    o + n.getD 1 ≤ cs.length ∧ Rel g rho y (readN n fun j => f (o + j)) := by
  cases n with
  | none =>
    simp only [partA] at hy
    have hlt := (List.getElem?_eq_some_iff.1 hy).1
    exact ⟨by simp; omega, h o y hy⟩
  | some m =>
    simp only [partA] at hy
    split at hy
    · rename_i hm
      simp only [Option.some.injEq] at hy
      subst hy
      refine ⟨by simpa using hm, RelL.mkAgg ⟨by simp; omega, fun v hv => ?_, fun i x v hx hv => ?_⟩⟩
      · simp only [List.mem_map, List.mem_range] at hv
        obtain ⟨j, hj, rfl⟩ := hv
        exact h1 _ (by omega)
      · simp only [List.getElem?_map, Option.map_eq_some_iff] at hv
        obtain ⟨j, hj, rfl⟩ := hv
        obtain ⟨hj1, hj2⟩ := List.getElem?_eq_some_iff.1 hj
        rw [List.length_range] at hj1
        rw [List.getElem_range] at hj2
        subst hj2
        rw [List.getElem?_take_of_lt hj1, List.getElem?_drop] at hx
        exact h _ _ hx
    · cases hy
theorem RelLP.fn {cs : List PV} {vs : List Value} (h : RelLP g cs vs) : (∀ j x, cs[j]? = some x → RelP g x (vs.getD j undef)) ∧ ∀ j, j < cs.length → (vs.getD j undef).oneCell' = true := by
  have key : ∀ j, j < cs.length → vs[j]? = some (vs.getD j undef) := fun j hj => by
    have hj2 : j < vs.length := by rw [← h.len]; exact hj
    simp [List.getD_eq_getElem?_getD, List.getElem?_eq_getElem hj2]
  exact ⟨fun j x hx => h.at_ j x _ hx (key j (List.getElem?_eq_some_iff.1 hx).1), fun j hj => h.one _ (List.mem_of_getElem? (key j hj))⟩
theorem RelL.fn {cs : List AV} {vs : List Value} (h : RelL g rho cs vs) : (∀ j x, cs[j]? = some x → Rel g rho x (vs.getD j undef)) ∧ ∀ j, j < cs.length → (vs.getD j undef).oneCell' = true := by
  have key : ∀ j, j < cs.length → vs[j]? = some (vs.getD j undef) := fun j hj => by
    have hj2 : j < vs.length := by rw [← h.len]; exact hj
    simp [List.getD_eq_getElem?_getD, List.getElem?_eq_getElem hj2]
  exact ⟨fun j x hx => h.at_ j x _ hx (key j (List.getElem?_eq_some_iff.1 hx).1), fun j hj => h.one _ (List.mem_of_getElem? (key j hj))⟩
end
end Go.Proofs.YtlbolnlcncjijaaGreat
