/-
  No cell of these rows narrows 'for every input' (looked for: loops, veiled, ifaces, maps, wideKeys, modest, calm, conditions, laid).
  DERIVED. THE GIVEN ROWS OF THIS SEAT. 8 by the template 'for every input the law returns true; each argument reads behind the call as it read before'; 0 by the template 'total and deterministic' (their statements: YtlcpplkbmlmmbaaGreatTotals.lean).
  GIVEN WITH THE SEED: the statements are not yours to turn. If you find one false, say at which input.
  Laid BY PROGRAM, IN A SANDBOX (cutbox-rows.mjs): the forced cells as the released guide's own fill.sh prints them over the translation b4dae972e3666dc5… (all of the seat's roots in one cut). By AI agents, Wed Nov 11 2026. No macro, syntax, notation, axiom, sorry.
-/
import Derived.Test.YtlcpplkbmlmmbaaGreatChecked
import GoSem.Claim
import GoSem.ClaimJoined
import GoSem.ClaimMapViews
import Derived.JoinedTies
import Derived.KernelRfl
namespace Go.Proofs.YtlcpplkbmlmmbaaGreat
/- THE CELL 'sum', in the pinned program and in every row, IS THE sha256 OF THE DUMP (.gsa) THAT YtlcpplkbmlmmbaaGreatProg.lean LOADS. Nothing in Lean hashes anything: it is a label: what it is worth is what the hold of that sum in a sandbox is worth. -/
noncomputable def Tryz.pinned : Pinned := { name := "ytlcpplkbmlmmbaagreat", sum := "b4dae972e3666dc5368b8e032925d3143e8d413956762289c17a23d18a7ea718", checked := Tryz.checked }
namespace Rows
def none {H : Type} : Left H := { results := [], args := [] }

/-- 'skewbaldlaw08.MendJobs': WHATEVER THE INPUT: true; the input reads as it did. -/
def mendJobsSpec : ChangeSpec := { name := "mendJobs", fn := fun _ => fun
  | [d1, d2] => { results := [.lit (.bool true)], args := [d1, d2] }
  | _ => none }
def mendJobsRow : OpenClaim := { program := "ytlcpplkbmlmmbaagreat", sum := "b4dae972e3666dc5368b8e032925d3143e8d413956762289c17a23d18a7ea718", func := "skewbald/skewbaldlaw08.MendJobs", spec := "mendJobs", unfollowed := true, recurses := true, plainKeys := false, apart := false }
def MendJobsSaid : Prop := mendJobsRow.holds Tryz.pinned (OpenSpec.ofChange mendJobsSpec)

/-- ITS FALSE NEIGHBOUR: 'it returns false'. Refute it at one input. -/
def mendJobsWrong : ChangeSpec := { name := "mendJobs", fn := fun _ => fun
  | [d1, d2] => { results := [.lit (.bool false)], args := [d1, d2] }
  | _ => none }
def MendJobsWrongFalsely : Prop := mendJobsRow.holds Tryz.pinned (OpenSpec.ofChange mendJobsWrong)

/-- 'skewbaldlaw08.MendBills': WHATEVER THE INPUT: true; the input reads as it did. -/
def mendBillsSpec : ChangeSpec := { name := "mendBills", fn := fun _ => fun
  | [d1, d2] => { results := [.lit (.bool true)], args := [d1, d2] }
  | _ => none }
def mendBillsRow : OpenClaim := { program := "ytlcpplkbmlmmbaagreat", sum := "b4dae972e3666dc5368b8e032925d3143e8d413956762289c17a23d18a7ea718", func := "skewbald/skewbaldlaw08.MendBills", spec := "mendBills", unfollowed := true, recurses := true, plainKeys := false, apart := false }
def MendBillsSaid : Prop := mendBillsRow.holds Tryz.pinned (OpenSpec.ofChange mendBillsSpec)

/-- ITS FALSE NEIGHBOUR: 'it returns false'. Refute it at one input. -/
def mendBillsWrong : ChangeSpec := { name := "mendBills", fn := fun _ => fun
  | [d1, d2] => { results := [.lit (.bool false)], args := [d1, d2] }
  | _ => none }
def MendBillsWrongFalsely : Prop := mendBillsRow.holds Tryz.pinned (OpenSpec.ofChange mendBillsWrong)

/-- 'skewbaldlaw08.MendPays': WHATEVER THE INPUT: true; the input reads as it did. -/
def mendPaysSpec : ChangeSpec := { name := "mendPays", fn := fun _ => fun
  | [d1, d2] => { results := [.lit (.bool true)], args := [d1, d2] }
  | _ => none }
def mendPaysRow : OpenClaim := { program := "ytlcpplkbmlmmbaagreat", sum := "b4dae972e3666dc5368b8e032925d3143e8d413956762289c17a23d18a7ea718", func := "skewbald/skewbaldlaw08.MendPays", spec := "mendPays", unfollowed := true, recurses := true, plainKeys := false, apart := false }
def MendPaysSaid : Prop := mendPaysRow.holds Tryz.pinned (OpenSpec.ofChange mendPaysSpec)

/-- ITS FALSE NEIGHBOUR: 'it returns false'. Refute it at one input. -/
def mendPaysWrong : ChangeSpec := { name := "mendPays", fn := fun _ => fun
  | [d1, d2] => { results := [.lit (.bool false)], args := [d1, d2] }
  | _ => none }
def MendPaysWrongFalsely : Prop := mendPaysRow.holds Tryz.pinned (OpenSpec.ofChange mendPaysWrong)

/-- 'skewbaldlaw08.MendCaps': WHATEVER THE INPUT: true; the input reads as it did. -/
def mendCapsSpec : ChangeSpec := { name := "mendCaps", fn := fun _ => fun
  | [d1, d2] => { results := [.lit (.bool true)], args := [d1, d2] }
  | _ => none }
def mendCapsRow : OpenClaim := { program := "ytlcpplkbmlmmbaagreat", sum := "b4dae972e3666dc5368b8e032925d3143e8d413956762289c17a23d18a7ea718", func := "skewbald/skewbaldlaw08.MendCaps", spec := "mendCaps", unfollowed := true, recurses := true, plainKeys := false, apart := false }
def MendCapsSaid : Prop := mendCapsRow.holds Tryz.pinned (OpenSpec.ofChange mendCapsSpec)

/-- ITS FALSE NEIGHBOUR: 'it returns false'. Refute it at one input. -/
def mendCapsWrong : ChangeSpec := { name := "mendCaps", fn := fun _ => fun
  | [d1, d2] => { results := [.lit (.bool false)], args := [d1, d2] }
  | _ => none }
def MendCapsWrongFalsely : Prop := mendCapsRow.holds Tryz.pinned (OpenSpec.ofChange mendCapsWrong)

/-- 'skewbaldlaw08.MendRaise': WHATEVER THE INPUT: true; the input reads as it did. -/
def mendRaiseSpec : ChangeSpec := { name := "mendRaise", fn := fun _ => fun
  | [d1, d2] => { results := [.lit (.bool true)], args := [d1, d2] }
  | _ => none }
def mendRaiseRow : OpenClaim := { program := "ytlcpplkbmlmmbaagreat", sum := "b4dae972e3666dc5368b8e032925d3143e8d413956762289c17a23d18a7ea718", func := "skewbald/skewbaldlaw08.MendRaise", spec := "mendRaise", unfollowed := true, recurses := true, plainKeys := false, apart := false }
def MendRaiseSaid : Prop := mendRaiseRow.holds Tryz.pinned (OpenSpec.ofChange mendRaiseSpec)

/-- ITS FALSE NEIGHBOUR: 'it returns false'. Refute it at one input. -/
def mendRaiseWrong : ChangeSpec := { name := "mendRaise", fn := fun _ => fun
  | [d1, d2] => { results := [.lit (.bool false)], args := [d1, d2] }
  | _ => none }
def MendRaiseWrongFalsely : Prop := mendRaiseRow.holds Tryz.pinned (OpenSpec.ofChange mendRaiseWrong)

/-- 'skewbaldlaw08.MendKnown': WHATEVER THE INPUT: true; the input reads as it did. -/
def mendKnownSpec : ChangeSpec := { name := "mendKnown", fn := fun _ => fun
  | [] => { results := [.lit (.bool true)], args := [] }
  | _ => none }
def mendKnownRow : OpenClaim := { program := "ytlcpplkbmlmmbaagreat", sum := "b4dae972e3666dc5368b8e032925d3143e8d413956762289c17a23d18a7ea718", func := "skewbald/skewbaldlaw08.MendKnown", spec := "mendKnown", unfollowed := true, recurses := true, plainKeys := false, apart := false }
def MendKnownSaid : Prop := mendKnownRow.holds Tryz.pinned (OpenSpec.ofChange mendKnownSpec)

/-- ITS FALSE NEIGHBOUR: 'it returns false'. Refute it at one input. -/
def mendKnownWrong : ChangeSpec := { name := "mendKnown", fn := fun _ => fun
  | [] => { results := [.lit (.bool false)], args := [] }
  | _ => none }
def MendKnownWrongFalsely : Prop := mendKnownRow.holds Tryz.pinned (OpenSpec.ofChange mendKnownWrong)

/-- 'skewbaldtop.TopHonest': WHATEVER THE INPUT: true; the input reads as it did. -/
def topHonestSpec : ChangeSpec := { name := "topHonest", fn := fun _ => fun
  | [d] => { results := [.lit (.bool true)], args := [d] }
  | _ => none }
def topHonestRow : OpenClaim := { program := "ytlcpplkbmlmmbaagreat", sum := "b4dae972e3666dc5368b8e032925d3143e8d413956762289c17a23d18a7ea718", func := "skewbald/skewbaldtop.TopHonest", spec := "topHonest", unfollowed := true, recurses := true, plainKeys := false, apart := false }
def TopHonestSaid : Prop := topHonestRow.holds Tryz.pinned (OpenSpec.ofChange topHonestSpec)

/-- ITS FALSE NEIGHBOUR: 'it returns false'. Refute it at one input. -/
def topHonestWrong : ChangeSpec := { name := "topHonest", fn := fun _ => fun
  | [d] => { results := [.lit (.bool false)], args := [d] }
  | _ => none }
def TopHonestWrongFalsely : Prop := topHonestRow.holds Tryz.pinned (OpenSpec.ofChange topHonestWrong)

/-- 'skewbaldtop.TopOriginal': WHATEVER THE INPUT: true; the input reads as it did. -/
def topOriginalSpec : ChangeSpec := { name := "topOriginal", fn := fun _ => fun
  | [d1, d2, d3] => { results := [.lit (.bool true)], args := [d1, d2, d3] }
  | _ => none }
def topOriginalRow : OpenClaim := { program := "ytlcpplkbmlmmbaagreat", sum := "b4dae972e3666dc5368b8e032925d3143e8d413956762289c17a23d18a7ea718", func := "skewbald/skewbaldtop.TopOriginal", spec := "topOriginal", unfollowed := true, recurses := true, plainKeys := false, apart := false }
def TopOriginalSaid : Prop := topOriginalRow.holds Tryz.pinned (OpenSpec.ofChange topOriginalSpec)

/-- ITS FALSE NEIGHBOUR: 'it returns false'. Refute it at one input. -/
def topOriginalWrong : ChangeSpec := { name := "topOriginal", fn := fun _ => fun
  | [d1, d2, d3] => { results := [.lit (.bool false)], args := [d1, d2, d3] }
  | _ => none }
def TopOriginalWrongFalsely : Prop := topOriginalRow.holds Tryz.pinned (OpenSpec.ofChange topOriginalWrong)

/- THE SECOND FORM. 'bulk': how many values and letters a reading holds, each counted each time it is reached (what is shared counts as often as it is met; a slice's spare places count too). A statement '..UptoSaid' is the law's where the arguments, and the package variables that the reading takes, are together of bulk at most 1048576: NARROWER than '..Said'. Prove '..Said' where nothing that the law and all that it calls make is longer than what came in: it says more and counts as full. Else prove '..UptoSaid'. A law counts once. -/
mutual
def uptoBulk {H : Type} : DataW H → Nat
  | .lit (.string bytes) => bytes.length + 1
  | .lit _ => 1
  | .nil => 1
  | .ptr d => uptoBulk d + 1
  | .slice elems spare => uptoBulkAll elems + uptoBulkAll spare + 1
  | .agg parts => uptoBulkAll parts + 1
  | .iface _ d => uptoBulk d + 1
  | .map entries => uptoBulkEntries entries + 1
  | .held _ => 1
def uptoBulkAll {H : Type} : List (DataW H) → Nat
  | [] => 0
  | d :: r => uptoBulk d + uptoBulkAll r
def uptoBulkEntries {H : Type} : List (Lit × DataW H) → Nat
  | [] => 0
  | x :: r => uptoBulkEntry x + uptoBulkEntries r
def uptoBulkEntry {H : Type} : Lit × DataW H → Nat
  | (.string bytes, d) => bytes.length + uptoBulk d + 1
  | (_, d) => uptoBulk d + 1
 end
def uptoSmall : (H : Type) → List (DataW H) → Bool := fun _ ds => decide (uptoBulkAll ds ≤ 1048576)
def OpenSpec.upto (s : _root_.Go.ChangeSpec) : _root_.Go.OpenSpec := { _root_.Go.OpenSpec.ofChange s with cond := some uptoSmall }

/-- 'skewbaldlaw08.MendJobs', WHERE WHAT IT READS IS OF BULK AT MOST 1048576: true; the input reads as it did. -/
def mendJobsUptoRow : OpenClaim := { program := "ytlcpplkbmlmmbaagreat", sum := "b4dae972e3666dc5368b8e032925d3143e8d413956762289c17a23d18a7ea718", func := "skewbald/skewbaldlaw08.MendJobs", spec := "mendJobs", unfollowed := true, recurses := true, plainKeys := false, apart := false, narrowed := true }
def MendJobsUptoSaid : Prop := mendJobsUptoRow.holds Tryz.pinned (OpenSpec.upto mendJobsSpec)

/-- 'skewbaldlaw08.MendBills', WHERE WHAT IT READS IS OF BULK AT MOST 1048576: true; the input reads as it did. -/
def mendBillsUptoRow : OpenClaim := { program := "ytlcpplkbmlmmbaagreat", sum := "b4dae972e3666dc5368b8e032925d3143e8d413956762289c17a23d18a7ea718", func := "skewbald/skewbaldlaw08.MendBills", spec := "mendBills", unfollowed := true, recurses := true, plainKeys := false, apart := false, narrowed := true }
def MendBillsUptoSaid : Prop := mendBillsUptoRow.holds Tryz.pinned (OpenSpec.upto mendBillsSpec)

/-- 'skewbaldlaw08.MendPays', WHERE WHAT IT READS IS OF BULK AT MOST 1048576: true; the input reads as it did. -/
def mendPaysUptoRow : OpenClaim := { program := "ytlcpplkbmlmmbaagreat", sum := "b4dae972e3666dc5368b8e032925d3143e8d413956762289c17a23d18a7ea718", func := "skewbald/skewbaldlaw08.MendPays", spec := "mendPays", unfollowed := true, recurses := true, plainKeys := false, apart := false, narrowed := true }
def MendPaysUptoSaid : Prop := mendPaysUptoRow.holds Tryz.pinned (OpenSpec.upto mendPaysSpec)

/-- 'skewbaldlaw08.MendCaps', WHERE WHAT IT READS IS OF BULK AT MOST 1048576: true; the input reads as it did. -/
def mendCapsUptoRow : OpenClaim := { program := "ytlcpplkbmlmmbaagreat", sum := "b4dae972e3666dc5368b8e032925d3143e8d413956762289c17a23d18a7ea718", func := "skewbald/skewbaldlaw08.MendCaps", spec := "mendCaps", unfollowed := true, recurses := true, plainKeys := false, apart := false, narrowed := true }
def MendCapsUptoSaid : Prop := mendCapsUptoRow.holds Tryz.pinned (OpenSpec.upto mendCapsSpec)

/-- 'skewbaldlaw08.MendRaise', WHERE WHAT IT READS IS OF BULK AT MOST 1048576: true; the input reads as it did. -/
def mendRaiseUptoRow : OpenClaim := { program := "ytlcpplkbmlmmbaagreat", sum := "b4dae972e3666dc5368b8e032925d3143e8d413956762289c17a23d18a7ea718", func := "skewbald/skewbaldlaw08.MendRaise", spec := "mendRaise", unfollowed := true, recurses := true, plainKeys := false, apart := false, narrowed := true }
def MendRaiseUptoSaid : Prop := mendRaiseUptoRow.holds Tryz.pinned (OpenSpec.upto mendRaiseSpec)

/-- 'skewbaldlaw08.MendKnown', WHERE WHAT IT READS IS OF BULK AT MOST 1048576: true; the input reads as it did. -/
def mendKnownUptoRow : OpenClaim := { program := "ytlcpplkbmlmmbaagreat", sum := "b4dae972e3666dc5368b8e032925d3143e8d413956762289c17a23d18a7ea718", func := "skewbald/skewbaldlaw08.MendKnown", spec := "mendKnown", unfollowed := true, recurses := true, plainKeys := false, apart := false, narrowed := true }
def MendKnownUptoSaid : Prop := mendKnownUptoRow.holds Tryz.pinned (OpenSpec.upto mendKnownSpec)

/-- 'skewbaldtop.TopHonest', WHERE WHAT IT READS IS OF BULK AT MOST 1048576: true; the input reads as it did. -/
def topHonestUptoRow : OpenClaim := { program := "ytlcpplkbmlmmbaagreat", sum := "b4dae972e3666dc5368b8e032925d3143e8d413956762289c17a23d18a7ea718", func := "skewbald/skewbaldtop.TopHonest", spec := "topHonest", unfollowed := true, recurses := true, plainKeys := false, apart := false, narrowed := true }
def TopHonestUptoSaid : Prop := topHonestUptoRow.holds Tryz.pinned (OpenSpec.upto topHonestSpec)

/-- 'skewbaldtop.TopOriginal', WHERE WHAT IT READS IS OF BULK AT MOST 1048576: true; the input reads as it did. -/
def topOriginalUptoRow : OpenClaim := { program := "ytlcpplkbmlmmbaagreat", sum := "b4dae972e3666dc5368b8e032925d3143e8d413956762289c17a23d18a7ea718", func := "skewbald/skewbaldtop.TopOriginal", spec := "topOriginal", unfollowed := true, recurses := true, plainKeys := false, apart := false, narrowed := true }
def TopOriginalUptoSaid : Prop := topOriginalUptoRow.holds Tryz.pinned (OpenSpec.upto topOriginalSpec)

end Rows
end Go.Proofs.YtlcpplkbmlmmbaaGreat
