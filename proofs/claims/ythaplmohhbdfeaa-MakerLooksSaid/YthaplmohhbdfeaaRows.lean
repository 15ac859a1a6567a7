/-
  No cell of these rows narrows 'for every input' (looked for: loops, veiled, ifaces, maps, wideKeys, modest, calm, conditions, laid).
  DERIVED. THE GIVEN ROWS OF THIS SEAT. 13 by the template 'for every input the law returns true; each argument reads behind the call as it read before'; 0 by the template 'total and deterministic' (their statements: YthaplmohhbdfeaaTotals.lean).
  GIVEN WITH THE SEED: the statements are not yours to turn. If you find one false, say at which input.
  Laid BY PROGRAM, IN A SANDBOX (cutbox-rows.mjs): the forced cells as the released guide's own fill.sh prints them over the translation 717bdfe96247c39c… (all of the seat's roots in one cut). By AI agents, Wed Nov 11 2026. No macro, syntax, notation, axiom, sorry.
-/
import Derived.Test.YthaplmohhbdfeaaChecked
import GoSem.Claim
import GoSem.ClaimJoined
import GoSem.ClaimMapViews
import Derived.JoinedTies
import Derived.KernelRfl
namespace Go.Proofs.Ythaplmohhbdfeaa
/- THE CELL 'sum', in the pinned program and in every row, IS THE sha256 OF THE DUMP (.gsa) THAT YthaplmohhbdfeaaProg.lean LOADS. Nothing in Lean hashes anything: it is a label: what it is worth is what the hold of that sum in a sandbox is worth. -/
noncomputable def Try.pinned : Pinned := { name := "ythaplmohhbdfeaa", sum := "717bdfe96247c39c81548378c9f6e3c9cac6384b287d96245ccfc1a86363f994", checked := Try.checked }
namespace Rows
def none {H : Type} : Left H := { results := [], args := [] }

/-- 'skewbaldlaw05.MakerWhos': WHATEVER THE INPUT: true; the input reads as it did. -/
def makerWhosSpec : ChangeSpec := { name := "makerWhos", fn := fun _ => fun
  | [d1, d2] => { results := [.lit (.bool true)], args := [d1, d2] }
  | _ => none }
def makerWhosRow : OpenClaim := { program := "ythaplmohhbdfeaa", sum := "717bdfe96247c39c81548378c9f6e3c9cac6384b287d96245ccfc1a86363f994", func := "skewbald/skewbaldlaw05.MakerWhos", spec := "makerWhos", unfollowed := true, recurses := true, plainKeys := false, apart := false }
def MakerWhosSaid : Prop := makerWhosRow.holds Try.pinned (OpenSpec.ofChange makerWhosSpec)

/-- ITS FALSE NEIGHBOUR: 'it returns false'. Refute it at one input. -/
def makerWhosWrong : ChangeSpec := { name := "makerWhos", fn := fun _ => fun
  | [d1, d2] => { results := [.lit (.bool false)], args := [d1, d2] }
  | _ => none }
def MakerWhosWrongFalsely : Prop := makerWhosRow.holds Try.pinned (OpenSpec.ofChange makerWhosWrong)

/-- 'skewbaldlaw05.MakerValues': WHATEVER THE INPUT: true; the input reads as it did. -/
def makerValuesSpec : ChangeSpec := { name := "makerValues", fn := fun _ => fun
  | [d1, d2] => { results := [.lit (.bool true)], args := [d1, d2] }
  | _ => none }
def makerValuesRow : OpenClaim := { program := "ythaplmohhbdfeaa", sum := "717bdfe96247c39c81548378c9f6e3c9cac6384b287d96245ccfc1a86363f994", func := "skewbald/skewbaldlaw05.MakerValues", spec := "makerValues", unfollowed := true, recurses := true, plainKeys := false, apart := false }
def MakerValuesSaid : Prop := makerValuesRow.holds Try.pinned (OpenSpec.ofChange makerValuesSpec)

/-- ITS FALSE NEIGHBOUR: 'it returns false'. Refute it at one input. -/
def makerValuesWrong : ChangeSpec := { name := "makerValues", fn := fun _ => fun
  | [d1, d2] => { results := [.lit (.bool false)], args := [d1, d2] }
  | _ => none }
def MakerValuesWrongFalsely : Prop := makerValuesRow.holds Try.pinned (OpenSpec.ofChange makerValuesWrong)

/-- 'skewbaldlaw05.MakerLooks': WHATEVER THE INPUT: true; the input reads as it did. -/
def makerLooksSpec : ChangeSpec := { name := "makerLooks", fn := fun _ => fun
  | [d] => { results := [.lit (.bool true)], args := [d] }
  | _ => none }
def makerLooksRow : OpenClaim := { program := "ythaplmohhbdfeaa", sum := "717bdfe96247c39c81548378c9f6e3c9cac6384b287d96245ccfc1a86363f994", func := "skewbald/skewbaldlaw05.MakerLooks", spec := "makerLooks", unfollowed := true, recurses := true, plainKeys := false, apart := false }
def MakerLooksSaid : Prop := makerLooksRow.holds Try.pinned (OpenSpec.ofChange makerLooksSpec)

/-- ITS FALSE NEIGHBOUR: 'it returns false'. Refute it at one input. -/
def makerLooksWrong : ChangeSpec := { name := "makerLooks", fn := fun _ => fun
  | [d] => { results := [.lit (.bool false)], args := [d] }
  | _ => none }
def MakerLooksWrongFalsely : Prop := makerLooksRow.holds Try.pinned (OpenSpec.ofChange makerLooksWrong)

/-- 'skewbaldlaw05.MakerTrue': WHATEVER THE INPUT: true; the input reads as it did. -/
def makerTrueSpec : ChangeSpec := { name := "makerTrue", fn := fun _ => fun
  | [d1, d2, d3] => { results := [.lit (.bool true)], args := [d1, d2, d3] }
  | _ => none }
def makerTrueRow : OpenClaim := { program := "ythaplmohhbdfeaa", sum := "717bdfe96247c39c81548378c9f6e3c9cac6384b287d96245ccfc1a86363f994", func := "skewbald/skewbaldlaw05.MakerTrue", spec := "makerTrue", unfollowed := true, recurses := true, plainKeys := false, apart := false }
def MakerTrueSaid : Prop := makerTrueRow.holds Try.pinned (OpenSpec.ofChange makerTrueSpec)

/-- ITS FALSE NEIGHBOUR: 'it returns false'. Refute it at one input. -/
def makerTrueWrong : ChangeSpec := { name := "makerTrue", fn := fun _ => fun
  | [d1, d2, d3] => { results := [.lit (.bool false)], args := [d1, d2, d3] }
  | _ => none }
def MakerTrueWrongFalsely : Prop := makerTrueRow.holds Try.pinned (OpenSpec.ofChange makerTrueWrong)

/-- 'skewbaldlaw05.MakerNeeds': WHATEVER THE INPUT: true; the input reads as it did. -/
def makerNeedsSpec : ChangeSpec := { name := "makerNeeds", fn := fun _ => fun
  | [d1, d2] => { results := [.lit (.bool true)], args := [d1, d2] }
  | _ => none }
def makerNeedsRow : OpenClaim := { program := "ythaplmohhbdfeaa", sum := "717bdfe96247c39c81548378c9f6e3c9cac6384b287d96245ccfc1a86363f994", func := "skewbald/skewbaldlaw05.MakerNeeds", spec := "makerNeeds", unfollowed := true, recurses := true, plainKeys := false, apart := false }
def MakerNeedsSaid : Prop := makerNeedsRow.holds Try.pinned (OpenSpec.ofChange makerNeedsSpec)

/-- ITS FALSE NEIGHBOUR: 'it returns false'. Refute it at one input. -/
def makerNeedsWrong : ChangeSpec := { name := "makerNeeds", fn := fun _ => fun
  | [d1, d2] => { results := [.lit (.bool false)], args := [d1, d2] }
  | _ => none }
def MakerNeedsWrongFalsely : Prop := makerNeedsRow.holds Try.pinned (OpenSpec.ofChange makerNeedsWrong)

/-- 'skewbaldlaw05.MakerChanged': WHATEVER THE INPUT: true; the input reads as it did. -/
def makerChangedSpec : ChangeSpec := { name := "makerChanged", fn := fun _ => fun
  | [d1, d2] => { results := [.lit (.bool true)], args := [d1, d2] }
  | _ => none }
def makerChangedRow : OpenClaim := { program := "ythaplmohhbdfeaa", sum := "717bdfe96247c39c81548378c9f6e3c9cac6384b287d96245ccfc1a86363f994", func := "skewbald/skewbaldlaw05.MakerChanged", spec := "makerChanged", unfollowed := true, recurses := true, plainKeys := false, apart := false }
def MakerChangedSaid : Prop := makerChangedRow.holds Try.pinned (OpenSpec.ofChange makerChangedSpec)

/-- ITS FALSE NEIGHBOUR: 'it returns false'. Refute it at one input. -/
def makerChangedWrong : ChangeSpec := { name := "makerChanged", fn := fun _ => fun
  | [d1, d2] => { results := [.lit (.bool false)], args := [d1, d2] }
  | _ => none }
def MakerChangedWrongFalsely : Prop := makerChangedRow.holds Try.pinned (OpenSpec.ofChange makerChangedWrong)

/-- 'skewbaldlaw05.MakerMore': WHATEVER THE INPUT: true; the input reads as it did. -/
def makerMoreSpec : ChangeSpec := { name := "makerMore", fn := fun _ => fun
  | [d1, d2, d3] => { results := [.lit (.bool true)], args := [d1, d2, d3] }
  | _ => none }
def makerMoreRow : OpenClaim := { program := "ythaplmohhbdfeaa", sum := "717bdfe96247c39c81548378c9f6e3c9cac6384b287d96245ccfc1a86363f994", func := "skewbald/skewbaldlaw05.MakerMore", spec := "makerMore", unfollowed := true, recurses := true, plainKeys := false, apart := false }
def MakerMoreSaid : Prop := makerMoreRow.holds Try.pinned (OpenSpec.ofChange makerMoreSpec)

/-- ITS FALSE NEIGHBOUR: 'it returns false'. Refute it at one input. -/
def makerMoreWrong : ChangeSpec := { name := "makerMore", fn := fun _ => fun
  | [d1, d2, d3] => { results := [.lit (.bool false)], args := [d1, d2, d3] }
  | _ => none }
def MakerMoreWrongFalsely : Prop := makerMoreRow.holds Try.pinned (OpenSpec.ofChange makerMoreWrong)

/-- 'skewbaldlaw05.MakerTold': WHATEVER THE INPUT: true; the input reads as it did. -/
def makerToldSpec : ChangeSpec := { name := "makerTold", fn := fun _ => fun
  | [d1, d2, d3] => { results := [.lit (.bool true)], args := [d1, d2, d3] }
  | _ => none }
def makerToldRow : OpenClaim := { program := "ythaplmohhbdfeaa", sum := "717bdfe96247c39c81548378c9f6e3c9cac6384b287d96245ccfc1a86363f994", func := "skewbald/skewbaldlaw05.MakerTold", spec := "makerTold", unfollowed := true, recurses := true, plainKeys := false, apart := false }
def MakerToldSaid : Prop := makerToldRow.holds Try.pinned (OpenSpec.ofChange makerToldSpec)

/-- ITS FALSE NEIGHBOUR: 'it returns false'. Refute it at one input. -/
def makerToldWrong : ChangeSpec := { name := "makerTold", fn := fun _ => fun
  | [d1, d2, d3] => { results := [.lit (.bool false)], args := [d1, d2, d3] }
  | _ => none }
def MakerToldWrongFalsely : Prop := makerToldRow.holds Try.pinned (OpenSpec.ofChange makerToldWrong)

/-- 'skewbaldlaw05.MakerLook': WHATEVER THE INPUT: true; the input reads as it did. -/
def makerLookSpec : ChangeSpec := { name := "makerLook", fn := fun _ => fun
  | [d1, d2] => { results := [.lit (.bool true)], args := [d1, d2] }
  | _ => none }
def makerLookRow : OpenClaim := { program := "ythaplmohhbdfeaa", sum := "717bdfe96247c39c81548378c9f6e3c9cac6384b287d96245ccfc1a86363f994", func := "skewbald/skewbaldlaw05.MakerLook", spec := "makerLook", unfollowed := true, recurses := true, plainKeys := false, apart := false }
def MakerLookSaid : Prop := makerLookRow.holds Try.pinned (OpenSpec.ofChange makerLookSpec)

/-- ITS FALSE NEIGHBOUR: 'it returns false'. Refute it at one input. -/
def makerLookWrong : ChangeSpec := { name := "makerLook", fn := fun _ => fun
  | [d1, d2] => { results := [.lit (.bool false)], args := [d1, d2] }
  | _ => none }
def MakerLookWrongFalsely : Prop := makerLookRow.holds Try.pinned (OpenSpec.ofChange makerLookWrong)

/-- 'skewbaldlaw05.MakerWrong': WHATEVER THE INPUT: true; the input reads as it did. -/
def makerWrongSpec : ChangeSpec := { name := "makerWrong", fn := fun _ => fun
  | [d1, d2] => { results := [.lit (.bool true)], args := [d1, d2] }
  | _ => none }
def makerWrongRow : OpenClaim := { program := "ythaplmohhbdfeaa", sum := "717bdfe96247c39c81548378c9f6e3c9cac6384b287d96245ccfc1a86363f994", func := "skewbald/skewbaldlaw05.MakerWrong", spec := "makerWrong", unfollowed := true, recurses := true, plainKeys := false, apart := false }
def MakerWrongSaid : Prop := makerWrongRow.holds Try.pinned (OpenSpec.ofChange makerWrongSpec)

/-- ITS FALSE NEIGHBOUR: 'it returns false'. Refute it at one input. -/
def makerWrongWrong : ChangeSpec := { name := "makerWrong", fn := fun _ => fun
  | [d1, d2] => { results := [.lit (.bool false)], args := [d1, d2] }
  | _ => none }
def MakerWrongWrongFalsely : Prop := makerWrongRow.holds Try.pinned (OpenSpec.ofChange makerWrongWrong)

/-- 'skewbaldlaw05.MakerBare': WHATEVER THE INPUT: true; the input reads as it did. -/
def makerBareSpec : ChangeSpec := { name := "makerBare", fn := fun _ => fun
  | [d1, d2] => { results := [.lit (.bool true)], args := [d1, d2] }
  | _ => none }
def makerBareRow : OpenClaim := { program := "ythaplmohhbdfeaa", sum := "717bdfe96247c39c81548378c9f6e3c9cac6384b287d96245ccfc1a86363f994", func := "skewbald/skewbaldlaw05.MakerBare", spec := "makerBare", unfollowed := true, recurses := true, plainKeys := false, apart := false }
def MakerBareSaid : Prop := makerBareRow.holds Try.pinned (OpenSpec.ofChange makerBareSpec)

/-- ITS FALSE NEIGHBOUR: 'it returns false'. Refute it at one input. -/
def makerBareWrong : ChangeSpec := { name := "makerBare", fn := fun _ => fun
  | [d1, d2] => { results := [.lit (.bool false)], args := [d1, d2] }
  | _ => none }
def MakerBareWrongFalsely : Prop := makerBareRow.holds Try.pinned (OpenSpec.ofChange makerBareWrong)

/-- 'skewbaldlaw05.MakerKnown': WHATEVER THE INPUT: true; the input reads as it did. -/
def makerKnownSpec : ChangeSpec := { name := "makerKnown", fn := fun _ => fun
  | [] => { results := [.lit (.bool true)], args := [] }
  | _ => none }
def makerKnownRow : OpenClaim := { program := "ythaplmohhbdfeaa", sum := "717bdfe96247c39c81548378c9f6e3c9cac6384b287d96245ccfc1a86363f994", func := "skewbald/skewbaldlaw05.MakerKnown", spec := "makerKnown", unfollowed := true, recurses := true, plainKeys := false, apart := false }
def MakerKnownSaid : Prop := makerKnownRow.holds Try.pinned (OpenSpec.ofChange makerKnownSpec)

/-- ITS FALSE NEIGHBOUR: 'it returns false'. Refute it at one input. -/
def makerKnownWrong : ChangeSpec := { name := "makerKnown", fn := fun _ => fun
  | [] => { results := [.lit (.bool false)], args := [] }
  | _ => none }
def MakerKnownWrongFalsely : Prop := makerKnownRow.holds Try.pinned (OpenSpec.ofChange makerKnownWrong)

/-- 'skewbaldtop.TopApart': WHATEVER THE INPUT: true; the input reads as it did. -/
def topApartSpec : ChangeSpec := { name := "topApart", fn := fun _ => fun
  | [d1, d2] => { results := [.lit (.bool true)], args := [d1, d2] }
  | _ => none }
def topApartRow : OpenClaim := { program := "ythaplmohhbdfeaa", sum := "717bdfe96247c39c81548378c9f6e3c9cac6384b287d96245ccfc1a86363f994", func := "skewbald/skewbaldtop.TopApart", spec := "topApart", unfollowed := true, recurses := true, plainKeys := false, apart := false }
def TopApartSaid : Prop := topApartRow.holds Try.pinned (OpenSpec.ofChange topApartSpec)

/-- ITS FALSE NEIGHBOUR: 'it returns false'. Refute it at one input. -/
def topApartWrong : ChangeSpec := { name := "topApart", fn := fun _ => fun
  | [d1, d2] => { results := [.lit (.bool false)], args := [d1, d2] }
  | _ => none }
def TopApartWrongFalsely : Prop := topApartRow.holds Try.pinned (OpenSpec.ofChange topApartWrong)

/- THE SECOND FORM. 'bulk': how many values and letters a reading holds, each counted each time it is reached (what is shared counts as often as it is met; a slice's spare places count too). A statement '..UptoSaid' is the law's where the arguments, and the package variables that the reading takes, are together of bulk at most 1048576: NARROWER than '..Said'. Prove '..Said' where nothing that the law and all that it calls make is longer than what came in: it says more and counts as full. Else prove '..UptoSaid'. A law counts once. -/
mutual
def uptoBulk {H : Type} : DataW H → Nat
  | .lit (.string bytes) => bytes.length + 1
  | .lit _ => 1
  | .nil => 1
  | .ptr d => uptoBulk d + 1
  | .slice elems spare => uptoBulkAll elems + uptoBulkAll spare + 1
  | .agg parts => uptoBulkAll parts + 1
  | .iface _ d => uptoBulk d + 1
  | .map entries => uptoBulkEntries entries + 1
  | .held _ => 1
def uptoBulkAll {H : Type} : List (DataW H) → Nat
  | [] => 0
  | d :: r => uptoBulk d + uptoBulkAll r
def uptoBulkEntries {H : Type} : List (Lit × DataW H) → Nat
  | [] => 0
  | x :: r => uptoBulkEntry x + uptoBulkEntries r
def uptoBulkEntry {H : Type} : Lit × DataW H → Nat
  | (.string bytes, d) => bytes.length + uptoBulk d + 1
  | (_, d) => uptoBulk d + 1
 end
def uptoSmall : (H : Type) → List (DataW H) → Bool := fun _ ds => decide (uptoBulkAll ds ≤ 1048576)
def OpenSpec.upto (s : _root_.Go.ChangeSpec) : _root_.Go.OpenSpec := { _root_.Go.OpenSpec.ofChange s with cond := some uptoSmall }

/-- 'skewbaldlaw05.MakerWhos', WHERE WHAT IT READS IS OF BULK AT MOST 1048576: true; the input reads as it did. -/
def makerWhosUptoRow : OpenClaim := { program := "ythaplmohhbdfeaa", sum := "717bdfe96247c39c81548378c9f6e3c9cac6384b287d96245ccfc1a86363f994", func := "skewbald/skewbaldlaw05.MakerWhos", spec := "makerWhos", unfollowed := true, recurses := true, plainKeys := false, apart := false, narrowed := true }
def MakerWhosUptoSaid : Prop := makerWhosUptoRow.holds Try.pinned (OpenSpec.upto makerWhosSpec)

/-- 'skewbaldlaw05.MakerValues', WHERE WHAT IT READS IS OF BULK AT MOST 1048576: true; the input reads as it did. -/
def makerValuesUptoRow : OpenClaim := { program := "ythaplmohhbdfeaa", sum := "717bdfe96247c39c81548378c9f6e3c9cac6384b287d96245ccfc1a86363f994", func := "skewbald/skewbaldlaw05.MakerValues", spec := "makerValues", unfollowed := true, recurses := true, plainKeys := false, apart := false, narrowed := true }
def MakerValuesUptoSaid : Prop := makerValuesUptoRow.holds Try.pinned (OpenSpec.upto makerValuesSpec)

/-- 'skewbaldlaw05.MakerLooks', WHERE WHAT IT READS IS OF BULK AT MOST 1048576: true; the input reads as it did. -/
def makerLooksUptoRow : OpenClaim := { program := "ythaplmohhbdfeaa", sum := "717bdfe96247c39c81548378c9f6e3c9cac6384b287d96245ccfc1a86363f994", func := "skewbald/skewbaldlaw05.MakerLooks", spec := "makerLooks", unfollowed := true, recurses := true, plainKeys := false, apart := false, narrowed := true }
def MakerLooksUptoSaid : Prop := makerLooksUptoRow.holds Try.pinned (OpenSpec.upto makerLooksSpec)

/-- 'skewbaldlaw05.MakerTrue', WHERE WHAT IT READS IS OF BULK AT MOST 1048576: true; the input reads as it did. -/
def makerTrueUptoRow : OpenClaim := { program := "ythaplmohhbdfeaa", sum := "717bdfe96247c39c81548378c9f6e3c9cac6384b287d96245ccfc1a86363f994", func := "skewbald/skewbaldlaw05.MakerTrue", spec := "makerTrue", unfollowed := true, recurses := true, plainKeys := false, apart := false, narrowed := true }
def MakerTrueUptoSaid : Prop := makerTrueUptoRow.holds Try.pinned (OpenSpec.upto makerTrueSpec)

/-- 'skewbaldlaw05.MakerNeeds', WHERE WHAT IT READS IS OF BULK AT MOST 1048576: true; the input reads as it did. -/
def makerNeedsUptoRow : OpenClaim := { program := "ythaplmohhbdfeaa", sum := "717bdfe96247c39c81548378c9f6e3c9cac6384b287d96245ccfc1a86363f994", func := "skewbald/skewbaldlaw05.MakerNeeds", spec := "makerNeeds", unfollowed := true, recurses := true, plainKeys := false, apart := false, narrowed := true }
def MakerNeedsUptoSaid : Prop := makerNeedsUptoRow.holds Try.pinned (OpenSpec.upto makerNeedsSpec)

/-- 'skewbaldlaw05.MakerChanged', WHERE WHAT IT READS IS OF BULK AT MOST 1048576: true; the input reads as it did. -/
def makerChangedUptoRow : OpenClaim := { program := "ythaplmohhbdfeaa", sum := "717bdfe96247c39c81548378c9f6e3c9cac6384b287d96245ccfc1a86363f994", func := "skewbald/skewbaldlaw05.MakerChanged", spec := "makerChanged", unfollowed := true, recurses := true, plainKeys := false, apart := false, narrowed := true }
def MakerChangedUptoSaid : Prop := makerChangedUptoRow.holds Try.pinned (OpenSpec.upto makerChangedSpec)

/-- 'skewbaldlaw05.MakerMore', WHERE WHAT IT READS IS OF BULK AT MOST 1048576: true; the input reads as it did. -/
def makerMoreUptoRow : OpenClaim := { program := "ythaplmohhbdfeaa", sum := "717bdfe96247c39c81548378c9f6e3c9cac6384b287d96245ccfc1a86363f994", func := "skewbald/skewbaldlaw05.MakerMore", spec := "makerMore", unfollowed := true, recurses := true, plainKeys := false, apart := false, narrowed := true }
def MakerMoreUptoSaid : Prop := makerMoreUptoRow.holds Try.pinned (OpenSpec.upto makerMoreSpec)

/-- 'skewbaldlaw05.MakerTold', WHERE WHAT IT READS IS OF BULK AT MOST 1048576: true; the input reads as it did. -/
def makerToldUptoRow : OpenClaim := { program := "ythaplmohhbdfeaa", sum := "717bdfe96247c39c81548378c9f6e3c9cac6384b287d96245ccfc1a86363f994", func := "skewbald/skewbaldlaw05.MakerTold", spec := "makerTold", unfollowed := true, recurses := true, plainKeys := false, apart := false, narrowed := true }
def MakerToldUptoSaid : Prop := makerToldUptoRow.holds Try.pinned (OpenSpec.upto makerToldSpec)

/-- 'skewbaldlaw05.MakerLook', WHERE WHAT IT READS IS OF BULK AT MOST 1048576: true; the input reads as it did. -/
def makerLookUptoRow : OpenClaim := { program := "ythaplmohhbdfeaa", sum := "717bdfe96247c39c81548378c9f6e3c9cac6384b287d96245ccfc1a86363f994", func := "skewbald/skewbaldlaw05.MakerLook", spec := "makerLook", unfollowed := true, recurses := true, plainKeys := false, apart := false, narrowed := true }
def MakerLookUptoSaid : Prop := makerLookUptoRow.holds Try.pinned (OpenSpec.upto makerLookSpec)

/-- 'skewbaldlaw05.MakerWrong', WHERE WHAT IT READS IS OF BULK AT MOST 1048576: true; the input reads as it did. -/
def makerWrongUptoRow : OpenClaim := { program := "ythaplmohhbdfeaa", sum := "717bdfe96247c39c81548378c9f6e3c9cac6384b287d96245ccfc1a86363f994", func := "skewbald/skewbaldlaw05.MakerWrong", spec := "makerWrong", unfollowed := true, recurses := true, plainKeys := false, apart := false, narrowed := true }
def MakerWrongUptoSaid : Prop := makerWrongUptoRow.holds Try.pinned (OpenSpec.upto makerWrongSpec)

/-- 'skewbaldlaw05.MakerBare', WHERE WHAT IT READS IS OF BULK AT MOST 1048576: true; the input reads as it did. -/
def makerBareUptoRow : OpenClaim := { program := "ythaplmohhbdfeaa", sum := "717bdfe96247c39c81548378c9f6e3c9cac6384b287d96245ccfc1a86363f994", func := "skewbald/skewbaldlaw05.MakerBare", spec := "makerBare", unfollowed := true, recurses := true, plainKeys := false, apart := false, narrowed := true }
def MakerBareUptoSaid : Prop := makerBareUptoRow.holds Try.pinned (OpenSpec.upto makerBareSpec)

/-- 'skewbaldlaw05.MakerKnown', WHERE WHAT IT READS IS OF BULK AT MOST 1048576: true; the input reads as it did. -/
def makerKnownUptoRow : OpenClaim := { program := "ythaplmohhbdfeaa", sum := "717bdfe96247c39c81548378c9f6e3c9cac6384b287d96245ccfc1a86363f994", func := "skewbald/skewbaldlaw05.MakerKnown", spec := "makerKnown", unfollowed := true, recurses := true, plainKeys := false, apart := false, narrowed := true }
def MakerKnownUptoSaid : Prop := makerKnownUptoRow.holds Try.pinned (OpenSpec.upto makerKnownSpec)

/-- 'skewbaldtop.TopApart', WHERE WHAT IT READS IS OF BULK AT MOST 1048576: true; the input reads as it did. -/
def topApartUptoRow : OpenClaim := { program := "ythaplmohhbdfeaa", sum := "717bdfe96247c39c81548378c9f6e3c9cac6384b287d96245ccfc1a86363f994", func := "skewbald/skewbaldtop.TopApart", spec := "topApart", unfollowed := true, recurses := true, plainKeys := false, apart := false, narrowed := true }
def TopApartUptoSaid : Prop := topApartUptoRow.holds Try.pinned (OpenSpec.upto topApartSpec)

end Rows
end Go.Proofs.Ythaplmohhbdfeaa
