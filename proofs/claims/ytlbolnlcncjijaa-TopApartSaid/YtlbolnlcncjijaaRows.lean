/-
  No cell of these rows narrows 'for every input' (looked for: loops, veiled, ifaces, maps, wideKeys, modest, calm, conditions, laid).
  DERIVED. THE GIVEN ROWS OF THIS SEAT. 3 by the template 'for every input the law returns true; each argument reads behind the call as it read before'; 0 by the template 'total and deterministic' (their statements: YtlbolnlcncjijaaTotals.lean).
  GIVEN WITH THE SEED: the statements are not yours to turn. If you find one false, say at which input.
  Laid BY PROGRAM, IN A SANDBOX (cutbox-rows.mjs): the forced cells as the released guide's own fill.sh prints them over the translation 7e93d27ee86bf3eb… (all of the seat's roots in one cut). By AI agents, Wed Nov 11 2026. No macro, syntax, notation, axiom, sorry.
-/
import Derived.Test.YtlbolnlcncjijaaChecked
import GoSem.Claim
import GoSem.ClaimJoined
import GoSem.ClaimMapViews
import Derived.JoinedTies
import Derived.KernelRfl
namespace Go.Proofs.Ytlbolnlcncjijaa
/- THE CELL 'sum', in the pinned program and in every row, IS THE sha256 OF THE DUMP (.gsa) THAT YtlbolnlcncjijaaProg.lean LOADS. Nothing in Lean hashes anything: it is a label: what it is worth is what the hold of that sum in a sandbox is worth. -/
noncomputable def Try.pinned : Pinned := { name := "ytlbolnlcncjijaa", sum := "7e93d27ee86bf3eb5ceecc548d9df60b87b3031aaae7937e620aff20fec4381b", checked := Try.checked }
namespace Rows
def none {H : Type} : Left H := { results := [], args := [] }

/-- 'skewbaldlaw05.MakerMore': WHATEVER THE INPUT: true; the input reads as it did. -/
def makerMoreSpec : ChangeSpec := { name := "makerMore", fn := fun _ => fun
  | [d1, d2, d3] => { results := [.lit (.bool true)], args := [d1, d2, d3] }
  | _ => none }
def makerMoreRow : OpenClaim := { program := "ytlbolnlcncjijaa", sum := "7e93d27ee86bf3eb5ceecc548d9df60b87b3031aaae7937e620aff20fec4381b", func := "skewbald/skewbaldlaw05.MakerMore", spec := "makerMore", unfollowed := true, recurses := true, plainKeys := false, apart := false }
def MakerMoreSaid : Prop := makerMoreRow.holds Try.pinned (OpenSpec.ofChange makerMoreSpec)

/-- ITS FALSE NEIGHBOUR: 'it returns false'. Refute it at one input. -/
def makerMoreWrong : ChangeSpec := { name := "makerMore", fn := fun _ => fun
  | [d1, d2, d3] => { results := [.lit (.bool false)], args := [d1, d2, d3] }
  | _ => none }
def MakerMoreWrongFalsely : Prop := makerMoreRow.holds Try.pinned (OpenSpec.ofChange makerMoreWrong)

/-- 'skewbaldlaw05.MakerKnown': WHATEVER THE INPUT: true; the input reads as it did. -/
def makerKnownSpec : ChangeSpec := { name := "makerKnown", fn := fun _ => fun
  | [] => { results := [.lit (.bool true)], args := [] }
  | _ => none }
def makerKnownRow : OpenClaim := { program := "ytlbolnlcncjijaa", sum := "7e93d27ee86bf3eb5ceecc548d9df60b87b3031aaae7937e620aff20fec4381b", func := "skewbald/skewbaldlaw05.MakerKnown", spec := "makerKnown", unfollowed := true, recurses := true, plainKeys := false, apart := false }
def MakerKnownSaid : Prop := makerKnownRow.holds Try.pinned (OpenSpec.ofChange makerKnownSpec)

/-- ITS FALSE NEIGHBOUR: 'it returns false'. Refute it at one input. -/
def makerKnownWrong : ChangeSpec := { name := "makerKnown", fn := fun _ => fun
  | [] => { results := [.lit (.bool false)], args := [] }
  | _ => none }
def MakerKnownWrongFalsely : Prop := makerKnownRow.holds Try.pinned (OpenSpec.ofChange makerKnownWrong)

/-- 'skewbaldtop.TopApart': WHATEVER THE INPUT: true; the input reads as it did. -/
def topApartSpec : ChangeSpec := { name := "topApart", fn := fun _ => fun
  | [d1, d2] => { results := [.lit (.bool true)], args := [d1, d2] }
  | _ => none }
def topApartRow : OpenClaim := { program := "ytlbolnlcncjijaa", sum := "7e93d27ee86bf3eb5ceecc548d9df60b87b3031aaae7937e620aff20fec4381b", func := "skewbald/skewbaldtop.TopApart", spec := "topApart", unfollowed := true, recurses := true, plainKeys := false, apart := false }
def TopApartSaid : Prop := topApartRow.holds Try.pinned (OpenSpec.ofChange topApartSpec)

/-- ITS FALSE NEIGHBOUR: 'it returns false'. Refute it at one input. -/
def topApartWrong : ChangeSpec := { name := "topApart", fn := fun _ => fun
  | [d1, d2] => { results := [.lit (.bool false)], args := [d1, d2] }
  | _ => none }
def TopApartWrongFalsely : Prop := topApartRow.holds Try.pinned (OpenSpec.ofChange topApartWrong)

/- THE SECOND FORM. 'bulk': how many values and letters a reading holds, each counted each time it is reached (what is shared counts as often as it is met; a slice's spare places count too). A statement '..UptoSaid' is the law's where the arguments, and the package variables that the reading takes, are together of bulk at most 1048576: NARROWER than '..Said'. Prove '..Said' where nothing that the law and all that it calls make is longer than what came in: it says more and counts as full. Else prove '..UptoSaid'. A law counts once. -/
mutual
def uptoBulk {H : Type} : DataW H → Nat
  | .lit (.string bytes) => bytes.length + 1
  | .lit _ => 1
  | .nil => 1
  | .ptr d => uptoBulk d + 1
  | .slice elems spare => uptoBulkAll elems + uptoBulkAll spare + 1
  | .agg parts => uptoBulkAll parts + 1
  | .iface _ d => uptoBulk d + 1
  | .map entries => uptoBulkEntries entries + 1
  | .held _ => 1
def uptoBulkAll {H : Type} : List (DataW H) → Nat
  | [] => 0
  | d :: r => uptoBulk d + uptoBulkAll r
def uptoBulkEntries {H : Type} : List (Lit × DataW H) → Nat
  | [] => 0
  | x :: r => uptoBulkEntry x + uptoBulkEntries r
def uptoBulkEntry {H : Type} : Lit × DataW H → Nat
  | (.string bytes, d) => bytes.length + uptoBulk d + 1
  | (_, d) => uptoBulk d + 1
 end
def uptoSmall : (H : Type) → List (DataW H) → Bool := fun _ ds => decide (uptoBulkAll ds ≤ 1048576)
def OpenSpec.upto (s : _root_.Go.ChangeSpec) : _root_.Go.OpenSpec := { _root_.Go.OpenSpec.ofChange s with cond := some uptoSmall }

/-- 'skewbaldlaw05.MakerMore', WHERE WHAT IT READS IS OF BULK AT MOST 1048576: true; the input reads as it did. -/
def makerMoreUptoRow : OpenClaim := { program := "ytlbolnlcncjijaa", sum := "7e93d27ee86bf3eb5ceecc548d9df60b87b3031aaae7937e620aff20fec4381b", func := "skewbald/skewbaldlaw05.MakerMore", spec := "makerMore", unfollowed := true, recurses := true, plainKeys := false, apart := false, narrowed := true }
def MakerMoreUptoSaid : Prop := makerMoreUptoRow.holds Try.pinned (OpenSpec.upto makerMoreSpec)

/-- 'skewbaldlaw05.MakerKnown', WHERE WHAT IT READS IS OF BULK AT MOST 1048576: true; the input reads as it did. -/
def makerKnownUptoRow : OpenClaim := { program := "ytlbolnlcncjijaa", sum := "7e93d27ee86bf3eb5ceecc548d9df60b87b3031aaae7937e620aff20fec4381b", func := "skewbald/skewbaldlaw05.MakerKnown", spec := "makerKnown", unfollowed := true, recurses := true, plainKeys := false, apart := false, narrowed := true }
def MakerKnownUptoSaid : Prop := makerKnownUptoRow.holds Try.pinned (OpenSpec.upto makerKnownSpec)

/-- 'skewbaldtop.TopApart', WHERE WHAT IT READS IS OF BULK AT MOST 1048576: true; the input reads as it did. -/
def topApartUptoRow : OpenClaim := { program := "ytlbolnlcncjijaa", sum := "7e93d27ee86bf3eb5ceecc548d9df60b87b3031aaae7937e620aff20fec4381b", func := "skewbald/skewbaldtop.TopApart", spec := "topApart", unfollowed := true, recurses := true, plainKeys := false, apart := false, narrowed := true }
def TopApartUptoSaid : Prop := topApartUptoRow.holds Try.pinned (OpenSpec.upto topApartSpec)

end Rows
end Go.Proofs.Ytlbolnlcncjijaa
