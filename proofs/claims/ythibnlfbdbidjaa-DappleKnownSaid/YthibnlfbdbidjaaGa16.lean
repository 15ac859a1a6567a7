/- What comes in, of dapple's types. Closed facts of the program, for the rows. -/
import Derived.Test.YthibnlfbdbidjaaGa15
import Derived.Test.YthibnlfbdbidjaaRows
import Derived.WalkKit
import Derived.ProofKit
import Derived.OpenShut
import Derived.ChangeOld
import Derived.Below
import Derived.SizedLaws
namespace Go.Proofs.Ythibnlfbdbidjaa
open Go.RowKit
abbrev uInt : Try.prog.underlying 3 = some (.int .i64) := Try.underlying3
set_option maxRecDepth 100000 in
theorem ty_ints {f : Nat} {l : List PV} (h : Ty Try.prog (f + 2) 26 l) : ∃ xs : List Int, l = [pis xs] := by
  obtain ⟨es, rfl, -, h⟩ := tySlice Try.underlying26 h
  obtain ⟨xs, rfl⟩ := list_map_ex (f := fun x : Int => [pi x]) fun y hy => tyInt uInt (h y hy).2
  exact ⟨xs, rfl⟩
set_option maxRecDepth 100000 in
theorem ty_book {l : List PV} (h : Ty Try.prog 10 24 l) : ∃ b, l = bookC .sh b := by
  obtain ⟨a0, r0, rfl, h0, a1, r1, rfl, h1, rfl⟩ := tyStruct Try.underlying24 h
  obtain ⟨es, rfl, -, g1⟩ := tySlice Try.underlying22 h1
  obtain ⟨hs, rfl⟩ := list_map_ex (f := fun h : List Int => [pis h]) fun y hy => ty_ints (g1 y hy).2
  obtain ⟨n0, rfl⟩ := tyInt uInt h0
  exact ⟨⟨n0, hs⟩, rfl⟩
set_option maxRecDepth 100000 in
theorem ty_two {l : List PV} (h : Ty Try.prog 10 25 l) : ∃ a c, l = [pi a, pi c] := by
  obtain ⟨a, r, rfl, h1, a2, r2, rfl, h2, rfl⟩ := tyArray Try.underlying25 h
  obtain ⟨n1, rfl⟩ := tyInt uInt h1
  obtain ⟨n2, rfl⟩ := tyInt uInt h2
  exact ⟨n1, n2, rfl⟩
set_option maxRecDepth 100000 in
theorem ty_three {l : List PV} (h : Ty Try.prog 10 51 l) : ∃ a c d, l = [pi a, pi c, pi d] := by
  obtain ⟨a, r, rfl, h1, a2, r2, rfl, h2, a3, r3, rfl, h3, rfl⟩ := tyArray Try.underlying51 h
  obtain ⟨n1, rfl⟩ := tyInt uInt h1
  obtain ⟨n2, rfl⟩ := tyInt uInt h2
  obtain ⟨n3, rfl⟩ := tyInt uInt h3
  exact ⟨n1, n2, n3, rfl⟩
end Go.Proofs.Ythibnlfbdbidjaa
namespace Go.Proofs.Ythibnlfbdbidjaa
open Go.ChangeShapes Go.WideShapes Go.ChangeAt Go.RowKit Go.Deep
theorem ownKnobs : ownKnob Try.prog.godebug = none := by kernel_rfl
theorem laidOut : laidOutB Try.prog = true := by kernel_rfl
end Go.Proofs.Ythibnlfbdbidjaa
