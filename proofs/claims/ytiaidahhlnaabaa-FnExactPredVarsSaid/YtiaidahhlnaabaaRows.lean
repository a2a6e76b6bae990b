/-
  No cell of these rows narrows 'for every input' (looked for: loops, veiled, ifaces, maps, wideKeys, modest, calm, conditions, laid).
  DERIVED. THE GIVEN ROWS OF THIS SEAT. 6 by the template 'for every input the law returns true; each argument reads behind the call as it read before'; 0 by the template 'total and deterministic' (their statements: YtiaidahhlnaabaaTotals.lean).
  GIVEN WITH THE SEED: the statements are not yours to turn. If you find one false, say at which input.
  Laid BY PROGRAM, IN A SANDBOX (cutbox-rows.mjs): the forced cells as the released guide's own fill.sh prints them over the translation 9316d70495d31bcb… (all of the seat's roots in one cut). By AI agents, Wed Nov 11 2026. No macro, syntax, notation, axiom, sorry.
-/
import Derived.Test.YtiaidahhlnaabaaChecked
import GoSem.Claim
import GoSem.ClaimJoined
import GoSem.ClaimMapViews
import Derived.JoinedTies
import Derived.KernelRfl
namespace Go.Proofs.Ytiaidahhlnaabaa
/- THE CELL 'sum', in the pinned program and in every row, IS THE sha256 OF THE DUMP (.gsa) THAT YtiaidahhlnaabaaProg.lean LOADS. Nothing in Lean hashes anything: it is a label: what it is worth is what the hold of that sum in a sandbox is worth. -/
noncomputable def Try.pinned : Pinned := { name := "ytiaidahhlnaabaa", sum := "9316d70495d31bcb4aa75fbdfad4144467c02da457713c745a4b4cbf927b1b8f", checked := Try.checked }
namespace Rows
def none {H : Type} : Left H := { results := [], args := [] }

/-- 'laws.FnExactPredOf': WHATEVER THE INPUT: true; the input reads as it did. -/
def fnExactPredOfSpec : ChangeSpec := { name := "fnExactPredOf", fn := fun _ => fun
  | [d] => { results := [.lit (.bool true)], args := [d] }
  | _ => none }
def fnExactPredOfRow : OpenClaim := { program := "ytiaidahhlnaabaa", sum := "9316d70495d31bcb4aa75fbdfad4144467c02da457713c745a4b4cbf927b1b8f", func := "loop.example/productprograms/laws.FnExactPredOf", spec := "fnExactPredOf", unfollowed := true, recurses := true, apart := false }
def FnExactPredOfSaid : Prop := fnExactPredOfRow.holds Try.pinned (OpenSpec.ofChange fnExactPredOfSpec)

/-- ITS FALSE NEIGHBOUR: 'it returns false'. Refute it at one input. -/
def fnExactPredOfWrong : ChangeSpec := { name := "fnExactPredOf", fn := fun _ => fun
  | [d] => { results := [.lit (.bool false)], args := [d] }
  | _ => none }
def FnExactPredOfWrongFalsely : Prop := fnExactPredOfRow.holds Try.pinned (OpenSpec.ofChange fnExactPredOfWrong)

/-- 'laws.FnExactPredVars': WHATEVER THE INPUT: true; the input reads as it did. -/
def fnExactPredVarsSpec : ChangeSpec := { name := "fnExactPredVars", fn := fun _ => fun
  | [d] => { results := [.lit (.bool true)], args := [d] }
  | _ => none }
def fnExactPredVarsRow : OpenClaim := { program := "ytiaidahhlnaabaa", sum := "9316d70495d31bcb4aa75fbdfad4144467c02da457713c745a4b4cbf927b1b8f", func := "loop.example/productprograms/laws.FnExactPredVars", spec := "fnExactPredVars", inPlace := ["internal/bytealg.IndexByteString", "internal/bytealg.IndexString"], unfollowed := true, recurses := true, named := ["internal/bytealg.MaxLen"], apart := false }
def FnExactPredVarsSaid : Prop := fnExactPredVarsRow.holds Try.pinned (OpenSpec.ofChange fnExactPredVarsSpec)

/-- ITS FALSE NEIGHBOUR: 'it returns false'. Refute it at one input. -/
def fnExactPredVarsWrong : ChangeSpec := { name := "fnExactPredVars", fn := fun _ => fun
  | [d] => { results := [.lit (.bool false)], args := [d] }
  | _ => none }
def FnExactPredVarsWrongFalsely : Prop := fnExactPredVarsRow.holds Try.pinned (OpenSpec.ofChange fnExactPredVarsWrong)

/-- 'laws.FnExactAssignPre': WHATEVER THE INPUT: true; the input reads as it did. -/
def fnExactAssignPreSpec : ChangeSpec := { name := "fnExactAssignPre", fn := fun _ => fun
  | [d1, d2, d3] => { results := [.lit (.bool true)], args := [d1, d2, d3] }
  | _ => none }
def fnExactAssignPreRow : OpenClaim := { program := "ytiaidahhlnaabaa", sum := "9316d70495d31bcb4aa75fbdfad4144467c02da457713c745a4b4cbf927b1b8f", func := "loop.example/productprograms/laws.FnExactAssignPre", spec := "fnExactAssignPre", inPlace := ["internal/bytealg.IndexByteString", "internal/bytealg.IndexString"], unfollowed := true, recurses := true, named := ["internal/bytealg.MaxLen"], apart := false }
def FnExactAssignPreSaid : Prop := fnExactAssignPreRow.holds Try.pinned (OpenSpec.ofChange fnExactAssignPreSpec)

/-- ITS FALSE NEIGHBOUR: 'it returns false'. Refute it at one input. -/
def fnExactAssignPreWrong : ChangeSpec := { name := "fnExactAssignPre", fn := fun _ => fun
  | [d1, d2, d3] => { results := [.lit (.bool false)], args := [d1, d2, d3] }
  | _ => none }
def FnExactAssignPreWrongFalsely : Prop := fnExactAssignPreRow.holds Try.pinned (OpenSpec.ofChange fnExactAssignPreWrong)

/-- 'laws.FnExactAssignPost': WHATEVER THE INPUT: true; the input reads as it did. -/
def fnExactAssignPostSpec : ChangeSpec := { name := "fnExactAssignPost", fn := fun _ => fun
  | [d1, d2, d3] => { results := [.lit (.bool true)], args := [d1, d2, d3] }
  | _ => none }
def fnExactAssignPostRow : OpenClaim := { program := "ytiaidahhlnaabaa", sum := "9316d70495d31bcb4aa75fbdfad4144467c02da457713c745a4b4cbf927b1b8f", func := "loop.example/productprograms/laws.FnExactAssignPost", spec := "fnExactAssignPost", inPlace := ["internal/bytealg.IndexByteString", "internal/bytealg.IndexString"], unfollowed := true, recurses := true, named := ["internal/bytealg.MaxLen"], apart := false }
def FnExactAssignPostSaid : Prop := fnExactAssignPostRow.holds Try.pinned (OpenSpec.ofChange fnExactAssignPostSpec)

/-- ITS FALSE NEIGHBOUR: 'it returns false'. Refute it at one input. -/
def fnExactAssignPostWrong : ChangeSpec := { name := "fnExactAssignPost", fn := fun _ => fun
  | [d1, d2, d3] => { results := [.lit (.bool false)], args := [d1, d2, d3] }
  | _ => none }
def FnExactAssignPostWrongFalsely : Prop := fnExactAssignPostRow.holds Try.pinned (OpenSpec.ofChange fnExactAssignPostWrong)

/-- 'laws.FnExactSomeVar': WHATEVER THE INPUT: true; the input reads as it did. -/
def fnExactSomeVarSpec : ChangeSpec := { name := "fnExactSomeVar", fn := fun _ => fun
  | [d1, d2] => { results := [.lit (.bool true)], args := [d1, d2] }
  | _ => none }
def fnExactSomeVarRow : OpenClaim := { program := "ytiaidahhlnaabaa", sum := "9316d70495d31bcb4aa75fbdfad4144467c02da457713c745a4b4cbf927b1b8f", func := "loop.example/productprograms/laws.FnExactSomeVar", spec := "fnExactSomeVar", inPlace := ["internal/bytealg.IndexByteString", "internal/bytealg.IndexString"], unfollowed := true, recurses := true, named := ["internal/bytealg.MaxLen"], apart := false }
def FnExactSomeVarSaid : Prop := fnExactSomeVarRow.holds Try.pinned (OpenSpec.ofChange fnExactSomeVarSpec)

/-- ITS FALSE NEIGHBOUR: 'it returns false'. Refute it at one input. -/
def fnExactSomeVarWrong : ChangeSpec := { name := "fnExactSomeVar", fn := fun _ => fun
  | [d1, d2] => { results := [.lit (.bool false)], args := [d1, d2] }
  | _ => none }
def FnExactSomeVarWrongFalsely : Prop := fnExactSomeVarRow.holds Try.pinned (OpenSpec.ofChange fnExactSomeVarWrong)

/-- 'laws.FnExactAllVar': WHATEVER THE INPUT: true; the input reads as it did. -/
def fnExactAllVarSpec : ChangeSpec := { name := "fnExactAllVar", fn := fun _ => fun
  | [d1, d2] => { results := [.lit (.bool true)], args := [d1, d2] }
  | _ => none }
def fnExactAllVarRow : OpenClaim := { program := "ytiaidahhlnaabaa", sum := "9316d70495d31bcb4aa75fbdfad4144467c02da457713c745a4b4cbf927b1b8f", func := "loop.example/productprograms/laws.FnExactAllVar", spec := "fnExactAllVar", inPlace := ["internal/bytealg.IndexByteString", "internal/bytealg.IndexString"], unfollowed := true, recurses := true, named := ["internal/bytealg.MaxLen"], apart := false }
def FnExactAllVarSaid : Prop := fnExactAllVarRow.holds Try.pinned (OpenSpec.ofChange fnExactAllVarSpec)

/-- ITS FALSE NEIGHBOUR: 'it returns false'. Refute it at one input. -/
def fnExactAllVarWrong : ChangeSpec := { name := "fnExactAllVar", fn := fun _ => fun
  | [d1, d2] => { results := [.lit (.bool false)], args := [d1, d2] }
  | _ => none }
def FnExactAllVarWrongFalsely : Prop := fnExactAllVarRow.holds Try.pinned (OpenSpec.ofChange fnExactAllVarWrong)

/- THE SECOND FORM. 'bulk': how many values and letters a reading holds, each counted each time it is reached (what is shared counts as often as it is met; a slice's spare places count too). A statement '..UptoSaid' is the law's where the arguments, and the package variables that the reading takes, are together of bulk at most 1048576: NARROWER than '..Said'. Prove '..Said' where nothing that the law and all that it calls make is longer than what came in: it says more and counts as full. Else prove '..UptoSaid'. A law counts once. -/
mutual
def uptoBulk {H : Type} : DataW H → Nat
  | .lit (.string bytes) => bytes.length + 1
  | .lit _ => 1
  | .nil => 1
  | .ptr d => uptoBulk d + 1
  | .slice elems spare => uptoBulkAll elems + uptoBulkAll spare + 1
  | .agg parts => uptoBulkAll parts + 1
  | .iface _ d => uptoBulk d + 1
  | .map entries => uptoBulkEntries entries + 1
  | .held _ => 1
def uptoBulkAll {H : Type} : List (DataW H) → Nat
  | [] => 0
  | d :: r => uptoBulk d + uptoBulkAll r
def uptoBulkEntries {H : Type} : List (Lit × DataW H) → Nat
  | [] => 0
  | x :: r => uptoBulkEntry x + uptoBulkEntries r
def uptoBulkEntry {H : Type} : Lit × DataW H → Nat
  | (.string bytes, d) => bytes.length + uptoBulk d + 1
  | (_, d) => uptoBulk d + 1
 end
def uptoSmall : (H : Type) → List (DataW H) → Bool := fun _ ds => decide (uptoBulkAll ds ≤ 1048576)
def OpenSpec.upto (s : _root_.Go.ChangeSpec) : _root_.Go.OpenSpec := { _root_.Go.OpenSpec.ofChange s with cond := some uptoSmall }

/-- 'laws.FnExactPredOf', WHERE WHAT IT READS IS OF BULK AT MOST 1048576: true; the input reads as it did. -/
def fnExactPredOfUptoRow : OpenClaim := { program := "ytiaidahhlnaabaa", sum := "9316d70495d31bcb4aa75fbdfad4144467c02da457713c745a4b4cbf927b1b8f", func := "loop.example/productprograms/laws.FnExactPredOf", spec := "fnExactPredOf", unfollowed := true, recurses := true, apart := false, narrowed := true }
def FnExactPredOfUptoSaid : Prop := fnExactPredOfUptoRow.holds Try.pinned (OpenSpec.upto fnExactPredOfSpec)

/-- 'laws.FnExactPredVars', WHERE WHAT IT READS IS OF BULK AT MOST 1048576: true; the input reads as it did. -/
def fnExactPredVarsUptoRow : OpenClaim := { program := "ytiaidahhlnaabaa", sum := "9316d70495d31bcb4aa75fbdfad4144467c02da457713c745a4b4cbf927b1b8f", func := "loop.example/productprograms/laws.FnExactPredVars", spec := "fnExactPredVars", inPlace := ["internal/bytealg.IndexByteString", "internal/bytealg.IndexString"], unfollowed := true, recurses := true, named := ["internal/bytealg.MaxLen"], apart := false, narrowed := true }
def FnExactPredVarsUptoSaid : Prop := fnExactPredVarsUptoRow.holds Try.pinned (OpenSpec.upto fnExactPredVarsSpec)

/-- 'laws.FnExactAssignPre', WHERE WHAT IT READS IS OF BULK AT MOST 1048576: true; the input reads as it did. -/
def fnExactAssignPreUptoRow : OpenClaim := { program := "ytiaidahhlnaabaa", sum := "9316d70495d31bcb4aa75fbdfad4144467c02da457713c745a4b4cbf927b1b8f", func := "loop.example/productprograms/laws.FnExactAssignPre", spec := "fnExactAssignPre", inPlace := ["internal/bytealg.IndexByteString", "internal/bytealg.IndexString"], unfollowed := true, recurses := true, named := ["internal/bytealg.MaxLen"], apart := false, narrowed := true }
def FnExactAssignPreUptoSaid : Prop := fnExactAssignPreUptoRow.holds Try.pinned (OpenSpec.upto fnExactAssignPreSpec)

/-- 'laws.FnExactAssignPost', WHERE WHAT IT READS IS OF BULK AT MOST 1048576: true; the input reads as it did. -/
def fnExactAssignPostUptoRow : OpenClaim := { program := "ytiaidahhlnaabaa", sum := "9316d70495d31bcb4aa75fbdfad4144467c02da457713c745a4b4cbf927b1b8f", func := "loop.example/productprograms/laws.FnExactAssignPost", spec := "fnExactAssignPost", inPlace := ["internal/bytealg.IndexByteString", "internal/bytealg.IndexString"], unfollowed := true, recurses := true, named := ["internal/bytealg.MaxLen"], apart := false, narrowed := true }
def FnExactAssignPostUptoSaid : Prop := fnExactAssignPostUptoRow.holds Try.pinned (OpenSpec.upto fnExactAssignPostSpec)

/-- 'laws.FnExactSomeVar', WHERE WHAT IT READS IS OF BULK AT MOST 1048576: true; the input reads as it did. -/
def fnExactSomeVarUptoRow : OpenClaim := { program := "ytiaidahhlnaabaa", sum := "9316d70495d31bcb4aa75fbdfad4144467c02da457713c745a4b4cbf927b1b8f", func := "loop.example/productprograms/laws.FnExactSomeVar", spec := "fnExactSomeVar", inPlace := ["internal/bytealg.IndexByteString", "internal/bytealg.IndexString"], unfollowed := true, recurses := true, named := ["internal/bytealg.MaxLen"], apart := false, narrowed := true }
def FnExactSomeVarUptoSaid : Prop := fnExactSomeVarUptoRow.holds Try.pinned (OpenSpec.upto fnExactSomeVarSpec)

/-- 'laws.FnExactAllVar', WHERE WHAT IT READS IS OF BULK AT MOST 1048576: true; the input reads as it did. -/
def fnExactAllVarUptoRow : OpenClaim := { program := "ytiaidahhlnaabaa", sum := "9316d70495d31bcb4aa75fbdfad4144467c02da457713c745a4b4cbf927b1b8f", func := "loop.example/productprograms/laws.FnExactAllVar", spec := "fnExactAllVar", inPlace := ["internal/bytealg.IndexByteString", "internal/bytealg.IndexString"], unfollowed := true, recurses := true, named := ["internal/bytealg.MaxLen"], apart := false, narrowed := true }
def FnExactAllVarUptoSaid : Prop := fnExactAllVarUptoRow.holds Try.pinned (OpenSpec.upto fnExactAllVarSpec)

end Rows
end Go.Proofs.Ytiaidahhlnaabaa
