/-
  No cell of these rows narrows 'for every input' (looked for: loops, veiled, ifaces, maps, wideKeys, modest, calm, conditions, laid).
  DERIVED. THE GIVEN ROWS OF THIS SEAT. 2 by the template 'for every input the law returns true; each argument reads behind the call as it read before'; 0 by the template 'total and deterministic' (their statements: YtgkoljphndgoeaaTotals.lean).
  GIVEN WITH THE SEED: the statements are not yours to turn. If you find one false, say at which input.
  Laid BY PROGRAM, IN A SANDBOX (cutbox-rows.mjs): the forced cells as the released guide's own fill.sh prints them over the translation 3d974307af076fcc… (all of the seat's roots in one cut). By AI agents, Wed Nov 11 2026. No macro, syntax, notation, axiom, sorry.
-/
import Derived.Test.YtgkoljphndgoeaaChecked
import GoSem.Claim
import GoSem.ClaimJoined
import GoSem.ClaimMapViews
import Derived.JoinedTies
import Derived.KernelRfl
namespace Go.Proofs.Ytgkoljphndgoeaa
/- THE CELL 'sum', in the pinned program and in every row, IS THE sha256 OF THE DUMP (.gsa) THAT YtgkoljphndgoeaaProg.lean LOADS. Nothing in Lean hashes anything: it is a label: what it is worth is what the hold of that sum in a sandbox is worth. -/
noncomputable def Try.pinned : Pinned := { name := "ytgkoljphndgoeaa", sum := "3d974307af076fccf0b1af40a35f6036ba8c906a6d65696ab397f1593e1de079", checked := Try.checked }
namespace Rows
def none {H : Type} : Left H := { results := [], args := [] }

/-- 'laws.FnExactFormatStates': WHATEVER THE INPUT: true; the input reads as it did. -/
def fnExactFormatStatesSpec : ChangeSpec := { name := "fnExactFormatStates", fn := fun _ => fun
  | [d] => { results := [.lit (.bool true)], args := [d] }
  | _ => none }
def fnExactFormatStatesRow : OpenClaim := { program := "ytgkoljphndgoeaa", sum := "3d974307af076fccf0b1af40a35f6036ba8c906a6d65696ab397f1593e1de079", func := "loop.example/productprograms/laws.FnExactFormatStates", spec := "fnExactFormatStates", inPlace := ["internal/abi.NoEscape", "internal/bytealg.MakeNoZero"], recurses := true, apart := false }
def FnExactFormatStatesSaid : Prop := fnExactFormatStatesRow.holds Try.pinned (OpenSpec.ofChange fnExactFormatStatesSpec)

/-- ITS FALSE NEIGHBOUR: 'it returns false'. Refute it at one input. -/
def fnExactFormatStatesWrong : ChangeSpec := { name := "fnExactFormatStates", fn := fun _ => fun
  | [d] => { results := [.lit (.bool false)], args := [d] }
  | _ => none }
def FnExactFormatStatesWrongFalsely : Prop := fnExactFormatStatesRow.holds Try.pinned (OpenSpec.ofChange fnExactFormatStatesWrong)

/-- 'laws.FnFormatStates': WHATEVER THE INPUT: true; the input reads as it did. -/
def fnFormatStatesSpec : ChangeSpec := { name := "fnFormatStates", fn := fun _ => fun
  | [d] => { results := [.lit (.bool true)], args := [d] }
  | _ => none }
def fnFormatStatesRow : OpenClaim := { program := "ytgkoljphndgoeaa", sum := "3d974307af076fccf0b1af40a35f6036ba8c906a6d65696ab397f1593e1de079", func := "loop.example/productprograms/laws.FnFormatStates", spec := "fnFormatStates", inPlace := ["internal/abi.NoEscape", "internal/bytealg.MakeNoZero"], recurses := true, apart := false }
def FnFormatStatesSaid : Prop := fnFormatStatesRow.holds Try.pinned (OpenSpec.ofChange fnFormatStatesSpec)

/-- ITS FALSE NEIGHBOUR: 'it returns false'. Refute it at one input. -/
def fnFormatStatesWrong : ChangeSpec := { name := "fnFormatStates", fn := fun _ => fun
  | [d] => { results := [.lit (.bool false)], args := [d] }
  | _ => none }
def FnFormatStatesWrongFalsely : Prop := fnFormatStatesRow.holds Try.pinned (OpenSpec.ofChange fnFormatStatesWrong)

/- THE SECOND FORM. 'bulk': how many values and letters a reading holds, each counted each time it is reached (what is shared counts as often as it is met; a slice's spare places count too). A statement '..UptoSaid' is the law's where the arguments, and the package variables that the reading takes, are together of bulk at most 1048576: NARROWER than '..Said'. Prove '..Said' where nothing that the law and all that it calls make is longer than what came in: it says more and counts as full. Else prove '..UptoSaid'. A law counts once. -/
mutual
def uptoBulk {H : Type} : DataW H → Nat
  | .lit (.string bytes) => bytes.length + 1
  | .lit _ => 1
  | .nil => 1
  | .ptr d => uptoBulk d + 1
  | .slice elems spare => uptoBulkAll elems + uptoBulkAll spare + 1
  | .agg parts => uptoBulkAll parts + 1
  | .iface _ d => uptoBulk d + 1
  | .map entries => uptoBulkEntries entries + 1
  | .held _ => 1
def uptoBulkAll {H : Type} : List (DataW H) → Nat
  | [] => 0
  | d :: r => uptoBulk d + uptoBulkAll r
def uptoBulkEntries {H : Type} : List (Lit × DataW H) → Nat
  | [] => 0
  | x :: r => uptoBulkEntry x + uptoBulkEntries r
def uptoBulkEntry {H : Type} : Lit × DataW H → Nat
  | (.string bytes, d) => bytes.length + uptoBulk d + 1
  | (_, d) => uptoBulk d + 1
 end
def uptoSmall : (H : Type) → List (DataW H) → Bool := fun _ ds => decide (uptoBulkAll ds ≤ 1048576)
def OpenSpec.upto (s : _root_.Go.ChangeSpec) : _root_.Go.OpenSpec := { _root_.Go.OpenSpec.ofChange s with cond := some uptoSmall }

/-- 'laws.FnExactFormatStates', WHERE WHAT IT READS IS OF BULK AT MOST 1048576: true; the input reads as it did. -/
def fnExactFormatStatesUptoRow : OpenClaim := { program := "ytgkoljphndgoeaa", sum := "3d974307af076fccf0b1af40a35f6036ba8c906a6d65696ab397f1593e1de079", func := "loop.example/productprograms/laws.FnExactFormatStates", spec := "fnExactFormatStates", inPlace := ["internal/abi.NoEscape", "internal/bytealg.MakeNoZero"], recurses := true, apart := false, narrowed := true }
def FnExactFormatStatesUptoSaid : Prop := fnExactFormatStatesUptoRow.holds Try.pinned (OpenSpec.upto fnExactFormatStatesSpec)

/-- 'laws.FnFormatStates', WHERE WHAT IT READS IS OF BULK AT MOST 1048576: true; the input reads as it did. -/
def fnFormatStatesUptoRow : OpenClaim := { program := "ytgkoljphndgoeaa", sum := "3d974307af076fccf0b1af40a35f6036ba8c906a6d65696ab397f1593e1de079", func := "loop.example/productprograms/laws.FnFormatStates", spec := "fnFormatStates", inPlace := ["internal/abi.NoEscape", "internal/bytealg.MakeNoZero"], recurses := true, apart := false, narrowed := true }
def FnFormatStatesUptoSaid : Prop := fnFormatStatesUptoRow.holds Try.pinned (OpenSpec.upto fnFormatStatesSpec)

end Rows
end Go.Proofs.Ytgkoljphndgoeaa
