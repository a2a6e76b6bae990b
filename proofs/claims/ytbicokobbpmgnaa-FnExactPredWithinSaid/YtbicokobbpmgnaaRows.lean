/-
  No cell of these rows narrows 'for every input' (looked for: loops, veiled, ifaces, maps, wideKeys, modest, calm, conditions, laid).
  DERIVED. THE GIVEN ROWS OF THIS SEAT. 7 by the template 'for every input the law returns true; each argument reads behind the call as it read before'; 0 by the template 'total and deterministic' (their statements: YtbicokobbpmgnaaTotals.lean).
  GIVEN WITH THE SEED: the statements are not yours to turn. If you find one false, say at which input.
  Laid BY PROGRAM, IN A SANDBOX (cutbox-rows.mjs): the forced cells as the released guide's own fill.sh prints them over the translation 29a6b2ebdb88b141… (all of the seat's roots in one cut). By AI agents, Wed Nov 11 2026. No macro, syntax, notation, axiom, sorry.
-/
import Derived.Test.YtbicokobbpmgnaaChecked
import GoSem.Claim
import GoSem.ClaimJoined
import GoSem.ClaimMapViews
import Derived.JoinedTies
import Derived.KernelRfl
namespace Go.Proofs.Ytbicokobbpmgnaa
/- THE CELL 'sum', in the pinned program and in every row, IS THE sha256 OF THE DUMP (.gsa) THAT YtbicokobbpmgnaaProg.lean LOADS. Nothing in Lean hashes anything: it is a label: what it is worth is what the hold of that sum in a sandbox is worth. -/
noncomputable def Try.pinned : Pinned := { name := "ytbicokobbpmgnaa", sum := "29a6b2ebdb88b141f95cd257136ef05c16a43a1cfae1590e892ecd5915e437ca", checked := Try.checked }
namespace Rows
def none {H : Type} : Left H := { results := [], args := [] }

/-- 'laws.FnExactPredValid': WHATEVER THE INPUT: true; the input reads as it did. -/
def fnExactPredValidSpec : ChangeSpec := { name := "fnExactPredValid", fn := fun _ => fun
  | [d] => { results := [.lit (.bool true)], args := [d] }
  | _ => none }
def fnExactPredValidRow : OpenClaim := { program := "ytbicokobbpmgnaa", sum := "29a6b2ebdb88b141f95cd257136ef05c16a43a1cfae1590e892ecd5915e437ca", func := "loop.example/productprograms/laws.FnExactPredValid", spec := "fnExactPredValid", apart := false }
def FnExactPredValidSaid : Prop := fnExactPredValidRow.holds Try.pinned (OpenSpec.ofChange fnExactPredValidSpec)

/-- ITS FALSE NEIGHBOUR: 'it returns false'. Refute it at one input. -/
def fnExactPredValidWrong : ChangeSpec := { name := "fnExactPredValid", fn := fun _ => fun
  | [d] => { results := [.lit (.bool false)], args := [d] }
  | _ => none }
def FnExactPredValidWrongFalsely : Prop := fnExactPredValidRow.holds Try.pinned (OpenSpec.ofChange fnExactPredValidWrong)

/-- 'laws.FnExactHasState': WHATEVER THE INPUT: true; the input reads as it did. -/
def fnExactHasStateSpec : ChangeSpec := { name := "fnExactHasState", fn := fun _ => fun
  | [d1, d2] => { results := [.lit (.bool true)], args := [d1, d2] }
  | _ => none }
def fnExactHasStateRow : OpenClaim := { program := "ytbicokobbpmgnaa", sum := "29a6b2ebdb88b141f95cd257136ef05c16a43a1cfae1590e892ecd5915e437ca", func := "loop.example/productprograms/laws.FnExactHasState", spec := "fnExactHasState", apart := false }
def FnExactHasStateSaid : Prop := fnExactHasStateRow.holds Try.pinned (OpenSpec.ofChange fnExactHasStateSpec)

/-- ITS FALSE NEIGHBOUR: 'it returns false'. Refute it at one input. -/
def fnExactHasStateWrong : ChangeSpec := { name := "fnExactHasState", fn := fun _ => fun
  | [d1, d2] => { results := [.lit (.bool false)], args := [d1, d2] }
  | _ => none }
def FnExactHasStateWrongFalsely : Prop := fnExactHasStateRow.holds Try.pinned (OpenSpec.ofChange fnExactHasStateWrong)

/-- 'laws.FnExactAndPred': WHATEVER THE INPUT: true; the input reads as it did. -/
def fnExactAndPredSpec : ChangeSpec := { name := "fnExactAndPred", fn := fun _ => fun
  | [d1, d2] => { results := [.lit (.bool true)], args := [d1, d2] }
  | _ => none }
def fnExactAndPredRow : OpenClaim := { program := "ytbicokobbpmgnaa", sum := "29a6b2ebdb88b141f95cd257136ef05c16a43a1cfae1590e892ecd5915e437ca", func := "loop.example/productprograms/laws.FnExactAndPred", spec := "fnExactAndPred", apart := false }
def FnExactAndPredSaid : Prop := fnExactAndPredRow.holds Try.pinned (OpenSpec.ofChange fnExactAndPredSpec)

/-- ITS FALSE NEIGHBOUR: 'it returns false'. Refute it at one input. -/
def fnExactAndPredWrong : ChangeSpec := { name := "fnExactAndPred", fn := fun _ => fun
  | [d1, d2] => { results := [.lit (.bool false)], args := [d1, d2] }
  | _ => none }
def FnExactAndPredWrongFalsely : Prop := fnExactAndPredRow.holds Try.pinned (OpenSpec.ofChange fnExactAndPredWrong)

/-- 'laws.FnExactOrPred': WHATEVER THE INPUT: true; the input reads as it did. -/
def fnExactOrPredSpec : ChangeSpec := { name := "fnExactOrPred", fn := fun _ => fun
  | [d1, d2] => { results := [.lit (.bool true)], args := [d1, d2] }
  | _ => none }
def fnExactOrPredRow : OpenClaim := { program := "ytbicokobbpmgnaa", sum := "29a6b2ebdb88b141f95cd257136ef05c16a43a1cfae1590e892ecd5915e437ca", func := "loop.example/productprograms/laws.FnExactOrPred", spec := "fnExactOrPred", apart := false }
def FnExactOrPredSaid : Prop := fnExactOrPredRow.holds Try.pinned (OpenSpec.ofChange fnExactOrPredSpec)

/-- ITS FALSE NEIGHBOUR: 'it returns false'. Refute it at one input. -/
def fnExactOrPredWrong : ChangeSpec := { name := "fnExactOrPred", fn := fun _ => fun
  | [d1, d2] => { results := [.lit (.bool false)], args := [d1, d2] }
  | _ => none }
def FnExactOrPredWrongFalsely : Prop := fnExactOrPredRow.holds Try.pinned (OpenSpec.ofChange fnExactOrPredWrong)

/-- 'laws.FnExactNotPred': WHATEVER THE INPUT: true; the input reads as it did. -/
def fnExactNotPredSpec : ChangeSpec := { name := "fnExactNotPred", fn := fun _ => fun
  | [d] => { results := [.lit (.bool true)], args := [d] }
  | _ => none }
def fnExactNotPredRow : OpenClaim := { program := "ytbicokobbpmgnaa", sum := "29a6b2ebdb88b141f95cd257136ef05c16a43a1cfae1590e892ecd5915e437ca", func := "loop.example/productprograms/laws.FnExactNotPred", spec := "fnExactNotPred", apart := false }
def FnExactNotPredSaid : Prop := fnExactNotPredRow.holds Try.pinned (OpenSpec.ofChange fnExactNotPredSpec)

/-- ITS FALSE NEIGHBOUR: 'it returns false'. Refute it at one input. -/
def fnExactNotPredWrong : ChangeSpec := { name := "fnExactNotPred", fn := fun _ => fun
  | [d] => { results := [.lit (.bool false)], args := [d] }
  | _ => none }
def FnExactNotPredWrongFalsely : Prop := fnExactNotPredRow.holds Try.pinned (OpenSpec.ofChange fnExactNotPredWrong)

/-- 'laws.FnExactPredWithin': WHATEVER THE INPUT: true; the input reads as it did. -/
def fnExactPredWithinSpec : ChangeSpec := { name := "fnExactPredWithin", fn := fun _ => fun
  | [d1, d2] => { results := [.lit (.bool true)], args := [d1, d2] }
  | _ => none }
def fnExactPredWithinRow : OpenClaim := { program := "ytbicokobbpmgnaa", sum := "29a6b2ebdb88b141f95cd257136ef05c16a43a1cfae1590e892ecd5915e437ca", func := "loop.example/productprograms/laws.FnExactPredWithin", spec := "fnExactPredWithin", apart := false }
def FnExactPredWithinSaid : Prop := fnExactPredWithinRow.holds Try.pinned (OpenSpec.ofChange fnExactPredWithinSpec)

/-- ITS FALSE NEIGHBOUR: 'it returns false'. Refute it at one input. -/
def fnExactPredWithinWrong : ChangeSpec := { name := "fnExactPredWithin", fn := fun _ => fun
  | [d1, d2] => { results := [.lit (.bool false)], args := [d1, d2] }
  | _ => none }
def FnExactPredWithinWrongFalsely : Prop := fnExactPredWithinRow.holds Try.pinned (OpenSpec.ofChange fnExactPredWithinWrong)

/-- 'laws.FnExactCountPred': WHATEVER THE INPUT: true; the input reads as it did. -/
def fnExactCountPredSpec : ChangeSpec := { name := "fnExactCountPred", fn := fun _ => fun
  | [d] => { results := [.lit (.bool true)], args := [d] }
  | _ => none }
def fnExactCountPredRow : OpenClaim := { program := "ytbicokobbpmgnaa", sum := "29a6b2ebdb88b141f95cd257136ef05c16a43a1cfae1590e892ecd5915e437ca", func := "loop.example/productprograms/laws.FnExactCountPred", spec := "fnExactCountPred", apart := false }
def FnExactCountPredSaid : Prop := fnExactCountPredRow.holds Try.pinned (OpenSpec.ofChange fnExactCountPredSpec)

/-- ITS FALSE NEIGHBOUR: 'it returns false'. Refute it at one input. -/
def fnExactCountPredWrong : ChangeSpec := { name := "fnExactCountPred", fn := fun _ => fun
  | [d] => { results := [.lit (.bool false)], args := [d] }
  | _ => none }
def FnExactCountPredWrongFalsely : Prop := fnExactCountPredRow.holds Try.pinned (OpenSpec.ofChange fnExactCountPredWrong)

/- THE SECOND FORM. 'bulk': how many values and letters a reading holds, each counted each time it is reached (what is shared counts as often as it is met; a slice's spare places count too). A statement '..UptoSaid' is the law's where the arguments, and the package variables that the reading takes, are together of bulk at most 1048576: NARROWER than '..Said'. Prove '..Said' where nothing that the law and all that it calls make is longer than what came in: it says more and counts as full. Else prove '..UptoSaid'. A law counts once. -/
mutual
def uptoBulk {H : Type} : DataW H → Nat
  | .lit (.string bytes) => bytes.length + 1
  | .lit _ => 1
  | .nil => 1
  | .ptr d => uptoBulk d + 1
  | .slice elems spare => uptoBulkAll elems + uptoBulkAll spare + 1
  | .agg parts => uptoBulkAll parts + 1
  | .iface _ d => uptoBulk d + 1
  | .map entries => uptoBulkEntries entries + 1
  | .held _ => 1
def uptoBulkAll {H : Type} : List (DataW H) → Nat
  | [] => 0
  | d :: r => uptoBulk d + uptoBulkAll r
def uptoBulkEntries {H : Type} : List (Lit × DataW H) → Nat
  | [] => 0
  | x :: r => uptoBulkEntry x + uptoBulkEntries r
def uptoBulkEntry {H : Type} : Lit × DataW H → Nat
  | (.string bytes, d) => bytes.length + uptoBulk d + 1
  | (_, d) => uptoBulk d + 1
 end
def uptoSmall : (H : Type) → List (DataW H) → Bool := fun _ ds => decide (uptoBulkAll ds ≤ 1048576)
def OpenSpec.upto (s : _root_.Go.ChangeSpec) : _root_.Go.OpenSpec := { _root_.Go.OpenSpec.ofChange s with cond := some uptoSmall }

/-- 'laws.FnExactPredValid', WHERE WHAT IT READS IS OF BULK AT MOST 1048576: true; the input reads as it did. -/
def fnExactPredValidUptoRow : OpenClaim := { program := "ytbicokobbpmgnaa", sum := "29a6b2ebdb88b141f95cd257136ef05c16a43a1cfae1590e892ecd5915e437ca", func := "loop.example/productprograms/laws.FnExactPredValid", spec := "fnExactPredValid", apart := false, narrowed := true }
def FnExactPredValidUptoSaid : Prop := fnExactPredValidUptoRow.holds Try.pinned (OpenSpec.upto fnExactPredValidSpec)

/-- 'laws.FnExactHasState', WHERE WHAT IT READS IS OF BULK AT MOST 1048576: true; the input reads as it did. -/
def fnExactHasStateUptoRow : OpenClaim := { program := "ytbicokobbpmgnaa", sum := "29a6b2ebdb88b141f95cd257136ef05c16a43a1cfae1590e892ecd5915e437ca", func := "loop.example/productprograms/laws.FnExactHasState", spec := "fnExactHasState", apart := false, narrowed := true }
def FnExactHasStateUptoSaid : Prop := fnExactHasStateUptoRow.holds Try.pinned (OpenSpec.upto fnExactHasStateSpec)

/-- 'laws.FnExactAndPred', WHERE WHAT IT READS IS OF BULK AT MOST 1048576: true; the input reads as it did. -/
def fnExactAndPredUptoRow : OpenClaim := { program := "ytbicokobbpmgnaa", sum := "29a6b2ebdb88b141f95cd257136ef05c16a43a1cfae1590e892ecd5915e437ca", func := "loop.example/productprograms/laws.FnExactAndPred", spec := "fnExactAndPred", apart := false, narrowed := true }
def FnExactAndPredUptoSaid : Prop := fnExactAndPredUptoRow.holds Try.pinned (OpenSpec.upto fnExactAndPredSpec)

/-- 'laws.FnExactOrPred', WHERE WHAT IT READS IS OF BULK AT MOST 1048576: true; the input reads as it did. -/
def fnExactOrPredUptoRow : OpenClaim := { program := "ytbicokobbpmgnaa", sum := "29a6b2ebdb88b141f95cd257136ef05c16a43a1cfae1590e892ecd5915e437ca", func := "loop.example/productprograms/laws.FnExactOrPred", spec := "fnExactOrPred", apart := false, narrowed := true }
def FnExactOrPredUptoSaid : Prop := fnExactOrPredUptoRow.holds Try.pinned (OpenSpec.upto fnExactOrPredSpec)

/-- 'laws.FnExactNotPred', WHERE WHAT IT READS IS OF BULK AT MOST 1048576: true; the input reads as it did. -/
def fnExactNotPredUptoRow : OpenClaim := { program := "ytbicokobbpmgnaa", sum := "29a6b2ebdb88b141f95cd257136ef05c16a43a1cfae1590e892ecd5915e437ca", func := "loop.example/productprograms/laws.FnExactNotPred", spec := "fnExactNotPred", apart := false, narrowed := true }
def FnExactNotPredUptoSaid : Prop := fnExactNotPredUptoRow.holds Try.pinned (OpenSpec.upto fnExactNotPredSpec)

/-- 'laws.FnExactPredWithin', WHERE WHAT IT READS IS OF BULK AT MOST 1048576: true; the input reads as it did. -/
def fnExactPredWithinUptoRow : OpenClaim := { program := "ytbicokobbpmgnaa", sum := "29a6b2ebdb88b141f95cd257136ef05c16a43a1cfae1590e892ecd5915e437ca", func := "loop.example/productprograms/laws.FnExactPredWithin", spec := "fnExactPredWithin", apart := false, narrowed := true }
def FnExactPredWithinUptoSaid : Prop := fnExactPredWithinUptoRow.holds Try.pinned (OpenSpec.upto fnExactPredWithinSpec)

/-- 'laws.FnExactCountPred', WHERE WHAT IT READS IS OF BULK AT MOST 1048576: true; the input reads as it did. -/
def fnExactCountPredUptoRow : OpenClaim := { program := "ytbicokobbpmgnaa", sum := "29a6b2ebdb88b141f95cd257136ef05c16a43a1cfae1590e892ecd5915e437ca", func := "loop.example/productprograms/laws.FnExactCountPred", spec := "fnExactCountPred", apart := false, narrowed := true }
def FnExactCountPredUptoSaid : Prop := fnExactCountPredUptoRow.holds Try.pinned (OpenSpec.upto fnExactCountPredSpec)

end Rows
end Go.Proofs.Ytbicokobbpmgnaa
