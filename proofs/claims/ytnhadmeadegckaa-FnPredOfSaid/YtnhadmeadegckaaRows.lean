/-
  No cell of these rows narrows 'for every input' (looked for: loops, veiled, ifaces, maps, wideKeys, modest, calm, conditions, laid).
  DERIVED. THE GIVEN ROWS OF THIS SEAT. 6 by the template 'for every input the law returns true; each argument reads behind the call as it read before'; 0 by the template 'total and deterministic' (their statements: YtnhadmeadegckaaTotals.lean).
  GIVEN WITH THE SEED: the statements are not yours to turn. If you find one false, say at which input.
  Laid BY PROGRAM, IN A SANDBOX (cutbox-rows.mjs): the forced cells as the released guide's own fill.sh prints them over the translation 6a212646f4c49841… (all of the seat's roots in one cut). By AI agents, Wed Nov 11 2026. No macro, syntax, notation, axiom, sorry.
-/
import Derived.Test.YtnhadmeadegckaaChecked
import GoSem.Claim
import GoSem.ClaimJoined
import GoSem.ClaimMapViews
import Derived.JoinedTies
import Derived.KernelRfl
namespace Go.Proofs.Ytnhadmeadegckaa
/- THE CELL 'sum', in the pinned program and in every row, IS THE sha256 OF THE DUMP (.gsa) THAT YtnhadmeadegckaaProg.lean LOADS. Nothing in Lean hashes anything: it is a label: what it is worth is what the hold of that sum in a sandbox is worth. -/
noncomputable def Try.pinned : Pinned := { name := "ytnhadmeadegckaa", sum := "6a212646f4c49841a943e770ba273e4e6cfc0770fd1485390de512fcbf6cb4ec", checked := Try.checked }
namespace Rows
def none {H : Type} : Left H := { results := [], args := [] }

/-- 'laws.FnPredOf': WHATEVER THE INPUT: true; the input reads as it did. -/
def fnPredOfSpec : ChangeSpec := { name := "fnPredOf", fn := fun _ => fun
  | [d] => { results := [.lit (.bool true)], args := [d] }
  | _ => none }
def fnPredOfRow : OpenClaim := { program := "ytnhadmeadegckaa", sum := "6a212646f4c49841a943e770ba273e4e6cfc0770fd1485390de512fcbf6cb4ec", func := "loop.example/productprograms/laws.FnPredOf", spec := "fnPredOf", inPlace := ["internal/bytealg.IndexByteString", "internal/bytealg.IndexString"], unfollowed := true, recurses := true, named := ["internal/bytealg.MaxLen"], apart := false }
def FnPredOfSaid : Prop := fnPredOfRow.holds Try.pinned (OpenSpec.ofChange fnPredOfSpec)

/-- ITS FALSE NEIGHBOUR: 'it returns false'. Refute it at one input. -/
def fnPredOfWrong : ChangeSpec := { name := "fnPredOf", fn := fun _ => fun
  | [d] => { results := [.lit (.bool false)], args := [d] }
  | _ => none }
def FnPredOfWrongFalsely : Prop := fnPredOfRow.holds Try.pinned (OpenSpec.ofChange fnPredOfWrong)

/-- 'laws.FnAndOr': WHATEVER THE INPUT: true; the input reads as it did. -/
def fnAndOrSpec : ChangeSpec := { name := "fnAndOr", fn := fun _ => fun
  | [d] => { results := [.lit (.bool true)], args := [d] }
  | _ => none }
def fnAndOrRow : OpenClaim := { program := "ytnhadmeadegckaa", sum := "6a212646f4c49841a943e770ba273e4e6cfc0770fd1485390de512fcbf6cb4ec", func := "loop.example/productprograms/laws.FnAndOr", spec := "fnAndOr", recurses := true, apart := false }
def FnAndOrSaid : Prop := fnAndOrRow.holds Try.pinned (OpenSpec.ofChange fnAndOrSpec)

/-- ITS FALSE NEIGHBOUR: 'it returns false'. Refute it at one input. -/
def fnAndOrWrong : ChangeSpec := { name := "fnAndOr", fn := fun _ => fun
  | [d] => { results := [.lit (.bool false)], args := [d] }
  | _ => none }
def FnAndOrWrongFalsely : Prop := fnAndOrRow.holds Try.pinned (OpenSpec.ofChange fnAndOrWrong)

/-- 'laws.FnNotPred': WHATEVER THE INPUT: true; the input reads as it did. -/
def fnNotPredSpec : ChangeSpec := { name := "fnNotPred", fn := fun _ => fun
  | [d] => { results := [.lit (.bool true)], args := [d] }
  | _ => none }
def fnNotPredRow : OpenClaim := { program := "ytnhadmeadegckaa", sum := "6a212646f4c49841a943e770ba273e4e6cfc0770fd1485390de512fcbf6cb4ec", func := "loop.example/productprograms/laws.FnNotPred", spec := "fnNotPred", inPlace := ["internal/bytealg.IndexByteString", "internal/bytealg.IndexString"], unfollowed := true, recurses := true, named := ["internal/bytealg.MaxLen"], apart := false }
def FnNotPredSaid : Prop := fnNotPredRow.holds Try.pinned (OpenSpec.ofChange fnNotPredSpec)

/-- ITS FALSE NEIGHBOUR: 'it returns false'. Refute it at one input. -/
def fnNotPredWrong : ChangeSpec := { name := "fnNotPred", fn := fun _ => fun
  | [d] => { results := [.lit (.bool false)], args := [d] }
  | _ => none }
def FnNotPredWrongFalsely : Prop := fnNotPredRow.holds Try.pinned (OpenSpec.ofChange fnNotPredWrong)

/-- 'laws.FnWithin': WHATEVER THE INPUT: true; the input reads as it did. -/
def fnWithinSpec : ChangeSpec := { name := "fnWithin", fn := fun _ => fun
  | [d] => { results := [.lit (.bool true)], args := [d] }
  | _ => none }
def fnWithinRow : OpenClaim := { program := "ytnhadmeadegckaa", sum := "6a212646f4c49841a943e770ba273e4e6cfc0770fd1485390de512fcbf6cb4ec", func := "loop.example/productprograms/laws.FnWithin", spec := "fnWithin", recurses := true, apart := false }
def FnWithinSaid : Prop := fnWithinRow.holds Try.pinned (OpenSpec.ofChange fnWithinSpec)

/-- ITS FALSE NEIGHBOUR: 'it returns false'. Refute it at one input. -/
def fnWithinWrong : ChangeSpec := { name := "fnWithin", fn := fun _ => fun
  | [d] => { results := [.lit (.bool false)], args := [d] }
  | _ => none }
def FnWithinWrongFalsely : Prop := fnWithinRow.holds Try.pinned (OpenSpec.ofChange fnWithinWrong)

/-- 'laws.FnPredVars': WHATEVER THE INPUT: true; the input reads as it did. -/
def fnPredVarsSpec : ChangeSpec := { name := "fnPredVars", fn := fun _ => fun
  | [d] => { results := [.lit (.bool true)], args := [d] }
  | _ => none }
def fnPredVarsRow : OpenClaim := { program := "ytnhadmeadegckaa", sum := "6a212646f4c49841a943e770ba273e4e6cfc0770fd1485390de512fcbf6cb4ec", func := "loop.example/productprograms/laws.FnPredVars", spec := "fnPredVars", inPlace := ["internal/bytealg.IndexByteString", "internal/bytealg.IndexString"], unfollowed := true, recurses := true, named := ["internal/bytealg.MaxLen"], apart := false }
def FnPredVarsSaid : Prop := fnPredVarsRow.holds Try.pinned (OpenSpec.ofChange fnPredVarsSpec)

/-- ITS FALSE NEIGHBOUR: 'it returns false'. Refute it at one input. -/
def fnPredVarsWrong : ChangeSpec := { name := "fnPredVars", fn := fun _ => fun
  | [d] => { results := [.lit (.bool false)], args := [d] }
  | _ => none }
def FnPredVarsWrongFalsely : Prop := fnPredVarsRow.holds Try.pinned (OpenSpec.ofChange fnPredVarsWrong)

/-- 'laws.FnQuantPred': WHATEVER THE INPUT: true; the input reads as it did. -/
def fnQuantPredSpec : ChangeSpec := { name := "fnQuantPred", fn := fun _ => fun
  | [d1, d2] => { results := [.lit (.bool true)], args := [d1, d2] }
  | _ => none }
def fnQuantPredRow : OpenClaim := { program := "ytnhadmeadegckaa", sum := "6a212646f4c49841a943e770ba273e4e6cfc0770fd1485390de512fcbf6cb4ec", func := "loop.example/productprograms/laws.FnQuantPred", spec := "fnQuantPred", inPlace := ["internal/bytealg.IndexByteString", "internal/bytealg.IndexString"], unfollowed := true, recurses := true, named := ["internal/bytealg.MaxLen"], apart := false }
def FnQuantPredSaid : Prop := fnQuantPredRow.holds Try.pinned (OpenSpec.ofChange fnQuantPredSpec)

/-- ITS FALSE NEIGHBOUR: 'it returns false'. Refute it at one input. -/
def fnQuantPredWrong : ChangeSpec := { name := "fnQuantPred", fn := fun _ => fun
  | [d1, d2] => { results := [.lit (.bool false)], args := [d1, d2] }
  | _ => none }
def FnQuantPredWrongFalsely : Prop := fnQuantPredRow.holds Try.pinned (OpenSpec.ofChange fnQuantPredWrong)

/- THE SECOND FORM. 'bulk': how many values and letters a reading holds, each counted each time it is reached (what is shared counts as often as it is met; a slice's spare places count too). A statement '..UptoSaid' is the law's where the arguments, and the package variables that the reading takes, are together of bulk at most 1048576: NARROWER than '..Said'. Prove '..Said' where nothing that the law and all that it calls make is longer than what came in: it says more and counts as full. Else prove '..UptoSaid'. A law counts once. -/
mutual
def uptoBulk {H : Type} : DataW H → Nat
  | .lit (.string bytes) => bytes.length + 1
  | .lit _ => 1
  | .nil => 1
  | .ptr d => uptoBulk d + 1
  | .slice elems spare => uptoBulkAll elems + uptoBulkAll spare + 1
  | .agg parts => uptoBulkAll parts + 1
  | .iface _ d => uptoBulk d + 1
  | .map entries => uptoBulkEntries entries + 1
  | .held _ => 1
def uptoBulkAll {H : Type} : List (DataW H) → Nat
  | [] => 0
  | d :: r => uptoBulk d + uptoBulkAll r
def uptoBulkEntries {H : Type} : List (Lit × DataW H) → Nat
  | [] => 0
  | x :: r => uptoBulkEntry x + uptoBulkEntries r
def uptoBulkEntry {H : Type} : Lit × DataW H → Nat
  | (.string bytes, d) => bytes.length + uptoBulk d + 1
  | (_, d) => uptoBulk d + 1
 end
def uptoSmall : (H : Type) → List (DataW H) → Bool := fun _ ds => decide (uptoBulkAll ds ≤ 1048576)
def OpenSpec.upto (s : _root_.Go.ChangeSpec) : _root_.Go.OpenSpec := { _root_.Go.OpenSpec.ofChange s with cond := some uptoSmall }

/-- 'laws.FnPredOf', WHERE WHAT IT READS IS OF BULK AT MOST 1048576: true; the input reads as it did. -/
def fnPredOfUptoRow : OpenClaim := { program := "ytnhadmeadegckaa", sum := "6a212646f4c49841a943e770ba273e4e6cfc0770fd1485390de512fcbf6cb4ec", func := "loop.example/productprograms/laws.FnPredOf", spec := "fnPredOf", inPlace := ["internal/bytealg.IndexByteString", "internal/bytealg.IndexString"], unfollowed := true, recurses := true, named := ["internal/bytealg.MaxLen"], apart := false, narrowed := true }
def FnPredOfUptoSaid : Prop := fnPredOfUptoRow.holds Try.pinned (OpenSpec.upto fnPredOfSpec)

/-- 'laws.FnAndOr', WHERE WHAT IT READS IS OF BULK AT MOST 1048576: true; the input reads as it did. -/
def fnAndOrUptoRow : OpenClaim := { program := "ytnhadmeadegckaa", sum := "6a212646f4c49841a943e770ba273e4e6cfc0770fd1485390de512fcbf6cb4ec", func := "loop.example/productprograms/laws.FnAndOr", spec := "fnAndOr", recurses := true, apart := false, narrowed := true }
def FnAndOrUptoSaid : Prop := fnAndOrUptoRow.holds Try.pinned (OpenSpec.upto fnAndOrSpec)

/-- 'laws.FnNotPred', WHERE WHAT IT READS IS OF BULK AT MOST 1048576: true; the input reads as it did. -/
def fnNotPredUptoRow : OpenClaim := { program := "ytnhadmeadegckaa", sum := "6a212646f4c49841a943e770ba273e4e6cfc0770fd1485390de512fcbf6cb4ec", func := "loop.example/productprograms/laws.FnNotPred", spec := "fnNotPred", inPlace := ["internal/bytealg.IndexByteString", "internal/bytealg.IndexString"], unfollowed := true, recurses := true, named := ["internal/bytealg.MaxLen"], apart := false, narrowed := true }
def FnNotPredUptoSaid : Prop := fnNotPredUptoRow.holds Try.pinned (OpenSpec.upto fnNotPredSpec)

/-- 'laws.FnWithin', WHERE WHAT IT READS IS OF BULK AT MOST 1048576: true; the input reads as it did. -/
def fnWithinUptoRow : OpenClaim := { program := "ytnhadmeadegckaa", sum := "6a212646f4c49841a943e770ba273e4e6cfc0770fd1485390de512fcbf6cb4ec", func := "loop.example/productprograms/laws.FnWithin", spec := "fnWithin", recurses := true, apart := false, narrowed := true }
def FnWithinUptoSaid : Prop := fnWithinUptoRow.holds Try.pinned (OpenSpec.upto fnWithinSpec)

/-- 'laws.FnPredVars', WHERE WHAT IT READS IS OF BULK AT MOST 1048576: true; the input reads as it did. -/
def fnPredVarsUptoRow : OpenClaim := { program := "ytnhadmeadegckaa", sum := "6a212646f4c49841a943e770ba273e4e6cfc0770fd1485390de512fcbf6cb4ec", func := "loop.example/productprograms/laws.FnPredVars", spec := "fnPredVars", inPlace := ["internal/bytealg.IndexByteString", "internal/bytealg.IndexString"], unfollowed := true, recurses := true, named := ["internal/bytealg.MaxLen"], apart := false, narrowed := true }
def FnPredVarsUptoSaid : Prop := fnPredVarsUptoRow.holds Try.pinned (OpenSpec.upto fnPredVarsSpec)

/-- 'laws.FnQuantPred', WHERE WHAT IT READS IS OF BULK AT MOST 1048576: true; the input reads as it did. -/
def fnQuantPredUptoRow : OpenClaim := { program := "ytnhadmeadegckaa", sum := "6a212646f4c49841a943e770ba273e4e6cfc0770fd1485390de512fcbf6cb4ec", func := "loop.example/productprograms/laws.FnQuantPred", spec := "fnQuantPred", inPlace := ["internal/bytealg.IndexByteString", "internal/bytealg.IndexString"], unfollowed := true, recurses := true, named := ["internal/bytealg.MaxLen"], apart := false, narrowed := true }
def FnQuantPredUptoSaid : Prop := fnQuantPredUptoRow.holds Try.pinned (OpenSpec.upto fnQuantPredSpec)

end Rows
end Go.Proofs.Ytnhadmeadegckaa
