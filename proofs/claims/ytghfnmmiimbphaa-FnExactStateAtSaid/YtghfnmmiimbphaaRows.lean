/-
  No cell of these rows narrows 'for every input' (looked for: loops, veiled, ifaces, maps, wideKeys, modest, calm, conditions, laid).
  DERIVED. THE GIVEN ROWS OF THIS SEAT. 4 by the template 'for every input the law returns true; each argument reads behind the call as it read before'; 0 by the template 'total and deterministic' (their statements: YtghfnmmiimbphaaTotals.lean).
  GIVEN WITH THE SEED: the statements are not yours to turn. If you find one false, say at which input.
  Laid BY PROGRAM, IN A SANDBOX (cutbox-rows.mjs): the forced cells as the released guide's own fill.sh prints them over the translation 3810277ba2a6a396… (all of the seat's roots in one cut). By AI agents, Wed Nov 11 2026. No macro, syntax, notation, axiom, sorry.
-/
import Derived.Test.YtghfnmmiimbphaaChecked
import GoSem.Claim
import GoSem.ClaimJoined
import GoSem.ClaimMapViews
import Derived.JoinedTies
import Derived.KernelRfl
namespace Go.Proofs.Ytghfnmmiimbphaa
/- THE CELL 'sum', in the pinned program and in every row, IS THE sha256 OF THE DUMP (.gsa) THAT YtghfnmmiimbphaaProg.lean LOADS. Nothing in Lean hashes anything: it is a label: what it is worth is what the hold of that sum in a sandbox is worth. -/
noncomputable def Try.pinned : Pinned := { name := "ytghfnmmiimbphaa", sum := "3810277ba2a6a3965beb9c936225413e8196584476e578056b39e8b6e5c6a712", checked := Try.checked }
namespace Rows
def none {H : Type} : Left H := { results := [], args := [] }

/-- 'laws.FnExactStateIndex': WHATEVER THE INPUT: true; the input reads as it did. -/
def fnExactStateIndexSpec : ChangeSpec := { name := "fnExactStateIndex", fn := fun _ => fun
  | [d] => { results := [.lit (.bool true)], args := [d] }
  | _ => none }
def fnExactStateIndexRow : OpenClaim := { program := "ytghfnmmiimbphaa", sum := "3810277ba2a6a3965beb9c936225413e8196584476e578056b39e8b6e5c6a712", func := "loop.example/productprograms/laws.FnExactStateIndex", spec := "fnExactStateIndex", apart := false }
def FnExactStateIndexSaid : Prop := fnExactStateIndexRow.holds Try.pinned (OpenSpec.ofChange fnExactStateIndexSpec)

/-- ITS FALSE NEIGHBOUR: 'it returns false'. Refute it at one input. -/
def fnExactStateIndexWrong : ChangeSpec := { name := "fnExactStateIndex", fn := fun _ => fun
  | [d] => { results := [.lit (.bool false)], args := [d] }
  | _ => none }
def FnExactStateIndexWrongFalsely : Prop := fnExactStateIndexRow.holds Try.pinned (OpenSpec.ofChange fnExactStateIndexWrong)

/-- 'laws.FnExactStateAt': WHATEVER THE INPUT: true; the input reads as it did. -/
def fnExactStateAtSpec : ChangeSpec := { name := "fnExactStateAt", fn := fun _ => fun
  | [d] => { results := [.lit (.bool true)], args := [d] }
  | _ => none }
def fnExactStateAtRow : OpenClaim := { program := "ytghfnmmiimbphaa", sum := "3810277ba2a6a3965beb9c936225413e8196584476e578056b39e8b6e5c6a712", func := "loop.example/productprograms/laws.FnExactStateAt", spec := "fnExactStateAt", apart := false }
def FnExactStateAtSaid : Prop := fnExactStateAtRow.holds Try.pinned (OpenSpec.ofChange fnExactStateAtSpec)

/-- ITS FALSE NEIGHBOUR: 'it returns false'. Refute it at one input. -/
def fnExactStateAtWrong : ChangeSpec := { name := "fnExactStateAt", fn := fun _ => fun
  | [d] => { results := [.lit (.bool false)], args := [d] }
  | _ => none }
def FnExactStateAtWrongFalsely : Prop := fnExactStateAtRow.holds Try.pinned (OpenSpec.ofChange fnExactStateAtWrong)

/-- 'laws.FnExactFormatState': WHATEVER THE INPUT: true; the input reads as it did. -/
def fnExactFormatStateSpec : ChangeSpec := { name := "fnExactFormatState", fn := fun _ => fun
  | [d] => { results := [.lit (.bool true)], args := [d] }
  | _ => none }
def fnExactFormatStateRow : OpenClaim := { program := "ytghfnmmiimbphaa", sum := "3810277ba2a6a3965beb9c936225413e8196584476e578056b39e8b6e5c6a712", func := "loop.example/productprograms/laws.FnExactFormatState", spec := "fnExactFormatState", recurses := true, apart := false }
def FnExactFormatStateSaid : Prop := fnExactFormatStateRow.holds Try.pinned (OpenSpec.ofChange fnExactFormatStateSpec)

/-- ITS FALSE NEIGHBOUR: 'it returns false'. Refute it at one input. -/
def fnExactFormatStateWrong : ChangeSpec := { name := "fnExactFormatState", fn := fun _ => fun
  | [d] => { results := [.lit (.bool false)], args := [d] }
  | _ => none }
def FnExactFormatStateWrongFalsely : Prop := fnExactFormatStateRow.holds Try.pinned (OpenSpec.ofChange fnExactFormatStateWrong)

/-- 'laws.FnExactParseState': WHATEVER THE INPUT: true; the input reads as it did. -/
def fnExactParseStateSpec : ChangeSpec := { name := "fnExactParseState", fn := fun _ => fun
  | [d] => { results := [.lit (.bool true)], args := [d] }
  | _ => none }
def fnExactParseStateRow : OpenClaim := { program := "ytghfnmmiimbphaa", sum := "3810277ba2a6a3965beb9c936225413e8196584476e578056b39e8b6e5c6a712", func := "loop.example/productprograms/laws.FnExactParseState", spec := "fnExactParseState", recurses := true, apart := false }
def FnExactParseStateSaid : Prop := fnExactParseStateRow.holds Try.pinned (OpenSpec.ofChange fnExactParseStateSpec)

/-- ITS FALSE NEIGHBOUR: 'it returns false'. Refute it at one input. -/
def fnExactParseStateWrong : ChangeSpec := { name := "fnExactParseState", fn := fun _ => fun
  | [d] => { results := [.lit (.bool false)], args := [d] }
  | _ => none }
def FnExactParseStateWrongFalsely : Prop := fnExactParseStateRow.holds Try.pinned (OpenSpec.ofChange fnExactParseStateWrong)

/- THE SECOND FORM. 'bulk': how many values and letters a reading holds, each counted each time it is reached (what is shared counts as often as it is met; a slice's spare places count too). A statement '..UptoSaid' is the law's where the arguments, and the package variables that the reading takes, are together of bulk at most 1048576: NARROWER than '..Said'. Prove '..Said' where nothing that the law and all that it calls make is longer than what came in: it says more and counts as full. Else prove '..UptoSaid'. A law counts once. -/
mutual
def uptoBulk {H : Type} : DataW H → Nat
  | .lit (.string bytes) => bytes.length + 1
  | .lit _ => 1
  | .nil => 1
  | .ptr d => uptoBulk d + 1
  | .slice elems spare => uptoBulkAll elems + uptoBulkAll spare + 1
  | .agg parts => uptoBulkAll parts + 1
  | .iface _ d => uptoBulk d + 1
  | .map entries => uptoBulkEntries entries + 1
  | .held _ => 1
def uptoBulkAll {H : Type} : List (DataW H) → Nat
  | [] => 0
  | d :: r => uptoBulk d + uptoBulkAll r
def uptoBulkEntries {H : Type} : List (Lit × DataW H) → Nat
  | [] => 0
  | x :: r => uptoBulkEntry x + uptoBulkEntries r
def uptoBulkEntry {H : Type} : Lit × DataW H → Nat
  | (.string bytes, d) => bytes.length + uptoBulk d + 1
  | (_, d) => uptoBulk d + 1
 end
def uptoSmall : (H : Type) → List (DataW H) → Bool := fun _ ds => decide (uptoBulkAll ds ≤ 1048576)
def OpenSpec.upto (s : _root_.Go.ChangeSpec) : _root_.Go.OpenSpec := { _root_.Go.OpenSpec.ofChange s with cond := some uptoSmall }

/-- 'laws.FnExactStateIndex', WHERE WHAT IT READS IS OF BULK AT MOST 1048576: true; the input reads as it did. -/
def fnExactStateIndexUptoRow : OpenClaim := { program := "ytghfnmmiimbphaa", sum := "3810277ba2a6a3965beb9c936225413e8196584476e578056b39e8b6e5c6a712", func := "loop.example/productprograms/laws.FnExactStateIndex", spec := "fnExactStateIndex", apart := false, narrowed := true }
def FnExactStateIndexUptoSaid : Prop := fnExactStateIndexUptoRow.holds Try.pinned (OpenSpec.upto fnExactStateIndexSpec)

/-- 'laws.FnExactStateAt', WHERE WHAT IT READS IS OF BULK AT MOST 1048576: true; the input reads as it did. -/
def fnExactStateAtUptoRow : OpenClaim := { program := "ytghfnmmiimbphaa", sum := "3810277ba2a6a3965beb9c936225413e8196584476e578056b39e8b6e5c6a712", func := "loop.example/productprograms/laws.FnExactStateAt", spec := "fnExactStateAt", apart := false, narrowed := true }
def FnExactStateAtUptoSaid : Prop := fnExactStateAtUptoRow.holds Try.pinned (OpenSpec.upto fnExactStateAtSpec)

/-- 'laws.FnExactFormatState', WHERE WHAT IT READS IS OF BULK AT MOST 1048576: true; the input reads as it did. -/
def fnExactFormatStateUptoRow : OpenClaim := { program := "ytghfnmmiimbphaa", sum := "3810277ba2a6a3965beb9c936225413e8196584476e578056b39e8b6e5c6a712", func := "loop.example/productprograms/laws.FnExactFormatState", spec := "fnExactFormatState", recurses := true, apart := false, narrowed := true }
def FnExactFormatStateUptoSaid : Prop := fnExactFormatStateUptoRow.holds Try.pinned (OpenSpec.upto fnExactFormatStateSpec)

/-- 'laws.FnExactParseState', WHERE WHAT IT READS IS OF BULK AT MOST 1048576: true; the input reads as it did. -/
def fnExactParseStateUptoRow : OpenClaim := { program := "ytghfnmmiimbphaa", sum := "3810277ba2a6a3965beb9c936225413e8196584476e578056b39e8b6e5c6a712", func := "loop.example/productprograms/laws.FnExactParseState", spec := "fnExactParseState", recurses := true, apart := false, narrowed := true }
def FnExactParseStateUptoSaid : Prop := fnExactParseStateUptoRow.holds Try.pinned (OpenSpec.upto fnExactParseStateSpec)

end Rows
end Go.Proofs.Ytghfnmmiimbphaa
