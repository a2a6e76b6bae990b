/-
  No cell of these rows narrows 'for every input' (looked for: loops, veiled, ifaces, maps, wideKeys, modest, calm, conditions, laid).
  DERIVED. THE GIVEN ROWS OF THIS SEAT. 8 by the template 'for every input the law returns true; each argument reads behind the call as it read before'; 0 by the template 'total and deterministic' (their statements: YtndmobiajdgjlaaTotals.lean).
  GIVEN WITH THE SEED: the statements are not yours to turn. If you find one false, say at which input.
  Laid BY PROGRAM, IN A SANDBOX (cutbox-rows.mjs): the forced cells as the released guide's own fill.sh prints them over the translation 4c9c6dc36f253a67… (all of the seat's roots in one cut). By AI agents, Wed Nov 11 2026. No macro, syntax, notation, axiom, sorry.
-/
import Derived.Test.YtndmobiajdgjlaaChecked
import GoSem.Claim
import GoSem.ClaimJoined
import GoSem.ClaimMapViews
import Derived.JoinedTies
import Derived.KernelRfl
namespace Go.Proofs.Ytndmobiajdgjlaa
/- THE CELL 'sum', in the pinned program and in every row, IS THE sha256 OF THE DUMP (.gsa) THAT YtndmobiajdgjlaaProg.lean LOADS. Nothing in Lean hashes anything: it is a label: what it is worth is what the hold of that sum in a sandbox is worth. -/
noncomputable def Try.pinned : Pinned := { name := "ytndmobiajdgjlaa", sum := "4c9c6dc36f253a6723b2d51456850417d335b44b71e6852a7e13bbbb0b4a83d2", checked := Try.checked }
namespace Rows
def none {H : Type} : Left H := { results := [], args := [] }

/-- 'laws.FnExactStateValid': WHATEVER THE INPUT: true; the input reads as it did. -/
def fnExactStateValidSpec : ChangeSpec := { name := "fnExactStateValid", fn := fun _ => fun
  | [d] => { results := [.lit (.bool true)], args := [d] }
  | _ => none }
def fnExactStateValidRow : OpenClaim := { program := "ytndmobiajdgjlaa", sum := "4c9c6dc36f253a6723b2d51456850417d335b44b71e6852a7e13bbbb0b4a83d2", func := "loop.example/productprograms/laws.FnExactStateValid", spec := "fnExactStateValid", apart := false }
def FnExactStateValidSaid : Prop := fnExactStateValidRow.holds Try.pinned (OpenSpec.ofChange fnExactStateValidSpec)

/-- ITS FALSE NEIGHBOUR: 'it returns false'. Refute it at one input. -/
def fnExactStateValidWrong : ChangeSpec := { name := "fnExactStateValid", fn := fun _ => fun
  | [d] => { results := [.lit (.bool false)], args := [d] }
  | _ => none }
def FnExactStateValidWrongFalsely : Prop := fnExactStateValidRow.holds Try.pinned (OpenSpec.ofChange fnExactStateValidWrong)

/-- 'laws.FnExactExprValid': WHATEVER THE INPUT: true; the input reads as it did. -/
def fnExactExprValidSpec : ChangeSpec := { name := "fnExactExprValid", fn := fun _ => fun
  | [d] => { results := [.lit (.bool true)], args := [d] }
  | _ => none }
def fnExactExprValidRow : OpenClaim := { program := "ytndmobiajdgjlaa", sum := "4c9c6dc36f253a6723b2d51456850417d335b44b71e6852a7e13bbbb0b4a83d2", func := "loop.example/productprograms/laws.FnExactExprValid", spec := "fnExactExprValid", unfollowed := true, recurses := true, apart := false }
def FnExactExprValidSaid : Prop := fnExactExprValidRow.holds Try.pinned (OpenSpec.ofChange fnExactExprValidSpec)

/-- ITS FALSE NEIGHBOUR: 'it returns false'. Refute it at one input. -/
def fnExactExprValidWrong : ChangeSpec := { name := "fnExactExprValid", fn := fun _ => fun
  | [d] => { results := [.lit (.bool false)], args := [d] }
  | _ => none }
def FnExactExprValidWrongFalsely : Prop := fnExactExprValidRow.holds Try.pinned (OpenSpec.ofChange fnExactExprValidWrong)

/-- 'laws.FnExactTestValid': WHATEVER THE INPUT: true; the input reads as it did. -/
def fnExactTestValidSpec : ChangeSpec := { name := "fnExactTestValid", fn := fun _ => fun
  | [d] => { results := [.lit (.bool true)], args := [d] }
  | _ => none }
def fnExactTestValidRow : OpenClaim := { program := "ytndmobiajdgjlaa", sum := "4c9c6dc36f253a6723b2d51456850417d335b44b71e6852a7e13bbbb0b4a83d2", func := "loop.example/productprograms/laws.FnExactTestValid", spec := "fnExactTestValid", unfollowed := true, recurses := true, apart := false }
def FnExactTestValidSaid : Prop := fnExactTestValidRow.holds Try.pinned (OpenSpec.ofChange fnExactTestValidSpec)

/-- ITS FALSE NEIGHBOUR: 'it returns false'. Refute it at one input. -/
def fnExactTestValidWrong : ChangeSpec := { name := "fnExactTestValid", fn := fun _ => fun
  | [d] => { results := [.lit (.bool false)], args := [d] }
  | _ => none }
def FnExactTestValidWrongFalsely : Prop := fnExactTestValidRow.holds Try.pinned (OpenSpec.ofChange fnExactTestValidWrong)

/-- 'laws.FnExactEvalExpr': WHATEVER THE INPUT: true; the input reads as it did. -/
def fnExactEvalExprSpec : ChangeSpec := { name := "fnExactEvalExpr", fn := fun _ => fun
  | [d1, d2] => { results := [.lit (.bool true)], args := [d1, d2] }
  | _ => none }
def fnExactEvalExprRow : OpenClaim := { program := "ytndmobiajdgjlaa", sum := "4c9c6dc36f253a6723b2d51456850417d335b44b71e6852a7e13bbbb0b4a83d2", func := "loop.example/productprograms/laws.FnExactEvalExpr", spec := "fnExactEvalExpr", unfollowed := true, recurses := true, apart := false }
def FnExactEvalExprSaid : Prop := fnExactEvalExprRow.holds Try.pinned (OpenSpec.ofChange fnExactEvalExprSpec)

/-- ITS FALSE NEIGHBOUR: 'it returns false'. Refute it at one input. -/
def fnExactEvalExprWrong : ChangeSpec := { name := "fnExactEvalExpr", fn := fun _ => fun
  | [d1, d2] => { results := [.lit (.bool false)], args := [d1, d2] }
  | _ => none }
def FnExactEvalExprWrongFalsely : Prop := fnExactEvalExprRow.holds Try.pinned (OpenSpec.ofChange fnExactEvalExprWrong)

/-- 'laws.FnExactEvalTest': WHATEVER THE INPUT: true; the input reads as it did. -/
def fnExactEvalTestSpec : ChangeSpec := { name := "fnExactEvalTest", fn := fun _ => fun
  | [d1, d2] => { results := [.lit (.bool true)], args := [d1, d2] }
  | _ => none }
def fnExactEvalTestRow : OpenClaim := { program := "ytndmobiajdgjlaa", sum := "4c9c6dc36f253a6723b2d51456850417d335b44b71e6852a7e13bbbb0b4a83d2", func := "loop.example/productprograms/laws.FnExactEvalTest", spec := "fnExactEvalTest", unfollowed := true, recurses := true, apart := false }
def FnExactEvalTestSaid : Prop := fnExactEvalTestRow.holds Try.pinned (OpenSpec.ofChange fnExactEvalTestSpec)

/-- ITS FALSE NEIGHBOUR: 'it returns false'. Refute it at one input. -/
def fnExactEvalTestWrong : ChangeSpec := { name := "fnExactEvalTest", fn := fun _ => fun
  | [d1, d2] => { results := [.lit (.bool false)], args := [d1, d2] }
  | _ => none }
def FnExactEvalTestWrongFalsely : Prop := fnExactEvalTestRow.holds Try.pinned (OpenSpec.ofChange fnExactEvalTestWrong)

/-- 'laws.FnExactShowExpr': WHATEVER THE INPUT: true; the input reads as it did. -/
def fnExactShowExprSpec : ChangeSpec := { name := "fnExactShowExpr", fn := fun _ => fun
  | [d] => { results := [.lit (.bool true)], args := [d] }
  | _ => none }
def fnExactShowExprRow : OpenClaim := { program := "ytndmobiajdgjlaa", sum := "4c9c6dc36f253a6723b2d51456850417d335b44b71e6852a7e13bbbb0b4a83d2", func := "loop.example/productprograms/laws.FnExactShowExpr", spec := "fnExactShowExpr", unfollowed := true, recurses := true, apart := false }
def FnExactShowExprSaid : Prop := fnExactShowExprRow.holds Try.pinned (OpenSpec.ofChange fnExactShowExprSpec)

/-- ITS FALSE NEIGHBOUR: 'it returns false'. Refute it at one input. -/
def fnExactShowExprWrong : ChangeSpec := { name := "fnExactShowExpr", fn := fun _ => fun
  | [d] => { results := [.lit (.bool false)], args := [d] }
  | _ => none }
def FnExactShowExprWrongFalsely : Prop := fnExactShowExprRow.holds Try.pinned (OpenSpec.ofChange fnExactShowExprWrong)

/-- 'laws.FnExactShowTest': WHATEVER THE INPUT: true; the input reads as it did. -/
def fnExactShowTestSpec : ChangeSpec := { name := "fnExactShowTest", fn := fun _ => fun
  | [d] => { results := [.lit (.bool true)], args := [d] }
  | _ => none }
def fnExactShowTestRow : OpenClaim := { program := "ytndmobiajdgjlaa", sum := "4c9c6dc36f253a6723b2d51456850417d335b44b71e6852a7e13bbbb0b4a83d2", func := "loop.example/productprograms/laws.FnExactShowTest", spec := "fnExactShowTest", unfollowed := true, recurses := true, apart := false }
def FnExactShowTestSaid : Prop := fnExactShowTestRow.holds Try.pinned (OpenSpec.ofChange fnExactShowTestSpec)

/-- ITS FALSE NEIGHBOUR: 'it returns false'. Refute it at one input. -/
def fnExactShowTestWrong : ChangeSpec := { name := "fnExactShowTest", fn := fun _ => fun
  | [d] => { results := [.lit (.bool false)], args := [d] }
  | _ => none }
def FnExactShowTestWrongFalsely : Prop := fnExactShowTestRow.holds Try.pinned (OpenSpec.ofChange fnExactShowTestWrong)

/-- 'laws.FnExactFoldExpr': WHATEVER THE INPUT: true; the input reads as it did. -/
def fnExactFoldExprSpec : ChangeSpec := { name := "fnExactFoldExpr", fn := fun _ => fun
  | [d] => { results := [.lit (.bool true)], args := [d] }
  | _ => none }
def fnExactFoldExprRow : OpenClaim := { program := "ytndmobiajdgjlaa", sum := "4c9c6dc36f253a6723b2d51456850417d335b44b71e6852a7e13bbbb0b4a83d2", func := "loop.example/productprograms/laws.FnExactFoldExpr", spec := "fnExactFoldExpr", unfollowed := true, recurses := true, apart := false }
def FnExactFoldExprSaid : Prop := fnExactFoldExprRow.holds Try.pinned (OpenSpec.ofChange fnExactFoldExprSpec)

/-- ITS FALSE NEIGHBOUR: 'it returns false'. Refute it at one input. -/
def fnExactFoldExprWrong : ChangeSpec := { name := "fnExactFoldExpr", fn := fun _ => fun
  | [d] => { results := [.lit (.bool false)], args := [d] }
  | _ => none }
def FnExactFoldExprWrongFalsely : Prop := fnExactFoldExprRow.holds Try.pinned (OpenSpec.ofChange fnExactFoldExprWrong)

/- THE SECOND FORM. 'bulk': how many values and letters a reading holds, each counted each time it is reached (what is shared counts as often as it is met; a slice's spare places count too). A statement '..UptoSaid' is the law's where the arguments, and the package variables that the reading takes, are together of bulk at most 1048576: NARROWER than '..Said'. Prove '..Said' where nothing that the law and all that it calls make is longer than what came in: it says more and counts as full. Else prove '..UptoSaid'. A law counts once. -/
mutual
def uptoBulk {H : Type} : DataW H → Nat
  | .lit (.string bytes) => bytes.length + 1
  | .lit _ => 1
  | .nil => 1
  | .ptr d => uptoBulk d + 1
  | .slice elems spare => uptoBulkAll elems + uptoBulkAll spare + 1
  | .agg parts => uptoBulkAll parts + 1
  | .iface _ d => uptoBulk d + 1
  | .map entries => uptoBulkEntries entries + 1
  | .held _ => 1
def uptoBulkAll {H : Type} : List (DataW H) → Nat
  | [] => 0
  | d :: r => uptoBulk d + uptoBulkAll r
def uptoBulkEntries {H : Type} : List (Lit × DataW H) → Nat
  | [] => 0
  | x :: r => uptoBulkEntry x + uptoBulkEntries r
def uptoBulkEntry {H : Type} : Lit × DataW H → Nat
  | (.string bytes, d) => bytes.length + uptoBulk d + 1
  | (_, d) => uptoBulk d + 1
 end
def uptoSmall : (H : Type) → List (DataW H) → Bool := fun _ ds => decide (uptoBulkAll ds ≤ 1048576)
def OpenSpec.upto (s : _root_.Go.ChangeSpec) : _root_.Go.OpenSpec := { _root_.Go.OpenSpec.ofChange s with cond := some uptoSmall }

/-- 'laws.FnExactStateValid', WHERE WHAT IT READS IS OF BULK AT MOST 1048576: true; the input reads as it did. -/
def fnExactStateValidUptoRow : OpenClaim := { program := "ytndmobiajdgjlaa", sum := "4c9c6dc36f253a6723b2d51456850417d335b44b71e6852a7e13bbbb0b4a83d2", func := "loop.example/productprograms/laws.FnExactStateValid", spec := "fnExactStateValid", apart := false, narrowed := true }
def FnExactStateValidUptoSaid : Prop := fnExactStateValidUptoRow.holds Try.pinned (OpenSpec.upto fnExactStateValidSpec)

/-- 'laws.FnExactExprValid', WHERE WHAT IT READS IS OF BULK AT MOST 1048576: true; the input reads as it did. -/
def fnExactExprValidUptoRow : OpenClaim := { program := "ytndmobiajdgjlaa", sum := "4c9c6dc36f253a6723b2d51456850417d335b44b71e6852a7e13bbbb0b4a83d2", func := "loop.example/productprograms/laws.FnExactExprValid", spec := "fnExactExprValid", unfollowed := true, recurses := true, apart := false, narrowed := true }
def FnExactExprValidUptoSaid : Prop := fnExactExprValidUptoRow.holds Try.pinned (OpenSpec.upto fnExactExprValidSpec)

/-- 'laws.FnExactTestValid', WHERE WHAT IT READS IS OF BULK AT MOST 1048576: true; the input reads as it did. -/
def fnExactTestValidUptoRow : OpenClaim := { program := "ytndmobiajdgjlaa", sum := "4c9c6dc36f253a6723b2d51456850417d335b44b71e6852a7e13bbbb0b4a83d2", func := "loop.example/productprograms/laws.FnExactTestValid", spec := "fnExactTestValid", unfollowed := true, recurses := true, apart := false, narrowed := true }
def FnExactTestValidUptoSaid : Prop := fnExactTestValidUptoRow.holds Try.pinned (OpenSpec.upto fnExactTestValidSpec)

/-- 'laws.FnExactEvalExpr', WHERE WHAT IT READS IS OF BULK AT MOST 1048576: true; the input reads as it did. -/
def fnExactEvalExprUptoRow : OpenClaim := { program := "ytndmobiajdgjlaa", sum := "4c9c6dc36f253a6723b2d51456850417d335b44b71e6852a7e13bbbb0b4a83d2", func := "loop.example/productprograms/laws.FnExactEvalExpr", spec := "fnExactEvalExpr", unfollowed := true, recurses := true, apart := false, narrowed := true }
def FnExactEvalExprUptoSaid : Prop := fnExactEvalExprUptoRow.holds Try.pinned (OpenSpec.upto fnExactEvalExprSpec)

/-- 'laws.FnExactEvalTest', WHERE WHAT IT READS IS OF BULK AT MOST 1048576: true; the input reads as it did. -/
def fnExactEvalTestUptoRow : OpenClaim := { program := "ytndmobiajdgjlaa", sum := "4c9c6dc36f253a6723b2d51456850417d335b44b71e6852a7e13bbbb0b4a83d2", func := "loop.example/productprograms/laws.FnExactEvalTest", spec := "fnExactEvalTest", unfollowed := true, recurses := true, apart := false, narrowed := true }
def FnExactEvalTestUptoSaid : Prop := fnExactEvalTestUptoRow.holds Try.pinned (OpenSpec.upto fnExactEvalTestSpec)

/-- 'laws.FnExactShowExpr', WHERE WHAT IT READS IS OF BULK AT MOST 1048576: true; the input reads as it did. -/
def fnExactShowExprUptoRow : OpenClaim := { program := "ytndmobiajdgjlaa", sum := "4c9c6dc36f253a6723b2d51456850417d335b44b71e6852a7e13bbbb0b4a83d2", func := "loop.example/productprograms/laws.FnExactShowExpr", spec := "fnExactShowExpr", unfollowed := true, recurses := true, apart := false, narrowed := true }
def FnExactShowExprUptoSaid : Prop := fnExactShowExprUptoRow.holds Try.pinned (OpenSpec.upto fnExactShowExprSpec)

/-- 'laws.FnExactShowTest', WHERE WHAT IT READS IS OF BULK AT MOST 1048576: true; the input reads as it did. -/
def fnExactShowTestUptoRow : OpenClaim := { program := "ytndmobiajdgjlaa", sum := "4c9c6dc36f253a6723b2d51456850417d335b44b71e6852a7e13bbbb0b4a83d2", func := "loop.example/productprograms/laws.FnExactShowTest", spec := "fnExactShowTest", unfollowed := true, recurses := true, apart := false, narrowed := true }
def FnExactShowTestUptoSaid : Prop := fnExactShowTestUptoRow.holds Try.pinned (OpenSpec.upto fnExactShowTestSpec)

/-- 'laws.FnExactFoldExpr', WHERE WHAT IT READS IS OF BULK AT MOST 1048576: true; the input reads as it did. -/
def fnExactFoldExprUptoRow : OpenClaim := { program := "ytndmobiajdgjlaa", sum := "4c9c6dc36f253a6723b2d51456850417d335b44b71e6852a7e13bbbb0b4a83d2", func := "loop.example/productprograms/laws.FnExactFoldExpr", spec := "fnExactFoldExpr", unfollowed := true, recurses := true, apart := false, narrowed := true }
def FnExactFoldExprUptoSaid : Prop := fnExactFoldExprUptoRow.holds Try.pinned (OpenSpec.upto fnExactFoldExprSpec)

end Rows
end Go.Proofs.Ytndmobiajdgjlaa
