/-
  NARROWER THAN 'FOR EVERY INPUT', by the rows' own cells (each row's printed sentence says how): FnExactExprValid: laid · FnExactTestValid: laid · FnExactEvalExpr: laid · FnExactEvalTest: laid · FnExactExprVars: laid · FnExactTestVars: laid · FnExactShowExpr: laid · FnExactShowTest: laid · FnExactFoldExpr: laid · FnExactSubstExpr: laid · FnExactSubstTest: laid.
  DERIVED. THE GIVEN ROWS OF THIS SEAT. 11 by the template 'for every input the law returns true; each argument reads behind the call as it read before'; 0 by the template 'total and deterministic' (their statements: YtpdepihggpfmiaaDoorTotals.lean).
  GIVEN WITH THE SEED: the statements are not yours to turn. If you find one false, say at which input.
  Laid BY PROGRAM, IN A SANDBOX (cutbox-rows.mjs): the forced cells as the released guide's own fill.sh prints them over the translation ff994d3d0ae638b6… (all of the seat's roots in one cut). By AI agents, Wed Nov 11 2026. No macro, syntax, notation, axiom, sorry.
-/
import Derived.Test.YtpdepihggpfmiaaDoorChecked
import GoSem.PinnedTables
import GoSem.Claim
import GoSem.ClaimJoined
import GoSem.ClaimMapViews
import Derived.JoinedTies
import Derived.KernelRfl
namespace Go.Proofs.YtpdepihggpfmiaaDoor
/- THE CELL 'sum', in the pinned program and in every row, IS THE sha256 OF THE DUMP (.gsa) THAT YtpdepihggpfmiaaDoorProg.lean LOADS. Nothing in Lean hashes anything: it is a label: what it is worth is what the hold of that sum in a sandbox is worth. -/
noncomputable def Tryd.pinned : Pinned := { name := "ytpdepihggpfmiaadoor", sum := "ff994d3d0ae638b623a86b342311eb1226529261048e0333649d2dca4306a1f2", checked := Tryd.checked }
namespace Rows
def none {H : Type} : Left H := { results := [], args := [] }

/- WHAT THE LISTED PACKAGE-LEVEL VARIABLES READ AS WHEN THE CALL BEGINS. Each datum BY PROGRAM (the guide's laid-datum.mjs) off the statement by which the dump's own 'gosem.cut.vars' lays the variable. In a bare row this is a premise. The card (YtpdepihggpfmiaaDoorCards.lean) ties it to the program's text. -/
def laid_unicode_utf8_acceptRanges {H : Type} : DataW H := .agg [.agg [.lit (.int .u8 128), .lit (.int .u8 191)], .agg [.lit (.int .u8 160), .lit (.int .u8 191)], .agg [.lit (.int .u8 128), .lit (.int .u8 159)], .agg [.lit (.int .u8 144), .lit (.int .u8 191)], .agg [.lit (.int .u8 128), .lit (.int .u8 143)], .agg [.lit (.int .u8 0), .lit (.int .u8 0)], .agg [.lit (.int .u8 0), .lit (.int .u8 0)], .agg [.lit (.int .u8 0), .lit (.int .u8 0)], .agg [.lit (.int .u8 0), .lit (.int .u8 0)], .agg [.lit (.int .u8 0), .lit (.int .u8 0)], .agg [.lit (.int .u8 0), .lit (.int .u8 0)], .agg [.lit (.int .u8 0), .lit (.int .u8 0)], .agg [.lit (.int .u8 0), .lit (.int .u8 0)], .agg [.lit (.int .u8 0), .lit (.int .u8 0)], .agg [.lit (.int .u8 0), .lit (.int .u8 0)], .agg [.lit (.int .u8 0), .lit (.int .u8 0)]]
/-- One of Go's own tables, pinned by name: the form's constant. -/
def laid_unicode_CaseRanges : DataW Unit := Go.Pinned.caseRanges
/-- One of Go's own tables, pinned by name: the form's constant. -/
def laid_unicode_utf8_first : DataW Unit := Go.Pinned.utf8First

/-- 'laws.FnExactExprValid': WHATEVER THE INPUT: true; the input reads as it did. -/
def fnExactExprValidSpec : ChangeSpec := { name := "fnExactExprValid", fn := fun _ => fun
  | [d] => { results := [.lit (.bool true)], args := [d] }
  | _ => none }
def fnExactExprValidRow : OpenClaim := { program := "ytpdepihggpfmiaadoor", sum := "ff994d3d0ae638b623a86b342311eb1226529261048e0333649d2dca4306a1f2", func := "loop.example/productprograms/laws.FnExactExprValid", spec := "fnExactExprValid", inPlace := ["internal/abi.NoEscape", "internal/bytealg.MakeNoZero"], unfollowed := true, recurses := true, named := ["unicode.CaseRanges", "unicode/utf8.first", "unicode/utf8.acceptRanges"], apart := false, laid := [("unicode/utf8.acceptRanges", laid_unicode_utf8_acceptRanges), ("unicode.CaseRanges", laid_unicode_CaseRanges), ("unicode/utf8.first", laid_unicode_utf8_first)] }
def FnExactExprValidSaid : Prop := fnExactExprValidRow.holds Tryd.pinned (OpenSpec.ofChange fnExactExprValidSpec)

/-- ITS FALSE NEIGHBOUR: 'it returns false'. Refute it at one input. -/
def fnExactExprValidWrong : ChangeSpec := { name := "fnExactExprValid", fn := fun _ => fun
  | [d] => { results := [.lit (.bool false)], args := [d] }
  | _ => none }
def FnExactExprValidWrongFalsely : Prop := fnExactExprValidRow.holds Tryd.pinned (OpenSpec.ofChange fnExactExprValidWrong)

/-- 'laws.FnExactTestValid': WHATEVER THE INPUT: true; the input reads as it did. -/
def fnExactTestValidSpec : ChangeSpec := { name := "fnExactTestValid", fn := fun _ => fun
  | [d] => { results := [.lit (.bool true)], args := [d] }
  | _ => none }
def fnExactTestValidRow : OpenClaim := { program := "ytpdepihggpfmiaadoor", sum := "ff994d3d0ae638b623a86b342311eb1226529261048e0333649d2dca4306a1f2", func := "loop.example/productprograms/laws.FnExactTestValid", spec := "fnExactTestValid", inPlace := ["internal/abi.NoEscape", "internal/bytealg.MakeNoZero"], unfollowed := true, recurses := true, named := ["unicode.CaseRanges", "unicode/utf8.first", "unicode/utf8.acceptRanges"], apart := false, laid := [("unicode/utf8.acceptRanges", laid_unicode_utf8_acceptRanges), ("unicode.CaseRanges", laid_unicode_CaseRanges), ("unicode/utf8.first", laid_unicode_utf8_first)] }
def FnExactTestValidSaid : Prop := fnExactTestValidRow.holds Tryd.pinned (OpenSpec.ofChange fnExactTestValidSpec)

/-- ITS FALSE NEIGHBOUR: 'it returns false'. Refute it at one input. -/
def fnExactTestValidWrong : ChangeSpec := { name := "fnExactTestValid", fn := fun _ => fun
  | [d] => { results := [.lit (.bool false)], args := [d] }
  | _ => none }
def FnExactTestValidWrongFalsely : Prop := fnExactTestValidRow.holds Tryd.pinned (OpenSpec.ofChange fnExactTestValidWrong)

/-- 'laws.FnExactEvalExpr': WHATEVER THE INPUT: true; the input reads as it did. -/
def fnExactEvalExprSpec : ChangeSpec := { name := "fnExactEvalExpr", fn := fun _ => fun
  | [d1, d2] => { results := [.lit (.bool true)], args := [d1, d2] }
  | _ => none }
def fnExactEvalExprRow : OpenClaim := { program := "ytpdepihggpfmiaadoor", sum := "ff994d3d0ae638b623a86b342311eb1226529261048e0333649d2dca4306a1f2", func := "loop.example/productprograms/laws.FnExactEvalExpr", spec := "fnExactEvalExpr", inPlace := ["internal/abi.NoEscape", "internal/bytealg.MakeNoZero"], unfollowed := true, recurses := true, named := ["unicode.CaseRanges", "unicode/utf8.first", "unicode/utf8.acceptRanges"], apart := false, laid := [("unicode/utf8.acceptRanges", laid_unicode_utf8_acceptRanges), ("unicode.CaseRanges", laid_unicode_CaseRanges), ("unicode/utf8.first", laid_unicode_utf8_first)] }
def FnExactEvalExprSaid : Prop := fnExactEvalExprRow.holds Tryd.pinned (OpenSpec.ofChange fnExactEvalExprSpec)

/-- ITS FALSE NEIGHBOUR: 'it returns false'. Refute it at one input. -/
def fnExactEvalExprWrong : ChangeSpec := { name := "fnExactEvalExpr", fn := fun _ => fun
  | [d1, d2] => { results := [.lit (.bool false)], args := [d1, d2] }
  | _ => none }
def FnExactEvalExprWrongFalsely : Prop := fnExactEvalExprRow.holds Tryd.pinned (OpenSpec.ofChange fnExactEvalExprWrong)

/-- 'laws.FnExactEvalTest': WHATEVER THE INPUT: true; the input reads as it did. -/
def fnExactEvalTestSpec : ChangeSpec := { name := "fnExactEvalTest", fn := fun _ => fun
  | [d1, d2] => { results := [.lit (.bool true)], args := [d1, d2] }
  | _ => none }
def fnExactEvalTestRow : OpenClaim := { program := "ytpdepihggpfmiaadoor", sum := "ff994d3d0ae638b623a86b342311eb1226529261048e0333649d2dca4306a1f2", func := "loop.example/productprograms/laws.FnExactEvalTest", spec := "fnExactEvalTest", inPlace := ["internal/abi.NoEscape", "internal/bytealg.MakeNoZero"], unfollowed := true, recurses := true, named := ["unicode.CaseRanges", "unicode/utf8.first", "unicode/utf8.acceptRanges"], apart := false, laid := [("unicode/utf8.acceptRanges", laid_unicode_utf8_acceptRanges), ("unicode.CaseRanges", laid_unicode_CaseRanges), ("unicode/utf8.first", laid_unicode_utf8_first)] }
def FnExactEvalTestSaid : Prop := fnExactEvalTestRow.holds Tryd.pinned (OpenSpec.ofChange fnExactEvalTestSpec)

/-- ITS FALSE NEIGHBOUR: 'it returns false'. Refute it at one input. -/
def fnExactEvalTestWrong : ChangeSpec := { name := "fnExactEvalTest", fn := fun _ => fun
  | [d1, d2] => { results := [.lit (.bool false)], args := [d1, d2] }
  | _ => none }
def FnExactEvalTestWrongFalsely : Prop := fnExactEvalTestRow.holds Tryd.pinned (OpenSpec.ofChange fnExactEvalTestWrong)

/-- 'laws.FnExactExprVars': WHATEVER THE INPUT: true; the input reads as it did. -/
def fnExactExprVarsSpec : ChangeSpec := { name := "fnExactExprVars", fn := fun _ => fun
  | [d] => { results := [.lit (.bool true)], args := [d] }
  | _ => none }
def fnExactExprVarsRow : OpenClaim := { program := "ytpdepihggpfmiaadoor", sum := "ff994d3d0ae638b623a86b342311eb1226529261048e0333649d2dca4306a1f2", func := "loop.example/productprograms/laws.FnExactExprVars", spec := "fnExactExprVars", inPlace := ["internal/abi.NoEscape", "internal/bytealg.MakeNoZero", "internal/bytealg.IndexByteString", "internal/bytealg.IndexString"], unfollowed := true, recurses := true, named := ["unicode.CaseRanges", "unicode/utf8.first", "unicode/utf8.acceptRanges", "internal/bytealg.MaxLen"], apart := false, laid := [("unicode/utf8.acceptRanges", laid_unicode_utf8_acceptRanges), ("unicode.CaseRanges", laid_unicode_CaseRanges), ("unicode/utf8.first", laid_unicode_utf8_first)] }
def FnExactExprVarsSaid : Prop := fnExactExprVarsRow.holds Tryd.pinned (OpenSpec.ofChange fnExactExprVarsSpec)

/-- ITS FALSE NEIGHBOUR: 'it returns false'. Refute it at one input. -/
def fnExactExprVarsWrong : ChangeSpec := { name := "fnExactExprVars", fn := fun _ => fun
  | [d] => { results := [.lit (.bool false)], args := [d] }
  | _ => none }
def FnExactExprVarsWrongFalsely : Prop := fnExactExprVarsRow.holds Tryd.pinned (OpenSpec.ofChange fnExactExprVarsWrong)

/-- 'laws.FnExactTestVars': WHATEVER THE INPUT: true; the input reads as it did. -/
def fnExactTestVarsSpec : ChangeSpec := { name := "fnExactTestVars", fn := fun _ => fun
  | [d] => { results := [.lit (.bool true)], args := [d] }
  | _ => none }
def fnExactTestVarsRow : OpenClaim := { program := "ytpdepihggpfmiaadoor", sum := "ff994d3d0ae638b623a86b342311eb1226529261048e0333649d2dca4306a1f2", func := "loop.example/productprograms/laws.FnExactTestVars", spec := "fnExactTestVars", inPlace := ["internal/abi.NoEscape", "internal/bytealg.MakeNoZero", "internal/bytealg.IndexByteString", "internal/bytealg.IndexString"], unfollowed := true, recurses := true, named := ["unicode.CaseRanges", "unicode/utf8.first", "unicode/utf8.acceptRanges", "internal/bytealg.MaxLen"], apart := false, laid := [("unicode/utf8.acceptRanges", laid_unicode_utf8_acceptRanges), ("unicode.CaseRanges", laid_unicode_CaseRanges), ("unicode/utf8.first", laid_unicode_utf8_first)] }
def FnExactTestVarsSaid : Prop := fnExactTestVarsRow.holds Tryd.pinned (OpenSpec.ofChange fnExactTestVarsSpec)

/-- ITS FALSE NEIGHBOUR: 'it returns false'. Refute it at one input. -/
def fnExactTestVarsWrong : ChangeSpec := { name := "fnExactTestVars", fn := fun _ => fun
  | [d] => { results := [.lit (.bool false)], args := [d] }
  | _ => none }
def FnExactTestVarsWrongFalsely : Prop := fnExactTestVarsRow.holds Tryd.pinned (OpenSpec.ofChange fnExactTestVarsWrong)

/-- 'laws.FnExactShowExpr': WHATEVER THE INPUT: true; the input reads as it did. -/
def fnExactShowExprSpec : ChangeSpec := { name := "fnExactShowExpr", fn := fun _ => fun
  | [d] => { results := [.lit (.bool true)], args := [d] }
  | _ => none }
def fnExactShowExprRow : OpenClaim := { program := "ytpdepihggpfmiaadoor", sum := "ff994d3d0ae638b623a86b342311eb1226529261048e0333649d2dca4306a1f2", func := "loop.example/productprograms/laws.FnExactShowExpr", spec := "fnExactShowExpr", inPlace := ["internal/abi.NoEscape", "internal/bytealg.MakeNoZero"], unfollowed := true, recurses := true, named := ["unicode.CaseRanges", "unicode/utf8.first", "unicode/utf8.acceptRanges"], apart := false, laid := [("unicode/utf8.acceptRanges", laid_unicode_utf8_acceptRanges), ("unicode.CaseRanges", laid_unicode_CaseRanges), ("unicode/utf8.first", laid_unicode_utf8_first)] }
def FnExactShowExprSaid : Prop := fnExactShowExprRow.holds Tryd.pinned (OpenSpec.ofChange fnExactShowExprSpec)

/-- ITS FALSE NEIGHBOUR: 'it returns false'. Refute it at one input. -/
def fnExactShowExprWrong : ChangeSpec := { name := "fnExactShowExpr", fn := fun _ => fun
  | [d] => { results := [.lit (.bool false)], args := [d] }
  | _ => none }
def FnExactShowExprWrongFalsely : Prop := fnExactShowExprRow.holds Tryd.pinned (OpenSpec.ofChange fnExactShowExprWrong)

/-- 'laws.FnExactShowTest': WHATEVER THE INPUT: true; the input reads as it did. -/
def fnExactShowTestSpec : ChangeSpec := { name := "fnExactShowTest", fn := fun _ => fun
  | [d] => { results := [.lit (.bool true)], args := [d] }
  | _ => none }
def fnExactShowTestRow : OpenClaim := { program := "ytpdepihggpfmiaadoor", sum := "ff994d3d0ae638b623a86b342311eb1226529261048e0333649d2dca4306a1f2", func := "loop.example/productprograms/laws.FnExactShowTest", spec := "fnExactShowTest", inPlace := ["internal/abi.NoEscape", "internal/bytealg.MakeNoZero"], unfollowed := true, recurses := true, named := ["unicode.CaseRanges", "unicode/utf8.first", "unicode/utf8.acceptRanges"], apart := false, laid := [("unicode/utf8.acceptRanges", laid_unicode_utf8_acceptRanges), ("unicode.CaseRanges", laid_unicode_CaseRanges), ("unicode/utf8.first", laid_unicode_utf8_first)] }
def FnExactShowTestSaid : Prop := fnExactShowTestRow.holds Tryd.pinned (OpenSpec.ofChange fnExactShowTestSpec)

/-- ITS FALSE NEIGHBOUR: 'it returns false'. Refute it at one input. -/
def fnExactShowTestWrong : ChangeSpec := { name := "fnExactShowTest", fn := fun _ => fun
  | [d] => { results := [.lit (.bool false)], args := [d] }
  | _ => none }
def FnExactShowTestWrongFalsely : Prop := fnExactShowTestRow.holds Tryd.pinned (OpenSpec.ofChange fnExactShowTestWrong)

/-- 'laws.FnExactFoldExpr': WHATEVER THE INPUT: true; the input reads as it did. -/
def fnExactFoldExprSpec : ChangeSpec := { name := "fnExactFoldExpr", fn := fun _ => fun
  | [d] => { results := [.lit (.bool true)], args := [d] }
  | _ => none }
def fnExactFoldExprRow : OpenClaim := { program := "ytpdepihggpfmiaadoor", sum := "ff994d3d0ae638b623a86b342311eb1226529261048e0333649d2dca4306a1f2", func := "loop.example/productprograms/laws.FnExactFoldExpr", spec := "fnExactFoldExpr", inPlace := ["internal/abi.NoEscape", "internal/bytealg.MakeNoZero"], unfollowed := true, recurses := true, named := ["unicode.CaseRanges", "unicode/utf8.first", "unicode/utf8.acceptRanges"], apart := false, laid := [("unicode/utf8.acceptRanges", laid_unicode_utf8_acceptRanges), ("unicode.CaseRanges", laid_unicode_CaseRanges), ("unicode/utf8.first", laid_unicode_utf8_first)] }
def FnExactFoldExprSaid : Prop := fnExactFoldExprRow.holds Tryd.pinned (OpenSpec.ofChange fnExactFoldExprSpec)

/-- ITS FALSE NEIGHBOUR: 'it returns false'. Refute it at one input. -/
def fnExactFoldExprWrong : ChangeSpec := { name := "fnExactFoldExpr", fn := fun _ => fun
  | [d] => { results := [.lit (.bool false)], args := [d] }
  | _ => none }
def FnExactFoldExprWrongFalsely : Prop := fnExactFoldExprRow.holds Tryd.pinned (OpenSpec.ofChange fnExactFoldExprWrong)

/-- 'laws.FnExactSubstExpr': WHATEVER THE INPUT: true; the input reads as it did. -/
def fnExactSubstExprSpec : ChangeSpec := { name := "fnExactSubstExpr", fn := fun _ => fun
  | [d1, d2, d3] => { results := [.lit (.bool true)], args := [d1, d2, d3] }
  | _ => none }
def fnExactSubstExprRow : OpenClaim := { program := "ytpdepihggpfmiaadoor", sum := "ff994d3d0ae638b623a86b342311eb1226529261048e0333649d2dca4306a1f2", func := "loop.example/productprograms/laws.FnExactSubstExpr", spec := "fnExactSubstExpr", inPlace := ["internal/abi.NoEscape", "internal/bytealg.MakeNoZero", "internal/bytealg.IndexByteString", "internal/bytealg.IndexString", "internal/bytealg.CountString"], unfollowed := true, recurses := true, named := ["unicode.CaseRanges", "unicode/utf8.first", "unicode/utf8.acceptRanges", "internal/bytealg.MaxLen"], apart := false, laid := [("unicode/utf8.acceptRanges", laid_unicode_utf8_acceptRanges), ("unicode.CaseRanges", laid_unicode_CaseRanges), ("unicode/utf8.first", laid_unicode_utf8_first)] }
def FnExactSubstExprSaid : Prop := fnExactSubstExprRow.holds Tryd.pinned (OpenSpec.ofChange fnExactSubstExprSpec)

/-- ITS FALSE NEIGHBOUR: 'it returns false'. Refute it at one input. -/
def fnExactSubstExprWrong : ChangeSpec := { name := "fnExactSubstExpr", fn := fun _ => fun
  | [d1, d2, d3] => { results := [.lit (.bool false)], args := [d1, d2, d3] }
  | _ => none }
def FnExactSubstExprWrongFalsely : Prop := fnExactSubstExprRow.holds Tryd.pinned (OpenSpec.ofChange fnExactSubstExprWrong)

/-- 'laws.FnExactSubstTest': WHATEVER THE INPUT: true; the input reads as it did. -/
def fnExactSubstTestSpec : ChangeSpec := { name := "fnExactSubstTest", fn := fun _ => fun
  | [d1, d2, d3] => { results := [.lit (.bool true)], args := [d1, d2, d3] }
  | _ => none }
def fnExactSubstTestRow : OpenClaim := { program := "ytpdepihggpfmiaadoor", sum := "ff994d3d0ae638b623a86b342311eb1226529261048e0333649d2dca4306a1f2", func := "loop.example/productprograms/laws.FnExactSubstTest", spec := "fnExactSubstTest", inPlace := ["internal/abi.NoEscape", "internal/bytealg.MakeNoZero", "internal/bytealg.IndexByteString", "internal/bytealg.IndexString", "internal/bytealg.CountString"], unfollowed := true, recurses := true, named := ["unicode.CaseRanges", "unicode/utf8.first", "unicode/utf8.acceptRanges", "internal/bytealg.MaxLen"], apart := false, laid := [("unicode/utf8.acceptRanges", laid_unicode_utf8_acceptRanges), ("unicode.CaseRanges", laid_unicode_CaseRanges), ("unicode/utf8.first", laid_unicode_utf8_first)] }
def FnExactSubstTestSaid : Prop := fnExactSubstTestRow.holds Tryd.pinned (OpenSpec.ofChange fnExactSubstTestSpec)

/-- ITS FALSE NEIGHBOUR: 'it returns false'. Refute it at one input. -/
def fnExactSubstTestWrong : ChangeSpec := { name := "fnExactSubstTest", fn := fun _ => fun
  | [d1, d2, d3] => { results := [.lit (.bool false)], args := [d1, d2, d3] }
  | _ => none }
def FnExactSubstTestWrongFalsely : Prop := fnExactSubstTestRow.holds Tryd.pinned (OpenSpec.ofChange fnExactSubstTestWrong)

/- THE SECOND FORM. 'bulk': how many values and letters a reading holds, each counted each time it is reached (what is shared counts as often as it is met; a slice's spare places count too). A statement '..UptoSaid' is the law's where the arguments, and the package variables that the reading takes, are together of bulk at most 1048576: NARROWER than '..Said'. Prove '..Said' where nothing that the law and all that it calls make is longer than what came in: it says more and counts as full. Else prove '..UptoSaid'. A law counts once. -/
mutual
def uptoBulk {H : Type} : DataW H → Nat
  | .lit (.string bytes) => bytes.length + 1
  | .lit _ => 1
  | .nil => 1
  | .ptr d => uptoBulk d + 1
  | .slice elems spare => uptoBulkAll elems + uptoBulkAll spare + 1
  | .agg parts => uptoBulkAll parts + 1
  | .iface _ d => uptoBulk d + 1
  | .map entries => uptoBulkEntries entries + 1
  | .held _ => 1
def uptoBulkAll {H : Type} : List (DataW H) → Nat
  | [] => 0
  | d :: r => uptoBulk d + uptoBulkAll r
def uptoBulkEntries {H : Type} : List (Lit × DataW H) → Nat
  | [] => 0
  | x :: r => uptoBulkEntry x + uptoBulkEntries r
def uptoBulkEntry {H : Type} : Lit × DataW H → Nat
  | (.string bytes, d) => bytes.length + uptoBulk d + 1
  | (_, d) => uptoBulk d + 1
 end
def uptoSmall : (H : Type) → List (DataW H) → Bool := fun _ ds => decide (uptoBulkAll ds ≤ 1048576)
def OpenSpec.upto (s : _root_.Go.ChangeSpec) : _root_.Go.OpenSpec := { _root_.Go.OpenSpec.ofChange s with cond := some uptoSmall }

/-- 'laws.FnExactExprValid', WHERE WHAT IT READS IS OF BULK AT MOST 1048576: true; the input reads as it did. -/
def fnExactExprValidUptoRow : OpenClaim := { program := "ytpdepihggpfmiaadoor", sum := "ff994d3d0ae638b623a86b342311eb1226529261048e0333649d2dca4306a1f2", func := "loop.example/productprograms/laws.FnExactExprValid", spec := "fnExactExprValid", inPlace := ["internal/abi.NoEscape", "internal/bytealg.MakeNoZero"], unfollowed := true, recurses := true, named := ["unicode.CaseRanges", "unicode/utf8.first", "unicode/utf8.acceptRanges"], apart := false, laid := [("unicode/utf8.acceptRanges", laid_unicode_utf8_acceptRanges), ("unicode.CaseRanges", laid_unicode_CaseRanges), ("unicode/utf8.first", laid_unicode_utf8_first)], narrowed := true }
def FnExactExprValidUptoSaid : Prop := fnExactExprValidUptoRow.holds Tryd.pinned (OpenSpec.upto fnExactExprValidSpec)

/-- 'laws.FnExactTestValid', WHERE WHAT IT READS IS OF BULK AT MOST 1048576: true; the input reads as it did. -/
def fnExactTestValidUptoRow : OpenClaim := { program := "ytpdepihggpfmiaadoor", sum := "ff994d3d0ae638b623a86b342311eb1226529261048e0333649d2dca4306a1f2", func := "loop.example/productprograms/laws.FnExactTestValid", spec := "fnExactTestValid", inPlace := ["internal/abi.NoEscape", "internal/bytealg.MakeNoZero"], unfollowed := true, recurses := true, named := ["unicode.CaseRanges", "unicode/utf8.first", "unicode/utf8.acceptRanges"], apart := false, laid := [("unicode/utf8.acceptRanges", laid_unicode_utf8_acceptRanges), ("unicode.CaseRanges", laid_unicode_CaseRanges), ("unicode/utf8.first", laid_unicode_utf8_first)], narrowed := true }
def FnExactTestValidUptoSaid : Prop := fnExactTestValidUptoRow.holds Tryd.pinned (OpenSpec.upto fnExactTestValidSpec)

/-- 'laws.FnExactEvalExpr', WHERE WHAT IT READS IS OF BULK AT MOST 1048576: true; the input reads as it did. -/
def fnExactEvalExprUptoRow : OpenClaim := { program := "ytpdepihggpfmiaadoor", sum := "ff994d3d0ae638b623a86b342311eb1226529261048e0333649d2dca4306a1f2", func := "loop.example/productprograms/laws.FnExactEvalExpr", spec := "fnExactEvalExpr", inPlace := ["internal/abi.NoEscape", "internal/bytealg.MakeNoZero"], unfollowed := true, recurses := true, named := ["unicode.CaseRanges", "unicode/utf8.first", "unicode/utf8.acceptRanges"], apart := false, laid := [("unicode/utf8.acceptRanges", laid_unicode_utf8_acceptRanges), ("unicode.CaseRanges", laid_unicode_CaseRanges), ("unicode/utf8.first", laid_unicode_utf8_first)], narrowed := true }
def FnExactEvalExprUptoSaid : Prop := fnExactEvalExprUptoRow.holds Tryd.pinned (OpenSpec.upto fnExactEvalExprSpec)

/-- 'laws.FnExactEvalTest', WHERE WHAT IT READS IS OF BULK AT MOST 1048576: true; the input reads as it did. -/
def fnExactEvalTestUptoRow : OpenClaim := { program := "ytpdepihggpfmiaadoor", sum := "ff994d3d0ae638b623a86b342311eb1226529261048e0333649d2dca4306a1f2", func := "loop.example/productprograms/laws.FnExactEvalTest", spec := "fnExactEvalTest", inPlace := ["internal/abi.NoEscape", "internal/bytealg.MakeNoZero"], unfollowed := true, recurses := true, named := ["unicode.CaseRanges", "unicode/utf8.first", "unicode/utf8.acceptRanges"], apart := false, laid := [("unicode/utf8.acceptRanges", laid_unicode_utf8_acceptRanges), ("unicode.CaseRanges", laid_unicode_CaseRanges), ("unicode/utf8.first", laid_unicode_utf8_first)], narrowed := true }
def FnExactEvalTestUptoSaid : Prop := fnExactEvalTestUptoRow.holds Tryd.pinned (OpenSpec.upto fnExactEvalTestSpec)

/-- 'laws.FnExactExprVars', WHERE WHAT IT READS IS OF BULK AT MOST 1048576: true; the input reads as it did. -/
def fnExactExprVarsUptoRow : OpenClaim := { program := "ytpdepihggpfmiaadoor", sum := "ff994d3d0ae638b623a86b342311eb1226529261048e0333649d2dca4306a1f2", func := "loop.example/productprograms/laws.FnExactExprVars", spec := "fnExactExprVars", inPlace := ["internal/abi.NoEscape", "internal/bytealg.MakeNoZero", "internal/bytealg.IndexByteString", "internal/bytealg.IndexString"], unfollowed := true, recurses := true, named := ["unicode.CaseRanges", "unicode/utf8.first", "unicode/utf8.acceptRanges", "internal/bytealg.MaxLen"], apart := false, laid := [("unicode/utf8.acceptRanges", laid_unicode_utf8_acceptRanges), ("unicode.CaseRanges", laid_unicode_CaseRanges), ("unicode/utf8.first", laid_unicode_utf8_first)], narrowed := true }
def FnExactExprVarsUptoSaid : Prop := fnExactExprVarsUptoRow.holds Tryd.pinned (OpenSpec.upto fnExactExprVarsSpec)

/-- 'laws.FnExactTestVars', WHERE WHAT IT READS IS OF BULK AT MOST 1048576: true; the input reads as it did. -/
def fnExactTestVarsUptoRow : OpenClaim := { program := "ytpdepihggpfmiaadoor", sum := "ff994d3d0ae638b623a86b342311eb1226529261048e0333649d2dca4306a1f2", func := "loop.example/productprograms/laws.FnExactTestVars", spec := "fnExactTestVars", inPlace := ["internal/abi.NoEscape", "internal/bytealg.MakeNoZero", "internal/bytealg.IndexByteString", "internal/bytealg.IndexString"], unfollowed := true, recurses := true, named := ["unicode.CaseRanges", "unicode/utf8.first", "unicode/utf8.acceptRanges", "internal/bytealg.MaxLen"], apart := false, laid := [("unicode/utf8.acceptRanges", laid_unicode_utf8_acceptRanges), ("unicode.CaseRanges", laid_unicode_CaseRanges), ("unicode/utf8.first", laid_unicode_utf8_first)], narrowed := true }
def FnExactTestVarsUptoSaid : Prop := fnExactTestVarsUptoRow.holds Tryd.pinned (OpenSpec.upto fnExactTestVarsSpec)

/-- 'laws.FnExactShowExpr', WHERE WHAT IT READS IS OF BULK AT MOST 1048576: true; the input reads as it did. -/
def fnExactShowExprUptoRow : OpenClaim := { program := "ytpdepihggpfmiaadoor", sum := "ff994d3d0ae638b623a86b342311eb1226529261048e0333649d2dca4306a1f2", func := "loop.example/productprograms/laws.FnExactShowExpr", spec := "fnExactShowExpr", inPlace := ["internal/abi.NoEscape", "internal/bytealg.MakeNoZero"], unfollowed := true, recurses := true, named := ["unicode.CaseRanges", "unicode/utf8.first", "unicode/utf8.acceptRanges"], apart := false, laid := [("unicode/utf8.acceptRanges", laid_unicode_utf8_acceptRanges), ("unicode.CaseRanges", laid_unicode_CaseRanges), ("unicode/utf8.first", laid_unicode_utf8_first)], narrowed := true }
def FnExactShowExprUptoSaid : Prop := fnExactShowExprUptoRow.holds Tryd.pinned (OpenSpec.upto fnExactShowExprSpec)

/-- 'laws.FnExactShowTest', WHERE WHAT IT READS IS OF BULK AT MOST 1048576: true; the input reads as it did. -/
def fnExactShowTestUptoRow : OpenClaim := { program := "ytpdepihggpfmiaadoor", sum := "ff994d3d0ae638b623a86b342311eb1226529261048e0333649d2dca4306a1f2", func := "loop.example/productprograms/laws.FnExactShowTest", spec := "fnExactShowTest", inPlace := ["internal/abi.NoEscape", "internal/bytealg.MakeNoZero"], unfollowed := true, recurses := true, named := ["unicode.CaseRanges", "unicode/utf8.first", "unicode/utf8.acceptRanges"], apart := false, laid := [("unicode/utf8.acceptRanges", laid_unicode_utf8_acceptRanges), ("unicode.CaseRanges", laid_unicode_CaseRanges), ("unicode/utf8.first", laid_unicode_utf8_first)], narrowed := true }
def FnExactShowTestUptoSaid : Prop := fnExactShowTestUptoRow.holds Tryd.pinned (OpenSpec.upto fnExactShowTestSpec)

/-- 'laws.FnExactFoldExpr', WHERE WHAT IT READS IS OF BULK AT MOST 1048576: true; the input reads as it did. -/
def fnExactFoldExprUptoRow : OpenClaim := { program := "ytpdepihggpfmiaadoor", sum := "ff994d3d0ae638b623a86b342311eb1226529261048e0333649d2dca4306a1f2", func := "loop.example/productprograms/laws.FnExactFoldExpr", spec := "fnExactFoldExpr", inPlace := ["internal/abi.NoEscape", "internal/bytealg.MakeNoZero"], unfollowed := true, recurses := true, named := ["unicode.CaseRanges", "unicode/utf8.first", "unicode/utf8.acceptRanges"], apart := false, laid := [("unicode/utf8.acceptRanges", laid_unicode_utf8_acceptRanges), ("unicode.CaseRanges", laid_unicode_CaseRanges), ("unicode/utf8.first", laid_unicode_utf8_first)], narrowed := true }
def FnExactFoldExprUptoSaid : Prop := fnExactFoldExprUptoRow.holds Tryd.pinned (OpenSpec.upto fnExactFoldExprSpec)

/-- 'laws.FnExactSubstExpr', WHERE WHAT IT READS IS OF BULK AT MOST 1048576: true; the input reads as it did. -/
def fnExactSubstExprUptoRow : OpenClaim := { program := "ytpdepihggpfmiaadoor", sum := "ff994d3d0ae638b623a86b342311eb1226529261048e0333649d2dca4306a1f2", func := "loop.example/productprograms/laws.FnExactSubstExpr", spec := "fnExactSubstExpr", inPlace := ["internal/abi.NoEscape", "internal/bytealg.MakeNoZero", "internal/bytealg.IndexByteString", "internal/bytealg.IndexString", "internal/bytealg.CountString"], unfollowed := true, recurses := true, named := ["unicode.CaseRanges", "unicode/utf8.first", "unicode/utf8.acceptRanges", "internal/bytealg.MaxLen"], apart := false, laid := [("unicode/utf8.acceptRanges", laid_unicode_utf8_acceptRanges), ("unicode.CaseRanges", laid_unicode_CaseRanges), ("unicode/utf8.first", laid_unicode_utf8_first)], narrowed := true }
def FnExactSubstExprUptoSaid : Prop := fnExactSubstExprUptoRow.holds Tryd.pinned (OpenSpec.upto fnExactSubstExprSpec)

/-- 'laws.FnExactSubstTest', WHERE WHAT IT READS IS OF BULK AT MOST 1048576: true; the input reads as it did. -/
def fnExactSubstTestUptoRow : OpenClaim := { program := "ytpdepihggpfmiaadoor", sum := "ff994d3d0ae638b623a86b342311eb1226529261048e0333649d2dca4306a1f2", func := "loop.example/productprograms/laws.FnExactSubstTest", spec := "fnExactSubstTest", inPlace := ["internal/abi.NoEscape", "internal/bytealg.MakeNoZero", "internal/bytealg.IndexByteString", "internal/bytealg.IndexString", "internal/bytealg.CountString"], unfollowed := true, recurses := true, named := ["unicode.CaseRanges", "unicode/utf8.first", "unicode/utf8.acceptRanges", "internal/bytealg.MaxLen"], apart := false, laid := [("unicode/utf8.acceptRanges", laid_unicode_utf8_acceptRanges), ("unicode.CaseRanges", laid_unicode_CaseRanges), ("unicode/utf8.first", laid_unicode_utf8_first)], narrowed := true }
def FnExactSubstTestUptoSaid : Prop := fnExactSubstTestUptoRow.holds Tryd.pinned (OpenSpec.upto fnExactSubstTestSpec)

end Rows
end Go.Proofs.YtpdepihggpfmiaaDoor
