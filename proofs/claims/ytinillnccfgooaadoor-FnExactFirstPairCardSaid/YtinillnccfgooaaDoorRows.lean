/-
  NARROWER THAN 'FOR EVERY INPUT', by the rows' own cells (each row's printed sentence says how): FnExactSequentialProduct: laid · FnExactLockstepProduct: laid · FnExactRightOf: laid · FnExactMirrorWide: laid · FnExactShowWide: laid · FnExactWideProgramValid: laid · FnExactWideValid: laid · FnExactEvalWide: laid · FnExactRelOf: laid · FnExactFirstPair: laid · FnExactStatementsOf: laid.
  DERIVED. THE GIVEN ROWS OF THIS SEAT. 11 by the template 'for every input the law returns true; each argument reads behind the call as it read before'; 0 by the template 'total and deterministic' (their statements: YtinillnccfgooaaDoorTotals.lean).
  GIVEN WITH THE SEED: the statements are not yours to turn. If you find one false, say at which input.
  Laid BY PROGRAM, IN A SANDBOX (cutbox-rows.mjs): the forced cells as the released guide's own fill.sh prints them over the translation 56277129439a38fd… (all of the seat's roots in one cut). By AI agents, Wed Nov 11 2026. No macro, syntax, notation, axiom, sorry.
-/
import Derived.Test.YtinillnccfgooaaDoorChecked
import GoSem.PinnedTables
import GoSem.Claim
import GoSem.ClaimJoined
import GoSem.ClaimMapViews
import Derived.JoinedTies
import Derived.KernelRfl
namespace Go.Proofs.YtinillnccfgooaaDoor
/- THE CELL 'sum', in the pinned program and in every row, IS THE sha256 OF THE DUMP (.gsa) THAT YtinillnccfgooaaDoorProg.lean LOADS. Nothing in Lean hashes anything: it is a label: what it is worth is what the hold of that sum in a sandbox is worth. -/
noncomputable def Tryd.pinned : Pinned := { name := "ytinillnccfgooaadoor", sum := "56277129439a38fdbf31af867e6e384489d6b92b5deb6c62c44537cd5ff1dde2", checked := Tryd.checked }
namespace Rows
def none {H : Type} : Left H := { results := [], args := [] }

/- WHAT THE LISTED PACKAGE-LEVEL VARIABLES READ AS WHEN THE CALL BEGINS. Each datum BY PROGRAM (the guide's laid-datum.mjs) off the statement by which the dump's own 'gosem.cut.vars' lays the variable. In a bare row this is a premise. The card (YtinillnccfgooaaDoorCards.lean) ties it to the program's text. -/
def laid_unicode_utf8_acceptRanges {H : Type} : DataW H := .agg [.agg [.lit (.int .u8 128), .lit (.int .u8 191)], .agg [.lit (.int .u8 160), .lit (.int .u8 191)], .agg [.lit (.int .u8 128), .lit (.int .u8 159)], .agg [.lit (.int .u8 144), .lit (.int .u8 191)], .agg [.lit (.int .u8 128), .lit (.int .u8 143)], .agg [.lit (.int .u8 0), .lit (.int .u8 0)], .agg [.lit (.int .u8 0), .lit (.int .u8 0)], .agg [.lit (.int .u8 0), .lit (.int .u8 0)], .agg [.lit (.int .u8 0), .lit (.int .u8 0)], .agg [.lit (.int .u8 0), .lit (.int .u8 0)], .agg [.lit (.int .u8 0), .lit (.int .u8 0)], .agg [.lit (.int .u8 0), .lit (.int .u8 0)], .agg [.lit (.int .u8 0), .lit (.int .u8 0)], .agg [.lit (.int .u8 0), .lit (.int .u8 0)], .agg [.lit (.int .u8 0), .lit (.int .u8 0)], .agg [.lit (.int .u8 0), .lit (.int .u8 0)]]
/-- One of Go's own tables, pinned by name: the form's constant. -/
def laid_unicode_CaseRanges : DataW Unit := Go.Pinned.caseRanges
/-- One of Go's own tables, pinned by name: the form's constant. -/
def laid_unicode_utf8_first : DataW Unit := Go.Pinned.utf8First
def laid_math_bits_deBruijn32tab {H : Type} : DataW H := .agg [.lit (.int .u8 0), .lit (.int .u8 1), .lit (.int .u8 28), .lit (.int .u8 2), .lit (.int .u8 29), .lit (.int .u8 14), .lit (.int .u8 24), .lit (.int .u8 3), .lit (.int .u8 30), .lit (.int .u8 22), .lit (.int .u8 20), .lit (.int .u8 15), .lit (.int .u8 25), .lit (.int .u8 17), .lit (.int .u8 4), .lit (.int .u8 8), .lit (.int .u8 31), .lit (.int .u8 27), .lit (.int .u8 13), .lit (.int .u8 23), .lit (.int .u8 21), .lit (.int .u8 19), .lit (.int .u8 16), .lit (.int .u8 7), .lit (.int .u8 26), .lit (.int .u8 12), .lit (.int .u8 18), .lit (.int .u8 6), .lit (.int .u8 11), .lit (.int .u8 5), .lit (.int .u8 10), .lit (.int .u8 9)]

/-- 'laws.FnExactSequentialProduct': WHATEVER THE INPUT: true; the input reads as it did. -/
def fnExactSequentialProductSpec : ChangeSpec := { name := "fnExactSequentialProduct", fn := fun _ => fun
  | [d1, d2] => { results := [.lit (.bool true)], args := [d1, d2] }
  | _ => none }
def fnExactSequentialProductRow : OpenClaim := { program := "ytinillnccfgooaadoor", sum := "56277129439a38fdbf31af867e6e384489d6b92b5deb6c62c44537cd5ff1dde2", func := "loop.example/productprograms/laws.FnExactSequentialProduct", spec := "fnExactSequentialProduct", inPlace := ["internal/abi.NoEscape", "internal/bytealg.MakeNoZero"], unfollowed := true, recurses := true, named := ["unicode.CaseRanges", "unicode/utf8.first", "unicode/utf8.acceptRanges"], apart := false, laid := [("unicode/utf8.acceptRanges", laid_unicode_utf8_acceptRanges), ("unicode.CaseRanges", laid_unicode_CaseRanges), ("unicode/utf8.first", laid_unicode_utf8_first)] }
def FnExactSequentialProductSaid : Prop := fnExactSequentialProductRow.holds Tryd.pinned (OpenSpec.ofChange fnExactSequentialProductSpec)

/-- ITS FALSE NEIGHBOUR: 'it returns false'. Refute it at one input. -/
def fnExactSequentialProductWrong : ChangeSpec := { name := "fnExactSequentialProduct", fn := fun _ => fun
  | [d1, d2] => { results := [.lit (.bool false)], args := [d1, d2] }
  | _ => none }
def FnExactSequentialProductWrongFalsely : Prop := fnExactSequentialProductRow.holds Tryd.pinned (OpenSpec.ofChange fnExactSequentialProductWrong)

/-- 'laws.FnExactLockstepProduct': WHATEVER THE INPUT: true; the input reads as it did. -/
def fnExactLockstepProductSpec : ChangeSpec := { name := "fnExactLockstepProduct", fn := fun _ => fun
  | [d1, d2] => { results := [.lit (.bool true)], args := [d1, d2] }
  | _ => none }
def fnExactLockstepProductRow : OpenClaim := { program := "ytinillnccfgooaadoor", sum := "56277129439a38fdbf31af867e6e384489d6b92b5deb6c62c44537cd5ff1dde2", func := "loop.example/productprograms/laws.FnExactLockstepProduct", spec := "fnExactLockstepProduct", inPlace := ["internal/abi.NoEscape", "internal/bytealg.MakeNoZero"], unfollowed := true, recurses := true, named := ["unicode.CaseRanges", "unicode/utf8.first", "unicode/utf8.acceptRanges"], apart := false, laid := [("unicode/utf8.acceptRanges", laid_unicode_utf8_acceptRanges), ("unicode.CaseRanges", laid_unicode_CaseRanges), ("unicode/utf8.first", laid_unicode_utf8_first)] }
def FnExactLockstepProductSaid : Prop := fnExactLockstepProductRow.holds Tryd.pinned (OpenSpec.ofChange fnExactLockstepProductSpec)

/-- ITS FALSE NEIGHBOUR: 'it returns false'. Refute it at one input. -/
def fnExactLockstepProductWrong : ChangeSpec := { name := "fnExactLockstepProduct", fn := fun _ => fun
  | [d1, d2] => { results := [.lit (.bool false)], args := [d1, d2] }
  | _ => none }
def FnExactLockstepProductWrongFalsely : Prop := fnExactLockstepProductRow.holds Tryd.pinned (OpenSpec.ofChange fnExactLockstepProductWrong)

/-- 'laws.FnExactRightOf': WHATEVER THE INPUT: true; the input reads as it did. -/
def fnExactRightOfSpec : ChangeSpec := { name := "fnExactRightOf", fn := fun _ => fun
  | [d] => { results := [.lit (.bool true)], args := [d] }
  | _ => none }
def fnExactRightOfRow : OpenClaim := { program := "ytinillnccfgooaadoor", sum := "56277129439a38fdbf31af867e6e384489d6b92b5deb6c62c44537cd5ff1dde2", func := "loop.example/productprograms/laws.FnExactRightOf", spec := "fnExactRightOf", inPlace := ["internal/abi.NoEscape", "internal/bytealg.MakeNoZero"], unfollowed := true, recurses := true, named := ["unicode.CaseRanges", "unicode/utf8.first", "unicode/utf8.acceptRanges"], apart := false, laid := [("unicode/utf8.acceptRanges", laid_unicode_utf8_acceptRanges), ("unicode.CaseRanges", laid_unicode_CaseRanges), ("unicode/utf8.first", laid_unicode_utf8_first)] }
def FnExactRightOfSaid : Prop := fnExactRightOfRow.holds Tryd.pinned (OpenSpec.ofChange fnExactRightOfSpec)

/-- ITS FALSE NEIGHBOUR: 'it returns false'. Refute it at one input. -/
def fnExactRightOfWrong : ChangeSpec := { name := "fnExactRightOf", fn := fun _ => fun
  | [d] => { results := [.lit (.bool false)], args := [d] }
  | _ => none }
def FnExactRightOfWrongFalsely : Prop := fnExactRightOfRow.holds Tryd.pinned (OpenSpec.ofChange fnExactRightOfWrong)

/-- 'laws.FnExactMirrorWide': WHATEVER THE INPUT: true; the input reads as it did. -/
def fnExactMirrorWideSpec : ChangeSpec := { name := "fnExactMirrorWide", fn := fun _ => fun
  | [d] => { results := [.lit (.bool true)], args := [d] }
  | _ => none }
def fnExactMirrorWideRow : OpenClaim := { program := "ytinillnccfgooaadoor", sum := "56277129439a38fdbf31af867e6e384489d6b92b5deb6c62c44537cd5ff1dde2", func := "loop.example/productprograms/laws.FnExactMirrorWide", spec := "fnExactMirrorWide", inPlace := ["internal/abi.NoEscape", "internal/bytealg.MakeNoZero"], unfollowed := true, recurses := true, named := ["unicode.CaseRanges", "unicode/utf8.first", "unicode/utf8.acceptRanges"], apart := false, laid := [("unicode/utf8.acceptRanges", laid_unicode_utf8_acceptRanges), ("unicode.CaseRanges", laid_unicode_CaseRanges), ("unicode/utf8.first", laid_unicode_utf8_first)] }
def FnExactMirrorWideSaid : Prop := fnExactMirrorWideRow.holds Tryd.pinned (OpenSpec.ofChange fnExactMirrorWideSpec)

/-- ITS FALSE NEIGHBOUR: 'it returns false'. Refute it at one input. -/
def fnExactMirrorWideWrong : ChangeSpec := { name := "fnExactMirrorWide", fn := fun _ => fun
  | [d] => { results := [.lit (.bool false)], args := [d] }
  | _ => none }
def FnExactMirrorWideWrongFalsely : Prop := fnExactMirrorWideRow.holds Tryd.pinned (OpenSpec.ofChange fnExactMirrorWideWrong)

/-- 'laws.FnExactShowWide': WHATEVER THE INPUT: true; the input reads as it did. -/
def fnExactShowWideSpec : ChangeSpec := { name := "fnExactShowWide", fn := fun _ => fun
  | [d] => { results := [.lit (.bool true)], args := [d] }
  | _ => none }
def fnExactShowWideRow : OpenClaim := { program := "ytinillnccfgooaadoor", sum := "56277129439a38fdbf31af867e6e384489d6b92b5deb6c62c44537cd5ff1dde2", func := "loop.example/productprograms/laws.FnExactShowWide", spec := "fnExactShowWide", inPlace := ["internal/abi.NoEscape", "internal/bytealg.MakeNoZero"], unfollowed := true, recurses := true, named := ["unicode.CaseRanges", "unicode/utf8.first", "unicode/utf8.acceptRanges"], apart := false, laid := [("unicode/utf8.acceptRanges", laid_unicode_utf8_acceptRanges), ("unicode.CaseRanges", laid_unicode_CaseRanges), ("unicode/utf8.first", laid_unicode_utf8_first)] }
def FnExactShowWideSaid : Prop := fnExactShowWideRow.holds Tryd.pinned (OpenSpec.ofChange fnExactShowWideSpec)

/-- ITS FALSE NEIGHBOUR: 'it returns false'. Refute it at one input. -/
def fnExactShowWideWrong : ChangeSpec := { name := "fnExactShowWide", fn := fun _ => fun
  | [d] => { results := [.lit (.bool false)], args := [d] }
  | _ => none }
def FnExactShowWideWrongFalsely : Prop := fnExactShowWideRow.holds Tryd.pinned (OpenSpec.ofChange fnExactShowWideWrong)

/-- 'laws.FnExactWideProgramValid': WHATEVER THE INPUT: true; the input reads as it did. -/
def fnExactWideProgramValidSpec : ChangeSpec := { name := "fnExactWideProgramValid", fn := fun _ => fun
  | [d] => { results := [.lit (.bool true)], args := [d] }
  | _ => none }
def fnExactWideProgramValidRow : OpenClaim := { program := "ytinillnccfgooaadoor", sum := "56277129439a38fdbf31af867e6e384489d6b92b5deb6c62c44537cd5ff1dde2", func := "loop.example/productprograms/laws.FnExactWideProgramValid", spec := "fnExactWideProgramValid", inPlace := ["internal/abi.NoEscape", "internal/bytealg.MakeNoZero"], unfollowed := true, recurses := true, named := ["unicode.CaseRanges", "unicode/utf8.first", "unicode/utf8.acceptRanges"], apart := false, laid := [("unicode/utf8.acceptRanges", laid_unicode_utf8_acceptRanges), ("unicode.CaseRanges", laid_unicode_CaseRanges), ("unicode/utf8.first", laid_unicode_utf8_first)] }
def FnExactWideProgramValidSaid : Prop := fnExactWideProgramValidRow.holds Tryd.pinned (OpenSpec.ofChange fnExactWideProgramValidSpec)

/-- ITS FALSE NEIGHBOUR: 'it returns false'. Refute it at one input. -/
def fnExactWideProgramValidWrong : ChangeSpec := { name := "fnExactWideProgramValid", fn := fun _ => fun
  | [d] => { results := [.lit (.bool false)], args := [d] }
  | _ => none }
def FnExactWideProgramValidWrongFalsely : Prop := fnExactWideProgramValidRow.holds Tryd.pinned (OpenSpec.ofChange fnExactWideProgramValidWrong)

/-- 'laws.FnExactWideValid': WHATEVER THE INPUT: true; the input reads as it did. -/
def fnExactWideValidSpec : ChangeSpec := { name := "fnExactWideValid", fn := fun _ => fun
  | [d] => { results := [.lit (.bool true)], args := [d] }
  | _ => none }
def fnExactWideValidRow : OpenClaim := { program := "ytinillnccfgooaadoor", sum := "56277129439a38fdbf31af867e6e384489d6b92b5deb6c62c44537cd5ff1dde2", func := "loop.example/productprograms/laws.FnExactWideValid", spec := "fnExactWideValid", inPlace := ["internal/abi.NoEscape", "internal/bytealg.MakeNoZero"], unfollowed := true, recurses := true, named := ["unicode.CaseRanges", "unicode/utf8.first", "unicode/utf8.acceptRanges"], apart := false, laid := [("unicode/utf8.acceptRanges", laid_unicode_utf8_acceptRanges), ("unicode.CaseRanges", laid_unicode_CaseRanges), ("unicode/utf8.first", laid_unicode_utf8_first)] }
def FnExactWideValidSaid : Prop := fnExactWideValidRow.holds Tryd.pinned (OpenSpec.ofChange fnExactWideValidSpec)

/-- ITS FALSE NEIGHBOUR: 'it returns false'. Refute it at one input. -/
def fnExactWideValidWrong : ChangeSpec := { name := "fnExactWideValid", fn := fun _ => fun
  | [d] => { results := [.lit (.bool false)], args := [d] }
  | _ => none }
def FnExactWideValidWrongFalsely : Prop := fnExactWideValidRow.holds Tryd.pinned (OpenSpec.ofChange fnExactWideValidWrong)

/-- 'laws.FnExactEvalWide': WHATEVER THE INPUT: true; the input reads as it did. -/
def fnExactEvalWideSpec : ChangeSpec := { name := "fnExactEvalWide", fn := fun _ => fun
  | [d1, d2, d3] => { results := [.lit (.bool true)], args := [d1, d2, d3] }
  | _ => none }
def fnExactEvalWideRow : OpenClaim := { program := "ytinillnccfgooaadoor", sum := "56277129439a38fdbf31af867e6e384489d6b92b5deb6c62c44537cd5ff1dde2", func := "loop.example/productprograms/laws.FnExactEvalWide", spec := "fnExactEvalWide", inPlace := ["internal/abi.NoEscape", "internal/bytealg.MakeNoZero"], unfollowed := true, recurses := true, named := ["unicode.CaseRanges", "unicode/utf8.first", "unicode/utf8.acceptRanges"], apart := false, laid := [("unicode/utf8.acceptRanges", laid_unicode_utf8_acceptRanges), ("unicode.CaseRanges", laid_unicode_CaseRanges), ("unicode/utf8.first", laid_unicode_utf8_first)] }
def FnExactEvalWideSaid : Prop := fnExactEvalWideRow.holds Tryd.pinned (OpenSpec.ofChange fnExactEvalWideSpec)

/-- ITS FALSE NEIGHBOUR: 'it returns false'. Refute it at one input. -/
def fnExactEvalWideWrong : ChangeSpec := { name := "fnExactEvalWide", fn := fun _ => fun
  | [d1, d2, d3] => { results := [.lit (.bool false)], args := [d1, d2, d3] }
  | _ => none }
def FnExactEvalWideWrongFalsely : Prop := fnExactEvalWideRow.holds Tryd.pinned (OpenSpec.ofChange fnExactEvalWideWrong)

/-- 'laws.FnExactRelOf': WHATEVER THE INPUT: true; the input reads as it did. -/
def fnExactRelOfSpec : ChangeSpec := { name := "fnExactRelOf", fn := fun _ => fun
  | [d] => { results := [.lit (.bool true)], args := [d] }
  | _ => none }
def fnExactRelOfRow : OpenClaim := { program := "ytinillnccfgooaadoor", sum := "56277129439a38fdbf31af867e6e384489d6b92b5deb6c62c44537cd5ff1dde2", func := "loop.example/productprograms/laws.FnExactRelOf", spec := "fnExactRelOf", inPlace := ["internal/abi.NoEscape", "internal/bytealg.MakeNoZero"], unfollowed := true, recurses := true, named := ["unicode.CaseRanges", "unicode/utf8.first", "unicode/utf8.acceptRanges"], apart := false, laid := [("unicode/utf8.acceptRanges", laid_unicode_utf8_acceptRanges), ("unicode.CaseRanges", laid_unicode_CaseRanges), ("unicode/utf8.first", laid_unicode_utf8_first)] }
def FnExactRelOfSaid : Prop := fnExactRelOfRow.holds Tryd.pinned (OpenSpec.ofChange fnExactRelOfSpec)

/-- ITS FALSE NEIGHBOUR: 'it returns false'. Refute it at one input. -/
def fnExactRelOfWrong : ChangeSpec := { name := "fnExactRelOf", fn := fun _ => fun
  | [d] => { results := [.lit (.bool false)], args := [d] }
  | _ => none }
def FnExactRelOfWrongFalsely : Prop := fnExactRelOfRow.holds Tryd.pinned (OpenSpec.ofChange fnExactRelOfWrong)

/-- 'laws.FnExactFirstPair': WHATEVER THE INPUT: true; the input reads as it did. -/
def fnExactFirstPairSpec : ChangeSpec := { name := "fnExactFirstPair", fn := fun _ => fun
  | [d] => { results := [.lit (.bool true)], args := [d] }
  | _ => none }
def fnExactFirstPairRow : OpenClaim := { program := "ytinillnccfgooaadoor", sum := "56277129439a38fdbf31af867e6e384489d6b92b5deb6c62c44537cd5ff1dde2", func := "loop.example/productprograms/laws.FnExactFirstPair", spec := "fnExactFirstPair", named := ["math/bits.deBruijn32tab"], apart := false, laid := [("math/bits.deBruijn32tab", laid_math_bits_deBruijn32tab)] }
def FnExactFirstPairSaid : Prop := fnExactFirstPairRow.holds Tryd.pinned (OpenSpec.ofChange fnExactFirstPairSpec)

/-- ITS FALSE NEIGHBOUR: 'it returns false'. Refute it at one input. -/
def fnExactFirstPairWrong : ChangeSpec := { name := "fnExactFirstPair", fn := fun _ => fun
  | [d] => { results := [.lit (.bool false)], args := [d] }
  | _ => none }
def FnExactFirstPairWrongFalsely : Prop := fnExactFirstPairRow.holds Tryd.pinned (OpenSpec.ofChange fnExactFirstPairWrong)

/-- 'laws.FnExactStatementsOf': WHATEVER THE INPUT: true; the input reads as it did. -/
def fnExactStatementsOfSpec : ChangeSpec := { name := "fnExactStatementsOf", fn := fun _ => fun
  | [d] => { results := [.lit (.bool true)], args := [d] }
  | _ => none }
def fnExactStatementsOfRow : OpenClaim := { program := "ytinillnccfgooaadoor", sum := "56277129439a38fdbf31af867e6e384489d6b92b5deb6c62c44537cd5ff1dde2", func := "loop.example/productprograms/laws.FnExactStatementsOf", spec := "fnExactStatementsOf", inPlace := ["internal/abi.NoEscape", "internal/bytealg.MakeNoZero"], unfollowed := true, recurses := true, named := ["unicode.CaseRanges", "unicode/utf8.first", "unicode/utf8.acceptRanges"], apart := false, laid := [("unicode/utf8.acceptRanges", laid_unicode_utf8_acceptRanges), ("unicode.CaseRanges", laid_unicode_CaseRanges), ("unicode/utf8.first", laid_unicode_utf8_first)] }
def FnExactStatementsOfSaid : Prop := fnExactStatementsOfRow.holds Tryd.pinned (OpenSpec.ofChange fnExactStatementsOfSpec)

/-- ITS FALSE NEIGHBOUR: 'it returns false'. Refute it at one input. -/
def fnExactStatementsOfWrong : ChangeSpec := { name := "fnExactStatementsOf", fn := fun _ => fun
  | [d] => { results := [.lit (.bool false)], args := [d] }
  | _ => none }
def FnExactStatementsOfWrongFalsely : Prop := fnExactStatementsOfRow.holds Tryd.pinned (OpenSpec.ofChange fnExactStatementsOfWrong)

/- THE SECOND FORM. 'bulk': how many values and letters a reading holds, each counted each time it is reached (what is shared counts as often as it is met; a slice's spare places count too). A statement '..UptoSaid' is the law's where the arguments, and the package variables that the reading takes, are together of bulk at most 1048576: NARROWER than '..Said'. Prove '..Said' where nothing that the law and all that it calls make is longer than what came in: it says more and counts as full. Else prove '..UptoSaid'. A law counts once. -/
mutual
def uptoBulk {H : Type} : DataW H → Nat
  | .lit (.string bytes) => bytes.length + 1
  | .lit _ => 1
  | .nil => 1
  | .ptr d => uptoBulk d + 1
  | .slice elems spare => uptoBulkAll elems + uptoBulkAll spare + 1
  | .agg parts => uptoBulkAll parts + 1
  | .iface _ d => uptoBulk d + 1
  | .map entries => uptoBulkEntries entries + 1
  | .held _ => 1
def uptoBulkAll {H : Type} : List (DataW H) → Nat
  | [] => 0
  | d :: r => uptoBulk d + uptoBulkAll r
def uptoBulkEntries {H : Type} : List (Lit × DataW H) → Nat
  | [] => 0
  | x :: r => uptoBulkEntry x + uptoBulkEntries r
def uptoBulkEntry {H : Type} : Lit × DataW H → Nat
  | (.string bytes, d) => bytes.length + uptoBulk d + 1
  | (_, d) => uptoBulk d + 1
 end
def uptoSmall : (H : Type) → List (DataW H) → Bool := fun _ ds => decide (uptoBulkAll ds ≤ 1048576)
def OpenSpec.upto (s : _root_.Go.ChangeSpec) : _root_.Go.OpenSpec := { _root_.Go.OpenSpec.ofChange s with cond := some uptoSmall }

/-- 'laws.FnExactSequentialProduct', WHERE WHAT IT READS IS OF BULK AT MOST 1048576: true; the input reads as it did. -/
def fnExactSequentialProductUptoRow : OpenClaim := { program := "ytinillnccfgooaadoor", sum := "56277129439a38fdbf31af867e6e384489d6b92b5deb6c62c44537cd5ff1dde2", func := "loop.example/productprograms/laws.FnExactSequentialProduct", spec := "fnExactSequentialProduct", inPlace := ["internal/abi.NoEscape", "internal/bytealg.MakeNoZero"], unfollowed := true, recurses := true, named := ["unicode.CaseRanges", "unicode/utf8.first", "unicode/utf8.acceptRanges"], apart := false, laid := [("unicode/utf8.acceptRanges", laid_unicode_utf8_acceptRanges), ("unicode.CaseRanges", laid_unicode_CaseRanges), ("unicode/utf8.first", laid_unicode_utf8_first)], narrowed := true }
def FnExactSequentialProductUptoSaid : Prop := fnExactSequentialProductUptoRow.holds Tryd.pinned (OpenSpec.upto fnExactSequentialProductSpec)

/-- 'laws.FnExactLockstepProduct', WHERE WHAT IT READS IS OF BULK AT MOST 1048576: true; the input reads as it did. -/
def fnExactLockstepProductUptoRow : OpenClaim := { program := "ytinillnccfgooaadoor", sum := "56277129439a38fdbf31af867e6e384489d6b92b5deb6c62c44537cd5ff1dde2", func := "loop.example/productprograms/laws.FnExactLockstepProduct", spec := "fnExactLockstepProduct", inPlace := ["internal/abi.NoEscape", "internal/bytealg.MakeNoZero"], unfollowed := true, recurses := true, named := ["unicode.CaseRanges", "unicode/utf8.first", "unicode/utf8.acceptRanges"], apart := false, laid := [("unicode/utf8.acceptRanges", laid_unicode_utf8_acceptRanges), ("unicode.CaseRanges", laid_unicode_CaseRanges), ("unicode/utf8.first", laid_unicode_utf8_first)], narrowed := true }
def FnExactLockstepProductUptoSaid : Prop := fnExactLockstepProductUptoRow.holds Tryd.pinned (OpenSpec.upto fnExactLockstepProductSpec)

/-- 'laws.FnExactRightOf', WHERE WHAT IT READS IS OF BULK AT MOST 1048576: true; the input reads as it did. -/
def fnExactRightOfUptoRow : OpenClaim := { program := "ytinillnccfgooaadoor", sum := "56277129439a38fdbf31af867e6e384489d6b92b5deb6c62c44537cd5ff1dde2", func := "loop.example/productprograms/laws.FnExactRightOf", spec := "fnExactRightOf", inPlace := ["internal/abi.NoEscape", "internal/bytealg.MakeNoZero"], unfollowed := true, recurses := true, named := ["unicode.CaseRanges", "unicode/utf8.first", "unicode/utf8.acceptRanges"], apart := false, laid := [("unicode/utf8.acceptRanges", laid_unicode_utf8_acceptRanges), ("unicode.CaseRanges", laid_unicode_CaseRanges), ("unicode/utf8.first", laid_unicode_utf8_first)], narrowed := true }
def FnExactRightOfUptoSaid : Prop := fnExactRightOfUptoRow.holds Tryd.pinned (OpenSpec.upto fnExactRightOfSpec)

/-- 'laws.FnExactMirrorWide', WHERE WHAT IT READS IS OF BULK AT MOST 1048576: true; the input reads as it did. -/
def fnExactMirrorWideUptoRow : OpenClaim := { program := "ytinillnccfgooaadoor", sum := "56277129439a38fdbf31af867e6e384489d6b92b5deb6c62c44537cd5ff1dde2", func := "loop.example/productprograms/laws.FnExactMirrorWide", spec := "fnExactMirrorWide", inPlace := ["internal/abi.NoEscape", "internal/bytealg.MakeNoZero"], unfollowed := true, recurses := true, named := ["unicode.CaseRanges", "unicode/utf8.first", "unicode/utf8.acceptRanges"], apart := false, laid := [("unicode/utf8.acceptRanges", laid_unicode_utf8_acceptRanges), ("unicode.CaseRanges", laid_unicode_CaseRanges), ("unicode/utf8.first", laid_unicode_utf8_first)], narrowed := true }
def FnExactMirrorWideUptoSaid : Prop := fnExactMirrorWideUptoRow.holds Tryd.pinned (OpenSpec.upto fnExactMirrorWideSpec)

/-- 'laws.FnExactShowWide', WHERE WHAT IT READS IS OF BULK AT MOST 1048576: true; the input reads as it did. -/
def fnExactShowWideUptoRow : OpenClaim := { program := "ytinillnccfgooaadoor", sum := "56277129439a38fdbf31af867e6e384489d6b92b5deb6c62c44537cd5ff1dde2", func := "loop.example/productprograms/laws.FnExactShowWide", spec := "fnExactShowWide", inPlace := ["internal/abi.NoEscape", "internal/bytealg.MakeNoZero"], unfollowed := true, recurses := true, named := ["unicode.CaseRanges", "unicode/utf8.first", "unicode/utf8.acceptRanges"], apart := false, laid := [("unicode/utf8.acceptRanges", laid_unicode_utf8_acceptRanges), ("unicode.CaseRanges", laid_unicode_CaseRanges), ("unicode/utf8.first", laid_unicode_utf8_first)], narrowed := true }
def FnExactShowWideUptoSaid : Prop := fnExactShowWideUptoRow.holds Tryd.pinned (OpenSpec.upto fnExactShowWideSpec)

/-- 'laws.FnExactWideProgramValid', WHERE WHAT IT READS IS OF BULK AT MOST 1048576: true; the input reads as it did. -/
def fnExactWideProgramValidUptoRow : OpenClaim := { program := "ytinillnccfgooaadoor", sum := "56277129439a38fdbf31af867e6e384489d6b92b5deb6c62c44537cd5ff1dde2", func := "loop.example/productprograms/laws.FnExactWideProgramValid", spec := "fnExactWideProgramValid", inPlace := ["internal/abi.NoEscape", "internal/bytealg.MakeNoZero"], unfollowed := true, recurses := true, named := ["unicode.CaseRanges", "unicode/utf8.first", "unicode/utf8.acceptRanges"], apart := false, laid := [("unicode/utf8.acceptRanges", laid_unicode_utf8_acceptRanges), ("unicode.CaseRanges", laid_unicode_CaseRanges), ("unicode/utf8.first", laid_unicode_utf8_first)], narrowed := true }
def FnExactWideProgramValidUptoSaid : Prop := fnExactWideProgramValidUptoRow.holds Tryd.pinned (OpenSpec.upto fnExactWideProgramValidSpec)

/-- 'laws.FnExactWideValid', WHERE WHAT IT READS IS OF BULK AT MOST 1048576: true; the input reads as it did. -/
def fnExactWideValidUptoRow : OpenClaim := { program := "ytinillnccfgooaadoor", sum := "56277129439a38fdbf31af867e6e384489d6b92b5deb6c62c44537cd5ff1dde2", func := "loop.example/productprograms/laws.FnExactWideValid", spec := "fnExactWideValid", inPlace := ["internal/abi.NoEscape", "internal/bytealg.MakeNoZero"], unfollowed := true, recurses := true, named := ["unicode.CaseRanges", "unicode/utf8.first", "unicode/utf8.acceptRanges"], apart := false, laid := [("unicode/utf8.acceptRanges", laid_unicode_utf8_acceptRanges), ("unicode.CaseRanges", laid_unicode_CaseRanges), ("unicode/utf8.first", laid_unicode_utf8_first)], narrowed := true }
def FnExactWideValidUptoSaid : Prop := fnExactWideValidUptoRow.holds Tryd.pinned (OpenSpec.upto fnExactWideValidSpec)

/-- 'laws.FnExactEvalWide', WHERE WHAT IT READS IS OF BULK AT MOST 1048576: true; the input reads as it did. -/
def fnExactEvalWideUptoRow : OpenClaim := { program := "ytinillnccfgooaadoor", sum := "56277129439a38fdbf31af867e6e384489d6b92b5deb6c62c44537cd5ff1dde2", func := "loop.example/productprograms/laws.FnExactEvalWide", spec := "fnExactEvalWide", inPlace := ["internal/abi.NoEscape", "internal/bytealg.MakeNoZero"], unfollowed := true, recurses := true, named := ["unicode.CaseRanges", "unicode/utf8.first", "unicode/utf8.acceptRanges"], apart := false, laid := [("unicode/utf8.acceptRanges", laid_unicode_utf8_acceptRanges), ("unicode.CaseRanges", laid_unicode_CaseRanges), ("unicode/utf8.first", laid_unicode_utf8_first)], narrowed := true }
def FnExactEvalWideUptoSaid : Prop := fnExactEvalWideUptoRow.holds Tryd.pinned (OpenSpec.upto fnExactEvalWideSpec)

/-- 'laws.FnExactRelOf', WHERE WHAT IT READS IS OF BULK AT MOST 1048576: true; the input reads as it did. -/
def fnExactRelOfUptoRow : OpenClaim := { program := "ytinillnccfgooaadoor", sum := "56277129439a38fdbf31af867e6e384489d6b92b5deb6c62c44537cd5ff1dde2", func := "loop.example/productprograms/laws.FnExactRelOf", spec := "fnExactRelOf", inPlace := ["internal/abi.NoEscape", "internal/bytealg.MakeNoZero"], unfollowed := true, recurses := true, named := ["unicode.CaseRanges", "unicode/utf8.first", "unicode/utf8.acceptRanges"], apart := false, laid := [("unicode/utf8.acceptRanges", laid_unicode_utf8_acceptRanges), ("unicode.CaseRanges", laid_unicode_CaseRanges), ("unicode/utf8.first", laid_unicode_utf8_first)], narrowed := true }
def FnExactRelOfUptoSaid : Prop := fnExactRelOfUptoRow.holds Tryd.pinned (OpenSpec.upto fnExactRelOfSpec)

/-- 'laws.FnExactFirstPair', WHERE WHAT IT READS IS OF BULK AT MOST 1048576: true; the input reads as it did. -/
def fnExactFirstPairUptoRow : OpenClaim := { program := "ytinillnccfgooaadoor", sum := "56277129439a38fdbf31af867e6e384489d6b92b5deb6c62c44537cd5ff1dde2", func := "loop.example/productprograms/laws.FnExactFirstPair", spec := "fnExactFirstPair", named := ["math/bits.deBruijn32tab"], apart := false, laid := [("math/bits.deBruijn32tab", laid_math_bits_deBruijn32tab)], narrowed := true }
def FnExactFirstPairUptoSaid : Prop := fnExactFirstPairUptoRow.holds Tryd.pinned (OpenSpec.upto fnExactFirstPairSpec)

/-- 'laws.FnExactStatementsOf', WHERE WHAT IT READS IS OF BULK AT MOST 1048576: true; the input reads as it did. -/
def fnExactStatementsOfUptoRow : OpenClaim := { program := "ytinillnccfgooaadoor", sum := "56277129439a38fdbf31af867e6e384489d6b92b5deb6c62c44537cd5ff1dde2", func := "loop.example/productprograms/laws.FnExactStatementsOf", spec := "fnExactStatementsOf", inPlace := ["internal/abi.NoEscape", "internal/bytealg.MakeNoZero"], unfollowed := true, recurses := true, named := ["unicode.CaseRanges", "unicode/utf8.first", "unicode/utf8.acceptRanges"], apart := false, laid := [("unicode/utf8.acceptRanges", laid_unicode_utf8_acceptRanges), ("unicode.CaseRanges", laid_unicode_CaseRanges), ("unicode/utf8.first", laid_unicode_utf8_first)], narrowed := true }
def FnExactStatementsOfUptoSaid : Prop := fnExactStatementsOfUptoRow.holds Tryd.pinned (OpenSpec.upto fnExactStatementsOfSpec)

end Rows
end Go.Proofs.YtinillnccfgooaaDoor
