/-
  NARROWER THAN 'FOR EVERY INPUT', by the rows' own cells (each row's printed sentence says how): FnRelOf: laid · FnEvalWide: laid · FnFirstPair: laid · FnExactStatementsOf: laid · FnExactLockstepProduct: laid.
  DERIVED. THE GIVEN ROWS OF THIS SEAT. 5 by the template 'for every input the law returns true; each argument reads behind the call as it read before'; 0 by the template 'total and deterministic' (their statements: YtheclmdpiijakaaDoorTotals.lean).
  GIVEN WITH THE SEED: the statements are not yours to turn. If you find one false, say at which input.
  Laid BY PROGRAM, IN A SANDBOX (cutbox-rows.mjs): the forced cells as the released guide's own fill.sh prints them over the translation 9716031f06ec39d4… (all of the seat's roots in one cut). By AI agents, Wed Nov 11 2026. No macro, syntax, notation, axiom, sorry.
-/
import Derived.Test.YtheclmdpiijakaaDoorChecked
import GoSem.PinnedTables
import GoSem.Claim
import GoSem.ClaimJoined
import GoSem.ClaimMapViews
import Derived.JoinedTies
import Derived.KernelRfl
namespace Go.Proofs.YtheclmdpiijakaaDoor
/- THE CELL 'sum', in the pinned program and in every row, IS THE sha256 OF THE DUMP (.gsa) THAT YtheclmdpiijakaaDoorProg.lean LOADS. Nothing in Lean hashes anything: it is a label: what it is worth is what the hold of that sum in a sandbox is worth. -/
noncomputable def Tryd.pinned : Pinned := { name := "ytheclmdpiijakaadoor", sum := "9716031f06ec39d4fa92288da15a2af5b27be84e5df506aedb0332820701529e", checked := Tryd.checked }
namespace Rows
def none {H : Type} : Left H := { results := [], args := [] }

/- WHAT THE LISTED PACKAGE-LEVEL VARIABLES READ AS WHEN THE CALL BEGINS. Each datum BY PROGRAM (the guide's laid-datum.mjs) off the statement by which the dump's own 'gosem.cut.vars' lays the variable. In a bare row this is a premise. The card (YtheclmdpiijakaaDoorCards.lean) ties it to the program's text. -/
def laid_unicode_utf8_acceptRanges {H : Type} : DataW H := .agg [.agg [.lit (.int .u8 128), .lit (.int .u8 191)], .agg [.lit (.int .u8 160), .lit (.int .u8 191)], .agg [.lit (.int .u8 128), .lit (.int .u8 159)], .agg [.lit (.int .u8 144), .lit (.int .u8 191)], .agg [.lit (.int .u8 128), .lit (.int .u8 143)], .agg [.lit (.int .u8 0), .lit (.int .u8 0)], .agg [.lit (.int .u8 0), .lit (.int .u8 0)], .agg [.lit (.int .u8 0), .lit (.int .u8 0)], .agg [.lit (.int .u8 0), .lit (.int .u8 0)], .agg [.lit (.int .u8 0), .lit (.int .u8 0)], .agg [.lit (.int .u8 0), .lit (.int .u8 0)], .agg [.lit (.int .u8 0), .lit (.int .u8 0)], .agg [.lit (.int .u8 0), .lit (.int .u8 0)], .agg [.lit (.int .u8 0), .lit (.int .u8 0)], .agg [.lit (.int .u8 0), .lit (.int .u8 0)], .agg [.lit (.int .u8 0), .lit (.int .u8 0)]]
/-- One of Go's own tables, pinned by name: the form's constant. -/
def laid_unicode_CaseRanges : DataW Unit := Go.Pinned.caseRanges
/-- One of Go's own tables, pinned by name: the form's constant. -/
def laid_unicode_utf8_first : DataW Unit := Go.Pinned.utf8First
def laid_math_bits_deBruijn32tab {H : Type} : DataW H := .agg [.lit (.int .u8 0), .lit (.int .u8 1), .lit (.int .u8 28), .lit (.int .u8 2), .lit (.int .u8 29), .lit (.int .u8 14), .lit (.int .u8 24), .lit (.int .u8 3), .lit (.int .u8 30), .lit (.int .u8 22), .lit (.int .u8 20), .lit (.int .u8 15), .lit (.int .u8 25), .lit (.int .u8 17), .lit (.int .u8 4), .lit (.int .u8 8), .lit (.int .u8 31), .lit (.int .u8 27), .lit (.int .u8 13), .lit (.int .u8 23), .lit (.int .u8 21), .lit (.int .u8 19), .lit (.int .u8 16), .lit (.int .u8 7), .lit (.int .u8 26), .lit (.int .u8 12), .lit (.int .u8 18), .lit (.int .u8 6), .lit (.int .u8 11), .lit (.int .u8 5), .lit (.int .u8 10), .lit (.int .u8 9)]

/-- 'laws.FnRelOf': WHATEVER THE INPUT: true; the input reads as it did. -/
def fnRelOfSpec : ChangeSpec := { name := "fnRelOf", fn := fun _ => fun
  | [d] => { results := [.lit (.bool true)], args := [d] }
  | _ => none }
def fnRelOfRow : OpenClaim := { program := "ytheclmdpiijakaadoor", sum := "9716031f06ec39d4fa92288da15a2af5b27be84e5df506aedb0332820701529e", func := "loop.example/productprograms/laws.FnRelOf", spec := "fnRelOf", inPlace := ["internal/abi.NoEscape", "internal/bytealg.MakeNoZero"], unfollowed := true, recurses := true, named := ["unicode.CaseRanges", "unicode/utf8.first", "unicode/utf8.acceptRanges"], apart := false, laid := [("unicode/utf8.acceptRanges", laid_unicode_utf8_acceptRanges), ("unicode.CaseRanges", laid_unicode_CaseRanges), ("unicode/utf8.first", laid_unicode_utf8_first)] }
def FnRelOfSaid : Prop := fnRelOfRow.holds Tryd.pinned (OpenSpec.ofChange fnRelOfSpec)

/-- ITS FALSE NEIGHBOUR: 'it returns false'. Refute it at one input. -/
def fnRelOfWrong : ChangeSpec := { name := "fnRelOf", fn := fun _ => fun
  | [d] => { results := [.lit (.bool false)], args := [d] }
  | _ => none }
def FnRelOfWrongFalsely : Prop := fnRelOfRow.holds Tryd.pinned (OpenSpec.ofChange fnRelOfWrong)

/-- 'laws.FnEvalWide': WHATEVER THE INPUT: true; the input reads as it did. -/
def fnEvalWideSpec : ChangeSpec := { name := "fnEvalWide", fn := fun _ => fun
  | [d] => { results := [.lit (.bool true)], args := [d] }
  | _ => none }
def fnEvalWideRow : OpenClaim := { program := "ytheclmdpiijakaadoor", sum := "9716031f06ec39d4fa92288da15a2af5b27be84e5df506aedb0332820701529e", func := "loop.example/productprograms/laws.FnEvalWide", spec := "fnEvalWide", inPlace := ["internal/abi.NoEscape", "internal/bytealg.MakeNoZero"], unfollowed := true, recurses := true, named := ["unicode.CaseRanges", "unicode/utf8.first", "unicode/utf8.acceptRanges"], apart := false, laid := [("unicode/utf8.acceptRanges", laid_unicode_utf8_acceptRanges), ("unicode.CaseRanges", laid_unicode_CaseRanges), ("unicode/utf8.first", laid_unicode_utf8_first)] }
def FnEvalWideSaid : Prop := fnEvalWideRow.holds Tryd.pinned (OpenSpec.ofChange fnEvalWideSpec)

/-- ITS FALSE NEIGHBOUR: 'it returns false'. Refute it at one input. -/
def fnEvalWideWrong : ChangeSpec := { name := "fnEvalWide", fn := fun _ => fun
  | [d] => { results := [.lit (.bool false)], args := [d] }
  | _ => none }
def FnEvalWideWrongFalsely : Prop := fnEvalWideRow.holds Tryd.pinned (OpenSpec.ofChange fnEvalWideWrong)

/-- 'laws.FnFirstPair': WHATEVER THE INPUT: true; the input reads as it did. -/
def fnFirstPairSpec : ChangeSpec := { name := "fnFirstPair", fn := fun _ => fun
  | [d] => { results := [.lit (.bool true)], args := [d] }
  | _ => none }
def fnFirstPairRow : OpenClaim := { program := "ytheclmdpiijakaadoor", sum := "9716031f06ec39d4fa92288da15a2af5b27be84e5df506aedb0332820701529e", func := "loop.example/productprograms/laws.FnFirstPair", spec := "fnFirstPair", recurses := true, named := ["math/bits.deBruijn32tab"], apart := false, laid := [("math/bits.deBruijn32tab", laid_math_bits_deBruijn32tab)] }
def FnFirstPairSaid : Prop := fnFirstPairRow.holds Tryd.pinned (OpenSpec.ofChange fnFirstPairSpec)

/-- ITS FALSE NEIGHBOUR: 'it returns false'. Refute it at one input. -/
def fnFirstPairWrong : ChangeSpec := { name := "fnFirstPair", fn := fun _ => fun
  | [d] => { results := [.lit (.bool false)], args := [d] }
  | _ => none }
def FnFirstPairWrongFalsely : Prop := fnFirstPairRow.holds Tryd.pinned (OpenSpec.ofChange fnFirstPairWrong)

/-- 'laws.FnExactStatementsOf': WHATEVER THE INPUT: true; the input reads as it did. -/
def fnExactStatementsOfSpec : ChangeSpec := { name := "fnExactStatementsOf", fn := fun _ => fun
  | [d] => { results := [.lit (.bool true)], args := [d] }
  | _ => none }
def fnExactStatementsOfRow : OpenClaim := { program := "ytheclmdpiijakaadoor", sum := "9716031f06ec39d4fa92288da15a2af5b27be84e5df506aedb0332820701529e", func := "loop.example/productprograms/laws.FnExactStatementsOf", spec := "fnExactStatementsOf", inPlace := ["internal/abi.NoEscape", "internal/bytealg.MakeNoZero"], unfollowed := true, recurses := true, named := ["unicode.CaseRanges", "unicode/utf8.first", "unicode/utf8.acceptRanges"], apart := false, laid := [("unicode/utf8.acceptRanges", laid_unicode_utf8_acceptRanges), ("unicode.CaseRanges", laid_unicode_CaseRanges), ("unicode/utf8.first", laid_unicode_utf8_first)] }
def FnExactStatementsOfSaid : Prop := fnExactStatementsOfRow.holds Tryd.pinned (OpenSpec.ofChange fnExactStatementsOfSpec)

/-- ITS FALSE NEIGHBOUR: 'it returns false'. Refute it at one input. -/
def fnExactStatementsOfWrong : ChangeSpec := { name := "fnExactStatementsOf", fn := fun _ => fun
  | [d] => { results := [.lit (.bool false)], args := [d] }
  | _ => none }
def FnExactStatementsOfWrongFalsely : Prop := fnExactStatementsOfRow.holds Tryd.pinned (OpenSpec.ofChange fnExactStatementsOfWrong)

/-- 'laws.FnExactLockstepProduct': WHATEVER THE INPUT: true; the input reads as it did. -/
def fnExactLockstepProductSpec : ChangeSpec := { name := "fnExactLockstepProduct", fn := fun _ => fun
  | [d1, d2] => { results := [.lit (.bool true)], args := [d1, d2] }
  | _ => none }
def fnExactLockstepProductRow : OpenClaim := { program := "ytheclmdpiijakaadoor", sum := "9716031f06ec39d4fa92288da15a2af5b27be84e5df506aedb0332820701529e", func := "loop.example/productprograms/laws.FnExactLockstepProduct", spec := "fnExactLockstepProduct", inPlace := ["internal/abi.NoEscape", "internal/bytealg.MakeNoZero"], unfollowed := true, recurses := true, named := ["unicode.CaseRanges", "unicode/utf8.first", "unicode/utf8.acceptRanges"], apart := false, laid := [("unicode/utf8.acceptRanges", laid_unicode_utf8_acceptRanges), ("unicode.CaseRanges", laid_unicode_CaseRanges), ("unicode/utf8.first", laid_unicode_utf8_first)] }
def FnExactLockstepProductSaid : Prop := fnExactLockstepProductRow.holds Tryd.pinned (OpenSpec.ofChange fnExactLockstepProductSpec)

/-- ITS FALSE NEIGHBOUR: 'it returns false'. Refute it at one input. -/
def fnExactLockstepProductWrong : ChangeSpec := { name := "fnExactLockstepProduct", fn := fun _ => fun
  | [d1, d2] => { results := [.lit (.bool false)], args := [d1, d2] }
  | _ => none }
def FnExactLockstepProductWrongFalsely : Prop := fnExactLockstepProductRow.holds Tryd.pinned (OpenSpec.ofChange fnExactLockstepProductWrong)

/- THE SECOND FORM. 'bulk': how many values and letters a reading holds, each counted each time it is reached (what is shared counts as often as it is met; a slice's spare places count too). A statement '..UptoSaid' is the law's where the arguments, and the package variables that the reading takes, are together of bulk at most 1048576: NARROWER than '..Said'. Prove '..Said' where nothing that the law and all that it calls make is longer than what came in: it says more and counts as full. Else prove '..UptoSaid'. A law counts once. -/
mutual
def uptoBulk {H : Type} : DataW H → Nat
  | .lit (.string bytes) => bytes.length + 1
  | .lit _ => 1
  | .nil => 1
  | .ptr d => uptoBulk d + 1
  | .slice elems spare => uptoBulkAll elems + uptoBulkAll spare + 1
  | .agg parts => uptoBulkAll parts + 1
  | .iface _ d => uptoBulk d + 1
  | .map entries => uptoBulkEntries entries + 1
  | .held _ => 1
def uptoBulkAll {H : Type} : List (DataW H) → Nat
  | [] => 0
  | d :: r => uptoBulk d + uptoBulkAll r
def uptoBulkEntries {H : Type} : List (Lit × DataW H) → Nat
  | [] => 0
  | x :: r => uptoBulkEntry x + uptoBulkEntries r
def uptoBulkEntry {H : Type} : Lit × DataW H → Nat
  | (.string bytes, d) => bytes.length + uptoBulk d + 1
  | (_, d) => uptoBulk d + 1
 end
def uptoSmall : (H : Type) → List (DataW H) → Bool := fun _ ds => decide (uptoBulkAll ds ≤ 1048576)
def OpenSpec.upto (s : _root_.Go.ChangeSpec) : _root_.Go.OpenSpec := { _root_.Go.OpenSpec.ofChange s with cond := some uptoSmall }

/-- 'laws.FnRelOf', WHERE WHAT IT READS IS OF BULK AT MOST 1048576: true; the input reads as it did. -/
def fnRelOfUptoRow : OpenClaim := { program := "ytheclmdpiijakaadoor", sum := "9716031f06ec39d4fa92288da15a2af5b27be84e5df506aedb0332820701529e", func := "loop.example/productprograms/laws.FnRelOf", spec := "fnRelOf", inPlace := ["internal/abi.NoEscape", "internal/bytealg.MakeNoZero"], unfollowed := true, recurses := true, named := ["unicode.CaseRanges", "unicode/utf8.first", "unicode/utf8.acceptRanges"], apart := false, laid := [("unicode/utf8.acceptRanges", laid_unicode_utf8_acceptRanges), ("unicode.CaseRanges", laid_unicode_CaseRanges), ("unicode/utf8.first", laid_unicode_utf8_first)], narrowed := true }
def FnRelOfUptoSaid : Prop := fnRelOfUptoRow.holds Tryd.pinned (OpenSpec.upto fnRelOfSpec)

/-- 'laws.FnEvalWide', WHERE WHAT IT READS IS OF BULK AT MOST 1048576: true; the input reads as it did. -/
def fnEvalWideUptoRow : OpenClaim := { program := "ytheclmdpiijakaadoor", sum := "9716031f06ec39d4fa92288da15a2af5b27be84e5df506aedb0332820701529e", func := "loop.example/productprograms/laws.FnEvalWide", spec := "fnEvalWide", inPlace := ["internal/abi.NoEscape", "internal/bytealg.MakeNoZero"], unfollowed := true, recurses := true, named := ["unicode.CaseRanges", "unicode/utf8.first", "unicode/utf8.acceptRanges"], apart := false, laid := [("unicode/utf8.acceptRanges", laid_unicode_utf8_acceptRanges), ("unicode.CaseRanges", laid_unicode_CaseRanges), ("unicode/utf8.first", laid_unicode_utf8_first)], narrowed := true }
def FnEvalWideUptoSaid : Prop := fnEvalWideUptoRow.holds Tryd.pinned (OpenSpec.upto fnEvalWideSpec)

/-- 'laws.FnFirstPair', WHERE WHAT IT READS IS OF BULK AT MOST 1048576: true; the input reads as it did. -/
def fnFirstPairUptoRow : OpenClaim := { program := "ytheclmdpiijakaadoor", sum := "9716031f06ec39d4fa92288da15a2af5b27be84e5df506aedb0332820701529e", func := "loop.example/productprograms/laws.FnFirstPair", spec := "fnFirstPair", recurses := true, named := ["math/bits.deBruijn32tab"], apart := false, laid := [("math/bits.deBruijn32tab", laid_math_bits_deBruijn32tab)], narrowed := true }
def FnFirstPairUptoSaid : Prop := fnFirstPairUptoRow.holds Tryd.pinned (OpenSpec.upto fnFirstPairSpec)

/-- 'laws.FnExactStatementsOf', WHERE WHAT IT READS IS OF BULK AT MOST 1048576: true; the input reads as it did. -/
def fnExactStatementsOfUptoRow : OpenClaim := { program := "ytheclmdpiijakaadoor", sum := "9716031f06ec39d4fa92288da15a2af5b27be84e5df506aedb0332820701529e", func := "loop.example/productprograms/laws.FnExactStatementsOf", spec := "fnExactStatementsOf", inPlace := ["internal/abi.NoEscape", "internal/bytealg.MakeNoZero"], unfollowed := true, recurses := true, named := ["unicode.CaseRanges", "unicode/utf8.first", "unicode/utf8.acceptRanges"], apart := false, laid := [("unicode/utf8.acceptRanges", laid_unicode_utf8_acceptRanges), ("unicode.CaseRanges", laid_unicode_CaseRanges), ("unicode/utf8.first", laid_unicode_utf8_first)], narrowed := true }
def FnExactStatementsOfUptoSaid : Prop := fnExactStatementsOfUptoRow.holds Tryd.pinned (OpenSpec.upto fnExactStatementsOfSpec)

/-- 'laws.FnExactLockstepProduct', WHERE WHAT IT READS IS OF BULK AT MOST 1048576: true; the input reads as it did. -/
def fnExactLockstepProductUptoRow : OpenClaim := { program := "ytheclmdpiijakaadoor", sum := "9716031f06ec39d4fa92288da15a2af5b27be84e5df506aedb0332820701529e", func := "loop.example/productprograms/laws.FnExactLockstepProduct", spec := "fnExactLockstepProduct", inPlace := ["internal/abi.NoEscape", "internal/bytealg.MakeNoZero"], unfollowed := true, recurses := true, named := ["unicode.CaseRanges", "unicode/utf8.first", "unicode/utf8.acceptRanges"], apart := false, laid := [("unicode/utf8.acceptRanges", laid_unicode_utf8_acceptRanges), ("unicode.CaseRanges", laid_unicode_CaseRanges), ("unicode/utf8.first", laid_unicode_utf8_first)], narrowed := true }
def FnExactLockstepProductUptoSaid : Prop := fnExactLockstepProductUptoRow.holds Tryd.pinned (OpenSpec.upto fnExactLockstepProductSpec)

end Rows
end Go.Proofs.YtheclmdpiijakaaDoor
