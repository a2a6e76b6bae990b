/-
  NARROWER THAN 'FOR EVERY INPUT', by the rows' own cells (each row's printed sentence says how): FnExactMatchHolds: laid · FnExactCounterPair: laid · FnExactSameOn: laid · FnExactAffectedVars: laid · FnExactMonotoneIn: laid · FnExactDeterministicProgram: laid · FnPairFree: laid · FnMatchHolds: laid · FnEndTogether: laid · FnJoinedFree: laid · FnPairComposed: laid · FnPairTriple: laid.
  DERIVED. THE GIVEN ROWS OF THIS SEAT. 12 by the template 'for every input the law returns true; each argument reads behind the call as it read before'; 0 by the template 'total and deterministic' (their statements: YtlhmdpkenkibiaaGreatDoorTotals.lean).
  GIVEN WITH THE SEED: the statements are not yours to turn. If you find one false, say at which input.
  Laid BY PROGRAM, IN A SANDBOX (cutbox-rows.mjs): the forced cells as the released guide's own fill.sh prints them over the translation f5b7bae5713e49fe… (all of the seat's roots in one cut). By AI agents, Wed Nov 11 2026. No macro, syntax, notation, axiom, sorry.
-/
import Derived.Test.YtlhmdpkenkibiaaGreatDoorChecked
import GoSem.PinnedTables
import GoSem.Claim
import GoSem.ClaimJoined
import GoSem.ClaimMapViews
import Derived.JoinedTies
import Derived.KernelRfl
namespace Go.Proofs.YtlhmdpkenkibiaaGreatDoor
/- THE CELL 'sum', in the pinned program and in every row, IS THE sha256 OF THE DUMP (.gsa) THAT YtlhmdpkenkibiaaGreatDoorProg.lean LOADS. Nothing in Lean hashes anything: it is a label: what it is worth is what the hold of that sum in a sandbox is worth. -/
noncomputable def Tryz.pinned : Pinned := { name := "ytlhmdpkenkibiaagreatdoor", sum := "f5b7bae5713e49feb4199ba674beacc3c3024094452a55895465c1ff38530c68", checked := Tryz.checked }
namespace Rows
def none {H : Type} : Left H := { results := [], args := [] }

/- WHAT THE LISTED PACKAGE-LEVEL VARIABLES READ AS WHEN THE CALL BEGINS. Each datum BY PROGRAM (the guide's laid-datum.mjs) off the statement by which the dump's own 'gosem.cut.vars' lays the variable. In a bare row this is a premise. The card (YtlhmdpkenkibiaaGreatDoorCards.lean) ties it to the program's text. -/
def laid_unicode_utf8_acceptRanges {H : Type} : DataW H := .agg [.agg [.lit (.int .u8 128), .lit (.int .u8 191)], .agg [.lit (.int .u8 160), .lit (.int .u8 191)], .agg [.lit (.int .u8 128), .lit (.int .u8 159)], .agg [.lit (.int .u8 144), .lit (.int .u8 191)], .agg [.lit (.int .u8 128), .lit (.int .u8 143)], .agg [.lit (.int .u8 0), .lit (.int .u8 0)], .agg [.lit (.int .u8 0), .lit (.int .u8 0)], .agg [.lit (.int .u8 0), .lit (.int .u8 0)], .agg [.lit (.int .u8 0), .lit (.int .u8 0)], .agg [.lit (.int .u8 0), .lit (.int .u8 0)], .agg [.lit (.int .u8 0), .lit (.int .u8 0)], .agg [.lit (.int .u8 0), .lit (.int .u8 0)], .agg [.lit (.int .u8 0), .lit (.int .u8 0)], .agg [.lit (.int .u8 0), .lit (.int .u8 0)], .agg [.lit (.int .u8 0), .lit (.int .u8 0)], .agg [.lit (.int .u8 0), .lit (.int .u8 0)]]
/-- One of Go's own tables, pinned by name: the form's constant. -/
def laid_unicode_CaseRanges : DataW Unit := Go.Pinned.caseRanges
/-- One of Go's own tables, pinned by name: the form's constant. -/
def laid_unicode_utf8_first : DataW Unit := Go.Pinned.utf8First
def laid_math_bits_deBruijn32tab {H : Type} : DataW H := .agg [.lit (.int .u8 0), .lit (.int .u8 1), .lit (.int .u8 28), .lit (.int .u8 2), .lit (.int .u8 29), .lit (.int .u8 14), .lit (.int .u8 24), .lit (.int .u8 3), .lit (.int .u8 30), .lit (.int .u8 22), .lit (.int .u8 20), .lit (.int .u8 15), .lit (.int .u8 25), .lit (.int .u8 17), .lit (.int .u8 4), .lit (.int .u8 8), .lit (.int .u8 31), .lit (.int .u8 27), .lit (.int .u8 13), .lit (.int .u8 23), .lit (.int .u8 21), .lit (.int .u8 19), .lit (.int .u8 16), .lit (.int .u8 7), .lit (.int .u8 26), .lit (.int .u8 12), .lit (.int .u8 18), .lit (.int .u8 6), .lit (.int .u8 11), .lit (.int .u8 5), .lit (.int .u8 10), .lit (.int .u8 9)]

/-- 'laws.FnExactMatchHolds': WHATEVER THE INPUT: true; the input reads as it did. -/
def fnExactMatchHoldsSpec : ChangeSpec := { name := "fnExactMatchHolds", fn := fun _ => fun
  | [d1, d2, d3, d4] => { results := [.lit (.bool true)], args := [d1, d2, d3, d4] }
  | _ => none }
def fnExactMatchHoldsRow : OpenClaim := { program := "ytlhmdpkenkibiaagreatdoor", sum := "f5b7bae5713e49feb4199ba674beacc3c3024094452a55895465c1ff38530c68", func := "loop.example/productprograms/laws.FnExactMatchHolds", spec := "fnExactMatchHolds", inPlace := ["internal/abi.NoEscape", "internal/bytealg.MakeNoZero"], unfollowed := true, recurses := true, named := ["unicode.CaseRanges", "unicode/utf8.first", "unicode/utf8.acceptRanges"], plainKeys := false, apart := false, laid := [("unicode/utf8.acceptRanges", laid_unicode_utf8_acceptRanges), ("unicode.CaseRanges", laid_unicode_CaseRanges), ("unicode/utf8.first", laid_unicode_utf8_first)] }
def FnExactMatchHoldsSaid : Prop := fnExactMatchHoldsRow.holds Tryz.pinned (OpenSpec.ofChange fnExactMatchHoldsSpec)

/-- ITS FALSE NEIGHBOUR: 'it returns false'. Refute it at one input. -/
def fnExactMatchHoldsWrong : ChangeSpec := { name := "fnExactMatchHolds", fn := fun _ => fun
  | [d1, d2, d3, d4] => { results := [.lit (.bool false)], args := [d1, d2, d3, d4] }
  | _ => none }
def FnExactMatchHoldsWrongFalsely : Prop := fnExactMatchHoldsRow.holds Tryz.pinned (OpenSpec.ofChange fnExactMatchHoldsWrong)

/-- 'laws.FnExactCounterPair': WHATEVER THE INPUT: true; the input reads as it did. -/
def fnExactCounterPairSpec : ChangeSpec := { name := "fnExactCounterPair", fn := fun _ => fun
  | [d1, d2, d3, d4] => { results := [.lit (.bool true)], args := [d1, d2, d3, d4] }
  | _ => none }
def fnExactCounterPairRow : OpenClaim := { program := "ytlhmdpkenkibiaagreatdoor", sum := "f5b7bae5713e49feb4199ba674beacc3c3024094452a55895465c1ff38530c68", func := "loop.example/productprograms/laws.FnExactCounterPair", spec := "fnExactCounterPair", inPlace := ["internal/abi.NoEscape", "internal/bytealg.MakeNoZero"], unfollowed := true, recurses := true, named := ["unicode.CaseRanges", "unicode/utf8.first", "unicode/utf8.acceptRanges", "math/bits.deBruijn32tab"], plainKeys := false, apart := false, laid := [("math/bits.deBruijn32tab", laid_math_bits_deBruijn32tab), ("unicode/utf8.acceptRanges", laid_unicode_utf8_acceptRanges), ("unicode.CaseRanges", laid_unicode_CaseRanges), ("unicode/utf8.first", laid_unicode_utf8_first)] }
def FnExactCounterPairSaid : Prop := fnExactCounterPairRow.holds Tryz.pinned (OpenSpec.ofChange fnExactCounterPairSpec)

/-- ITS FALSE NEIGHBOUR: 'it returns false'. Refute it at one input. -/
def fnExactCounterPairWrong : ChangeSpec := { name := "fnExactCounterPair", fn := fun _ => fun
  | [d1, d2, d3, d4] => { results := [.lit (.bool false)], args := [d1, d2, d3, d4] }
  | _ => none }
def FnExactCounterPairWrongFalsely : Prop := fnExactCounterPairRow.holds Tryz.pinned (OpenSpec.ofChange fnExactCounterPairWrong)

/-- 'laws.FnExactSameOn': WHATEVER THE INPUT: true; the input reads as it did. -/
def fnExactSameOnSpec : ChangeSpec := { name := "fnExactSameOn", fn := fun _ => fun
  | [d1, d2, d3, d4] => { results := [.lit (.bool true)], args := [d1, d2, d3, d4] }
  | _ => none }
def fnExactSameOnRow : OpenClaim := { program := "ytlhmdpkenkibiaagreatdoor", sum := "f5b7bae5713e49feb4199ba674beacc3c3024094452a55895465c1ff38530c68", func := "loop.example/productprograms/laws.FnExactSameOn", spec := "fnExactSameOn", inPlace := ["internal/bytealg.IndexByteString", "internal/bytealg.IndexString", "internal/abi.NoEscape", "internal/bytealg.MakeNoZero"], unfollowed := true, recurses := true, named := ["internal/bytealg.MaxLen", "unicode.CaseRanges", "unicode/utf8.first", "unicode/utf8.acceptRanges"], plainKeys := false, apart := false, laid := [("unicode/utf8.acceptRanges", laid_unicode_utf8_acceptRanges), ("unicode.CaseRanges", laid_unicode_CaseRanges), ("unicode/utf8.first", laid_unicode_utf8_first)] }
def FnExactSameOnSaid : Prop := fnExactSameOnRow.holds Tryz.pinned (OpenSpec.ofChange fnExactSameOnSpec)

/-- ITS FALSE NEIGHBOUR: 'it returns false'. Refute it at one input. -/
def fnExactSameOnWrong : ChangeSpec := { name := "fnExactSameOn", fn := fun _ => fun
  | [d1, d2, d3, d4] => { results := [.lit (.bool false)], args := [d1, d2, d3, d4] }
  | _ => none }
def FnExactSameOnWrongFalsely : Prop := fnExactSameOnRow.holds Tryz.pinned (OpenSpec.ofChange fnExactSameOnWrong)

/-- 'laws.FnExactAffectedVars': WHATEVER THE INPUT: true; the input reads as it did. -/
def fnExactAffectedVarsSpec : ChangeSpec := { name := "fnExactAffectedVars", fn := fun _ => fun
  | [d1, d2] => { results := [.lit (.bool true)], args := [d1, d2] }
  | _ => none }
def fnExactAffectedVarsRow : OpenClaim := { program := "ytlhmdpkenkibiaagreatdoor", sum := "f5b7bae5713e49feb4199ba674beacc3c3024094452a55895465c1ff38530c68", func := "loop.example/productprograms/laws.FnExactAffectedVars", spec := "fnExactAffectedVars", inPlace := ["internal/abi.NoEscape", "internal/bytealg.MakeNoZero", "internal/bytealg.IndexByteString", "internal/bytealg.IndexString"], unfollowed := true, recurses := true, named := ["unicode.CaseRanges", "unicode/utf8.first", "unicode/utf8.acceptRanges", "internal/bytealg.MaxLen"], plainKeys := false, apart := false, laid := [("unicode/utf8.acceptRanges", laid_unicode_utf8_acceptRanges), ("unicode.CaseRanges", laid_unicode_CaseRanges), ("unicode/utf8.first", laid_unicode_utf8_first)] }
def FnExactAffectedVarsSaid : Prop := fnExactAffectedVarsRow.holds Tryz.pinned (OpenSpec.ofChange fnExactAffectedVarsSpec)

/-- ITS FALSE NEIGHBOUR: 'it returns false'. Refute it at one input. -/
def fnExactAffectedVarsWrong : ChangeSpec := { name := "fnExactAffectedVars", fn := fun _ => fun
  | [d1, d2] => { results := [.lit (.bool false)], args := [d1, d2] }
  | _ => none }
def FnExactAffectedVarsWrongFalsely : Prop := fnExactAffectedVarsRow.holds Tryz.pinned (OpenSpec.ofChange fnExactAffectedVarsWrong)

/-- 'laws.FnExactMonotoneIn': WHATEVER THE INPUT: true; the input reads as it did. -/
def fnExactMonotoneInSpec : ChangeSpec := { name := "fnExactMonotoneIn", fn := fun _ => fun
  | [d1, d2, d3] => { results := [.lit (.bool true)], args := [d1, d2, d3] }
  | _ => none }
def fnExactMonotoneInRow : OpenClaim := { program := "ytlhmdpkenkibiaagreatdoor", sum := "f5b7bae5713e49feb4199ba674beacc3c3024094452a55895465c1ff38530c68", func := "loop.example/productprograms/laws.FnExactMonotoneIn", spec := "fnExactMonotoneIn", inPlace := ["internal/abi.NoEscape", "internal/bytealg.MakeNoZero", "internal/bytealg.IndexByteString", "internal/bytealg.IndexString", "internal/bytealg.CountString"], unfollowed := true, recurses := true, named := ["unicode.CaseRanges", "unicode/utf8.first", "unicode/utf8.acceptRanges", "internal/bytealg.MaxLen"], plainKeys := false, apart := false, laid := [("unicode/utf8.acceptRanges", laid_unicode_utf8_acceptRanges), ("unicode.CaseRanges", laid_unicode_CaseRanges), ("unicode/utf8.first", laid_unicode_utf8_first)] }
def FnExactMonotoneInSaid : Prop := fnExactMonotoneInRow.holds Tryz.pinned (OpenSpec.ofChange fnExactMonotoneInSpec)

/-- ITS FALSE NEIGHBOUR: 'it returns false'. Refute it at one input. -/
def fnExactMonotoneInWrong : ChangeSpec := { name := "fnExactMonotoneIn", fn := fun _ => fun
  | [d1, d2, d3] => { results := [.lit (.bool false)], args := [d1, d2, d3] }
  | _ => none }
def FnExactMonotoneInWrongFalsely : Prop := fnExactMonotoneInRow.holds Tryz.pinned (OpenSpec.ofChange fnExactMonotoneInWrong)

/-- 'laws.FnExactDeterministicProgram': WHATEVER THE INPUT: true; the input reads as it did. -/
def fnExactDeterministicProgramSpec : ChangeSpec := { name := "fnExactDeterministicProgram", fn := fun _ => fun
  | [d] => { results := [.lit (.bool true)], args := [d] }
  | _ => none }
def fnExactDeterministicProgramRow : OpenClaim := { program := "ytlhmdpkenkibiaagreatdoor", sum := "f5b7bae5713e49feb4199ba674beacc3c3024094452a55895465c1ff38530c68", func := "loop.example/productprograms/laws.FnExactDeterministicProgram", spec := "fnExactDeterministicProgram", inPlace := ["internal/bytealg.IndexByteString", "internal/bytealg.IndexString", "internal/abi.NoEscape", "internal/bytealg.MakeNoZero"], unfollowed := true, recurses := true, named := ["internal/bytealg.MaxLen", "unicode.CaseRanges", "unicode/utf8.first", "unicode/utf8.acceptRanges"], plainKeys := false, apart := false, laid := [("unicode/utf8.acceptRanges", laid_unicode_utf8_acceptRanges), ("unicode.CaseRanges", laid_unicode_CaseRanges), ("unicode/utf8.first", laid_unicode_utf8_first)] }
def FnExactDeterministicProgramSaid : Prop := fnExactDeterministicProgramRow.holds Tryz.pinned (OpenSpec.ofChange fnExactDeterministicProgramSpec)

/-- ITS FALSE NEIGHBOUR: 'it returns false'. Refute it at one input. -/
def fnExactDeterministicProgramWrong : ChangeSpec := { name := "fnExactDeterministicProgram", fn := fun _ => fun
  | [d] => { results := [.lit (.bool false)], args := [d] }
  | _ => none }
def FnExactDeterministicProgramWrongFalsely : Prop := fnExactDeterministicProgramRow.holds Tryz.pinned (OpenSpec.ofChange fnExactDeterministicProgramWrong)

/-- 'laws.FnPairFree': WHATEVER THE INPUT: true; the input reads as it did. -/
def fnPairFreeSpec : ChangeSpec := { name := "fnPairFree", fn := fun _ => fun
  | [d1, d2] => { results := [.lit (.bool true)], args := [d1, d2] }
  | _ => none }
def fnPairFreeRow : OpenClaim := { program := "ytlhmdpkenkibiaagreatdoor", sum := "f5b7bae5713e49feb4199ba674beacc3c3024094452a55895465c1ff38530c68", func := "loop.example/productprograms/laws.FnPairFree", spec := "fnPairFree", inPlace := ["internal/abi.NoEscape", "internal/bytealg.MakeNoZero"], unfollowed := true, recurses := true, named := ["unicode.CaseRanges", "unicode/utf8.first", "unicode/utf8.acceptRanges"], plainKeys := false, apart := false, laid := [("unicode/utf8.acceptRanges", laid_unicode_utf8_acceptRanges), ("unicode.CaseRanges", laid_unicode_CaseRanges), ("unicode/utf8.first", laid_unicode_utf8_first)] }
def FnPairFreeSaid : Prop := fnPairFreeRow.holds Tryz.pinned (OpenSpec.ofChange fnPairFreeSpec)

/-- ITS FALSE NEIGHBOUR: 'it returns false'. Refute it at one input. -/
def fnPairFreeWrong : ChangeSpec := { name := "fnPairFree", fn := fun _ => fun
  | [d1, d2] => { results := [.lit (.bool false)], args := [d1, d2] }
  | _ => none }
def FnPairFreeWrongFalsely : Prop := fnPairFreeRow.holds Tryz.pinned (OpenSpec.ofChange fnPairFreeWrong)

/-- 'laws.FnMatchHolds': WHATEVER THE INPUT: true; the input reads as it did. -/
def fnMatchHoldsSpec : ChangeSpec := { name := "fnMatchHolds", fn := fun _ => fun
  | [d] => { results := [.lit (.bool true)], args := [d] }
  | _ => none }
def fnMatchHoldsRow : OpenClaim := { program := "ytlhmdpkenkibiaagreatdoor", sum := "f5b7bae5713e49feb4199ba674beacc3c3024094452a55895465c1ff38530c68", func := "loop.example/productprograms/laws.FnMatchHolds", spec := "fnMatchHolds", inPlace := ["internal/abi.NoEscape", "internal/bytealg.MakeNoZero"], unfollowed := true, recurses := true, named := ["unicode.CaseRanges", "unicode/utf8.first", "unicode/utf8.acceptRanges"], plainKeys := false, apart := false, laid := [("unicode/utf8.acceptRanges", laid_unicode_utf8_acceptRanges), ("unicode.CaseRanges", laid_unicode_CaseRanges), ("unicode/utf8.first", laid_unicode_utf8_first)] }
def FnMatchHoldsSaid : Prop := fnMatchHoldsRow.holds Tryz.pinned (OpenSpec.ofChange fnMatchHoldsSpec)

/-- ITS FALSE NEIGHBOUR: 'it returns false'. Refute it at one input. -/
def fnMatchHoldsWrong : ChangeSpec := { name := "fnMatchHolds", fn := fun _ => fun
  | [d] => { results := [.lit (.bool false)], args := [d] }
  | _ => none }
def FnMatchHoldsWrongFalsely : Prop := fnMatchHoldsRow.holds Tryz.pinned (OpenSpec.ofChange fnMatchHoldsWrong)

/-- 'laws.FnEndTogether': WHATEVER THE INPUT: true; the input reads as it did. -/
def fnEndTogetherSpec : ChangeSpec := { name := "fnEndTogether", fn := fun _ => fun
  | [d] => { results := [.lit (.bool true)], args := [d] }
  | _ => none }
def fnEndTogetherRow : OpenClaim := { program := "ytlhmdpkenkibiaagreatdoor", sum := "f5b7bae5713e49feb4199ba674beacc3c3024094452a55895465c1ff38530c68", func := "loop.example/productprograms/laws.FnEndTogether", spec := "fnEndTogether", inPlace := ["internal/abi.NoEscape", "internal/bytealg.MakeNoZero"], unfollowed := true, recurses := true, named := ["unicode.CaseRanges", "unicode/utf8.first", "unicode/utf8.acceptRanges"], plainKeys := false, apart := false, laid := [("unicode/utf8.acceptRanges", laid_unicode_utf8_acceptRanges), ("unicode.CaseRanges", laid_unicode_CaseRanges), ("unicode/utf8.first", laid_unicode_utf8_first)] }
def FnEndTogetherSaid : Prop := fnEndTogetherRow.holds Tryz.pinned (OpenSpec.ofChange fnEndTogetherSpec)

/-- ITS FALSE NEIGHBOUR: 'it returns false'. Refute it at one input. -/
def fnEndTogetherWrong : ChangeSpec := { name := "fnEndTogether", fn := fun _ => fun
  | [d] => { results := [.lit (.bool false)], args := [d] }
  | _ => none }
def FnEndTogetherWrongFalsely : Prop := fnEndTogetherRow.holds Tryz.pinned (OpenSpec.ofChange fnEndTogetherWrong)

/-- 'laws.FnJoinedFree': WHATEVER THE INPUT: true; the input reads as it did. -/
def fnJoinedFreeSpec : ChangeSpec := { name := "fnJoinedFree", fn := fun _ => fun
  | [d] => { results := [.lit (.bool true)], args := [d] }
  | _ => none }
def fnJoinedFreeRow : OpenClaim := { program := "ytlhmdpkenkibiaagreatdoor", sum := "f5b7bae5713e49feb4199ba674beacc3c3024094452a55895465c1ff38530c68", func := "loop.example/productprograms/laws.FnJoinedFree", spec := "fnJoinedFree", inPlace := ["internal/abi.NoEscape", "internal/bytealg.MakeNoZero"], unfollowed := true, recurses := true, named := ["unicode.CaseRanges", "unicode/utf8.first", "unicode/utf8.acceptRanges"], plainKeys := false, apart := false, laid := [("unicode/utf8.acceptRanges", laid_unicode_utf8_acceptRanges), ("unicode.CaseRanges", laid_unicode_CaseRanges), ("unicode/utf8.first", laid_unicode_utf8_first)] }
def FnJoinedFreeSaid : Prop := fnJoinedFreeRow.holds Tryz.pinned (OpenSpec.ofChange fnJoinedFreeSpec)

/-- ITS FALSE NEIGHBOUR: 'it returns false'. Refute it at one input. -/
def fnJoinedFreeWrong : ChangeSpec := { name := "fnJoinedFree", fn := fun _ => fun
  | [d] => { results := [.lit (.bool false)], args := [d] }
  | _ => none }
def FnJoinedFreeWrongFalsely : Prop := fnJoinedFreeRow.holds Tryz.pinned (OpenSpec.ofChange fnJoinedFreeWrong)

/-- 'laws.FnPairComposed': WHATEVER THE INPUT: true; the input reads as it did. -/
def fnPairComposedSpec : ChangeSpec := { name := "fnPairComposed", fn := fun _ => fun
  | [d] => { results := [.lit (.bool true)], args := [d] }
  | _ => none }
def fnPairComposedRow : OpenClaim := { program := "ytlhmdpkenkibiaagreatdoor", sum := "f5b7bae5713e49feb4199ba674beacc3c3024094452a55895465c1ff38530c68", func := "loop.example/productprograms/laws.FnPairComposed", spec := "fnPairComposed", inPlace := ["internal/abi.NoEscape", "internal/bytealg.MakeNoZero"], unfollowed := true, recurses := true, named := ["unicode.CaseRanges", "unicode/utf8.first", "unicode/utf8.acceptRanges"], plainKeys := false, apart := false, laid := [("unicode/utf8.acceptRanges", laid_unicode_utf8_acceptRanges), ("unicode.CaseRanges", laid_unicode_CaseRanges), ("unicode/utf8.first", laid_unicode_utf8_first)] }
def FnPairComposedSaid : Prop := fnPairComposedRow.holds Tryz.pinned (OpenSpec.ofChange fnPairComposedSpec)

/-- ITS FALSE NEIGHBOUR: 'it returns false'. Refute it at one input. -/
def fnPairComposedWrong : ChangeSpec := { name := "fnPairComposed", fn := fun _ => fun
  | [d] => { results := [.lit (.bool false)], args := [d] }
  | _ => none }
def FnPairComposedWrongFalsely : Prop := fnPairComposedRow.holds Tryz.pinned (OpenSpec.ofChange fnPairComposedWrong)

/-- 'laws.FnPairTriple': WHATEVER THE INPUT: true; the input reads as it did. -/
def fnPairTripleSpec : ChangeSpec := { name := "fnPairTriple", fn := fun _ => fun
  | [d] => { results := [.lit (.bool true)], args := [d] }
  | _ => none }
def fnPairTripleRow : OpenClaim := { program := "ytlhmdpkenkibiaagreatdoor", sum := "f5b7bae5713e49feb4199ba674beacc3c3024094452a55895465c1ff38530c68", func := "loop.example/productprograms/laws.FnPairTriple", spec := "fnPairTriple", inPlace := ["internal/abi.NoEscape", "internal/bytealg.MakeNoZero"], unfollowed := true, recurses := true, named := ["unicode.CaseRanges", "unicode/utf8.first", "unicode/utf8.acceptRanges", "math/bits.deBruijn32tab"], plainKeys := false, apart := false, laid := [("math/bits.deBruijn32tab", laid_math_bits_deBruijn32tab), ("unicode/utf8.acceptRanges", laid_unicode_utf8_acceptRanges), ("unicode.CaseRanges", laid_unicode_CaseRanges), ("unicode/utf8.first", laid_unicode_utf8_first)] }
def FnPairTripleSaid : Prop := fnPairTripleRow.holds Tryz.pinned (OpenSpec.ofChange fnPairTripleSpec)

/-- ITS FALSE NEIGHBOUR: 'it returns false'. Refute it at one input. -/
def fnPairTripleWrong : ChangeSpec := { name := "fnPairTriple", fn := fun _ => fun
  | [d] => { results := [.lit (.bool false)], args := [d] }
  | _ => none }
def FnPairTripleWrongFalsely : Prop := fnPairTripleRow.holds Tryz.pinned (OpenSpec.ofChange fnPairTripleWrong)

/- THE SECOND FORM. 'bulk': how many values and letters a reading holds, each counted each time it is reached (what is shared counts as often as it is met; a slice's spare places count too). A statement '..UptoSaid' is the law's where the arguments, and the package variables that the reading takes, are together of bulk at most 1048576: NARROWER than '..Said'. Prove '..Said' where nothing that the law and all that it calls make is longer than what came in: it says more and counts as full. Else prove '..UptoSaid'. A law counts once. -/
mutual
def uptoBulk {H : Type} : DataW H → Nat
  | .lit (.string bytes) => bytes.length + 1
  | .lit _ => 1
  | .nil => 1
  | .ptr d => uptoBulk d + 1
  | .slice elems spare => uptoBulkAll elems + uptoBulkAll spare + 1
  | .agg parts => uptoBulkAll parts + 1
  | .iface _ d => uptoBulk d + 1
  | .map entries => uptoBulkEntries entries + 1
  | .held _ => 1
def uptoBulkAll {H : Type} : List (DataW H) → Nat
  | [] => 0
  | d :: r => uptoBulk d + uptoBulkAll r
def uptoBulkEntries {H : Type} : List (Lit × DataW H) → Nat
  | [] => 0
  | x :: r => uptoBulkEntry x + uptoBulkEntries r
def uptoBulkEntry {H : Type} : Lit × DataW H → Nat
  | (.string bytes, d) => bytes.length + uptoBulk d + 1
  | (_, d) => uptoBulk d + 1
 end
def uptoSmall : (H : Type) → List (DataW H) → Bool := fun _ ds => decide (uptoBulkAll ds ≤ 1048576)
def OpenSpec.upto (s : _root_.Go.ChangeSpec) : _root_.Go.OpenSpec := { _root_.Go.OpenSpec.ofChange s with cond := some uptoSmall }

/-- 'laws.FnExactMatchHolds', WHERE WHAT IT READS IS OF BULK AT MOST 1048576: true; the input reads as it did. -/
def fnExactMatchHoldsUptoRow : OpenClaim := { program := "ytlhmdpkenkibiaagreatdoor", sum := "f5b7bae5713e49feb4199ba674beacc3c3024094452a55895465c1ff38530c68", func := "loop.example/productprograms/laws.FnExactMatchHolds", spec := "fnExactMatchHolds", inPlace := ["internal/abi.NoEscape", "internal/bytealg.MakeNoZero"], unfollowed := true, recurses := true, named := ["unicode.CaseRanges", "unicode/utf8.first", "unicode/utf8.acceptRanges"], plainKeys := false, apart := false, laid := [("unicode/utf8.acceptRanges", laid_unicode_utf8_acceptRanges), ("unicode.CaseRanges", laid_unicode_CaseRanges), ("unicode/utf8.first", laid_unicode_utf8_first)], narrowed := true }
def FnExactMatchHoldsUptoSaid : Prop := fnExactMatchHoldsUptoRow.holds Tryz.pinned (OpenSpec.upto fnExactMatchHoldsSpec)

/-- 'laws.FnExactCounterPair', WHERE WHAT IT READS IS OF BULK AT MOST 1048576: true; the input reads as it did. -/
def fnExactCounterPairUptoRow : OpenClaim := { program := "ytlhmdpkenkibiaagreatdoor", sum := "f5b7bae5713e49feb4199ba674beacc3c3024094452a55895465c1ff38530c68", func := "loop.example/productprograms/laws.FnExactCounterPair", spec := "fnExactCounterPair", inPlace := ["internal/abi.NoEscape", "internal/bytealg.MakeNoZero"], unfollowed := true, recurses := true, named := ["unicode.CaseRanges", "unicode/utf8.first", "unicode/utf8.acceptRanges", "math/bits.deBruijn32tab"], plainKeys := false, apart := false, laid := [("math/bits.deBruijn32tab", laid_math_bits_deBruijn32tab), ("unicode/utf8.acceptRanges", laid_unicode_utf8_acceptRanges), ("unicode.CaseRanges", laid_unicode_CaseRanges), ("unicode/utf8.first", laid_unicode_utf8_first)], narrowed := true }
def FnExactCounterPairUptoSaid : Prop := fnExactCounterPairUptoRow.holds Tryz.pinned (OpenSpec.upto fnExactCounterPairSpec)

/-- 'laws.FnExactSameOn', WHERE WHAT IT READS IS OF BULK AT MOST 1048576: true; the input reads as it did. -/
def fnExactSameOnUptoRow : OpenClaim := { program := "ytlhmdpkenkibiaagreatdoor", sum := "f5b7bae5713e49feb4199ba674beacc3c3024094452a55895465c1ff38530c68", func := "loop.example/productprograms/laws.FnExactSameOn", spec := "fnExactSameOn", inPlace := ["internal/bytealg.IndexByteString", "internal/bytealg.IndexString", "internal/abi.NoEscape", "internal/bytealg.MakeNoZero"], unfollowed := true, recurses := true, named := ["internal/bytealg.MaxLen", "unicode.CaseRanges", "unicode/utf8.first", "unicode/utf8.acceptRanges"], plainKeys := false, apart := false, laid := [("unicode/utf8.acceptRanges", laid_unicode_utf8_acceptRanges), ("unicode.CaseRanges", laid_unicode_CaseRanges), ("unicode/utf8.first", laid_unicode_utf8_first)], narrowed := true }
def FnExactSameOnUptoSaid : Prop := fnExactSameOnUptoRow.holds Tryz.pinned (OpenSpec.upto fnExactSameOnSpec)

/-- 'laws.FnExactAffectedVars', WHERE WHAT IT READS IS OF BULK AT MOST 1048576: true; the input reads as it did. -/
def fnExactAffectedVarsUptoRow : OpenClaim := { program := "ytlhmdpkenkibiaagreatdoor", sum := "f5b7bae5713e49feb4199ba674beacc3c3024094452a55895465c1ff38530c68", func := "loop.example/productprograms/laws.FnExactAffectedVars", spec := "fnExactAffectedVars", inPlace := ["internal/abi.NoEscape", "internal/bytealg.MakeNoZero", "internal/bytealg.IndexByteString", "internal/bytealg.IndexString"], unfollowed := true, recurses := true, named := ["unicode.CaseRanges", "unicode/utf8.first", "unicode/utf8.acceptRanges", "internal/bytealg.MaxLen"], plainKeys := false, apart := false, laid := [("unicode/utf8.acceptRanges", laid_unicode_utf8_acceptRanges), ("unicode.CaseRanges", laid_unicode_CaseRanges), ("unicode/utf8.first", laid_unicode_utf8_first)], narrowed := true }
def FnExactAffectedVarsUptoSaid : Prop := fnExactAffectedVarsUptoRow.holds Tryz.pinned (OpenSpec.upto fnExactAffectedVarsSpec)

/-- 'laws.FnExactMonotoneIn', WHERE WHAT IT READS IS OF BULK AT MOST 1048576: true; the input reads as it did. -/
def fnExactMonotoneInUptoRow : OpenClaim := { program := "ytlhmdpkenkibiaagreatdoor", sum := "f5b7bae5713e49feb4199ba674beacc3c3024094452a55895465c1ff38530c68", func := "loop.example/productprograms/laws.FnExactMonotoneIn", spec := "fnExactMonotoneIn", inPlace := ["internal/abi.NoEscape", "internal/bytealg.MakeNoZero", "internal/bytealg.IndexByteString", "internal/bytealg.IndexString", "internal/bytealg.CountString"], unfollowed := true, recurses := true, named := ["unicode.CaseRanges", "unicode/utf8.first", "unicode/utf8.acceptRanges", "internal/bytealg.MaxLen"], plainKeys := false, apart := false, laid := [("unicode/utf8.acceptRanges", laid_unicode_utf8_acceptRanges), ("unicode.CaseRanges", laid_unicode_CaseRanges), ("unicode/utf8.first", laid_unicode_utf8_first)], narrowed := true }
def FnExactMonotoneInUptoSaid : Prop := fnExactMonotoneInUptoRow.holds Tryz.pinned (OpenSpec.upto fnExactMonotoneInSpec)

/-- 'laws.FnExactDeterministicProgram', WHERE WHAT IT READS IS OF BULK AT MOST 1048576: true; the input reads as it did. -/
def fnExactDeterministicProgramUptoRow : OpenClaim := { program := "ytlhmdpkenkibiaagreatdoor", sum := "f5b7bae5713e49feb4199ba674beacc3c3024094452a55895465c1ff38530c68", func := "loop.example/productprograms/laws.FnExactDeterministicProgram", spec := "fnExactDeterministicProgram", inPlace := ["internal/bytealg.IndexByteString", "internal/bytealg.IndexString", "internal/abi.NoEscape", "internal/bytealg.MakeNoZero"], unfollowed := true, recurses := true, named := ["internal/bytealg.MaxLen", "unicode.CaseRanges", "unicode/utf8.first", "unicode/utf8.acceptRanges"], plainKeys := false, apart := false, laid := [("unicode/utf8.acceptRanges", laid_unicode_utf8_acceptRanges), ("unicode.CaseRanges", laid_unicode_CaseRanges), ("unicode/utf8.first", laid_unicode_utf8_first)], narrowed := true }
def FnExactDeterministicProgramUptoSaid : Prop := fnExactDeterministicProgramUptoRow.holds Tryz.pinned (OpenSpec.upto fnExactDeterministicProgramSpec)

/-- 'laws.FnPairFree', WHERE WHAT IT READS IS OF BULK AT MOST 1048576: true; the input reads as it did. -/
def fnPairFreeUptoRow : OpenClaim := { program := "ytlhmdpkenkibiaagreatdoor", sum := "f5b7bae5713e49feb4199ba674beacc3c3024094452a55895465c1ff38530c68", func := "loop.example/productprograms/laws.FnPairFree", spec := "fnPairFree", inPlace := ["internal/abi.NoEscape", "internal/bytealg.MakeNoZero"], unfollowed := true, recurses := true, named := ["unicode.CaseRanges", "unicode/utf8.first", "unicode/utf8.acceptRanges"], plainKeys := false, apart := false, laid := [("unicode/utf8.acceptRanges", laid_unicode_utf8_acceptRanges), ("unicode.CaseRanges", laid_unicode_CaseRanges), ("unicode/utf8.first", laid_unicode_utf8_first)], narrowed := true }
def FnPairFreeUptoSaid : Prop := fnPairFreeUptoRow.holds Tryz.pinned (OpenSpec.upto fnPairFreeSpec)

/-- 'laws.FnMatchHolds', WHERE WHAT IT READS IS OF BULK AT MOST 1048576: true; the input reads as it did. -/
def fnMatchHoldsUptoRow : OpenClaim := { program := "ytlhmdpkenkibiaagreatdoor", sum := "f5b7bae5713e49feb4199ba674beacc3c3024094452a55895465c1ff38530c68", func := "loop.example/productprograms/laws.FnMatchHolds", spec := "fnMatchHolds", inPlace := ["internal/abi.NoEscape", "internal/bytealg.MakeNoZero"], unfollowed := true, recurses := true, named := ["unicode.CaseRanges", "unicode/utf8.first", "unicode/utf8.acceptRanges"], plainKeys := false, apart := false, laid := [("unicode/utf8.acceptRanges", laid_unicode_utf8_acceptRanges), ("unicode.CaseRanges", laid_unicode_CaseRanges), ("unicode/utf8.first", laid_unicode_utf8_first)], narrowed := true }
def FnMatchHoldsUptoSaid : Prop := fnMatchHoldsUptoRow.holds Tryz.pinned (OpenSpec.upto fnMatchHoldsSpec)

/-- 'laws.FnEndTogether', WHERE WHAT IT READS IS OF BULK AT MOST 1048576: true; the input reads as it did. -/
def fnEndTogetherUptoRow : OpenClaim := { program := "ytlhmdpkenkibiaagreatdoor", sum := "f5b7bae5713e49feb4199ba674beacc3c3024094452a55895465c1ff38530c68", func := "loop.example/productprograms/laws.FnEndTogether", spec := "fnEndTogether", inPlace := ["internal/abi.NoEscape", "internal/bytealg.MakeNoZero"], unfollowed := true, recurses := true, named := ["unicode.CaseRanges", "unicode/utf8.first", "unicode/utf8.acceptRanges"], plainKeys := false, apart := false, laid := [("unicode/utf8.acceptRanges", laid_unicode_utf8_acceptRanges), ("unicode.CaseRanges", laid_unicode_CaseRanges), ("unicode/utf8.first", laid_unicode_utf8_first)], narrowed := true }
def FnEndTogetherUptoSaid : Prop := fnEndTogetherUptoRow.holds Tryz.pinned (OpenSpec.upto fnEndTogetherSpec)

/-- 'laws.FnJoinedFree', WHERE WHAT IT READS IS OF BULK AT MOST 1048576: true; the input reads as it did. -/
def fnJoinedFreeUptoRow : OpenClaim := { program := "ytlhmdpkenkibiaagreatdoor", sum := "f5b7bae5713e49feb4199ba674beacc3c3024094452a55895465c1ff38530c68", func := "loop.example/productprograms/laws.FnJoinedFree", spec := "fnJoinedFree", inPlace := ["internal/abi.NoEscape", "internal/bytealg.MakeNoZero"], unfollowed := true, recurses := true, named := ["unicode.CaseRanges", "unicode/utf8.first", "unicode/utf8.acceptRanges"], plainKeys := false, apart := false, laid := [("unicode/utf8.acceptRanges", laid_unicode_utf8_acceptRanges), ("unicode.CaseRanges", laid_unicode_CaseRanges), ("unicode/utf8.first", laid_unicode_utf8_first)], narrowed := true }
def FnJoinedFreeUptoSaid : Prop := fnJoinedFreeUptoRow.holds Tryz.pinned (OpenSpec.upto fnJoinedFreeSpec)

/-- 'laws.FnPairComposed', WHERE WHAT IT READS IS OF BULK AT MOST 1048576: true; the input reads as it did. -/
def fnPairComposedUptoRow : OpenClaim := { program := "ytlhmdpkenkibiaagreatdoor", sum := "f5b7bae5713e49feb4199ba674beacc3c3024094452a55895465c1ff38530c68", func := "loop.example/productprograms/laws.FnPairComposed", spec := "fnPairComposed", inPlace := ["internal/abi.NoEscape", "internal/bytealg.MakeNoZero"], unfollowed := true, recurses := true, named := ["unicode.CaseRanges", "unicode/utf8.first", "unicode/utf8.acceptRanges"], plainKeys := false, apart := false, laid := [("unicode/utf8.acceptRanges", laid_unicode_utf8_acceptRanges), ("unicode.CaseRanges", laid_unicode_CaseRanges), ("unicode/utf8.first", laid_unicode_utf8_first)], narrowed := true }
def FnPairComposedUptoSaid : Prop := fnPairComposedUptoRow.holds Tryz.pinned (OpenSpec.upto fnPairComposedSpec)

/-- 'laws.FnPairTriple', WHERE WHAT IT READS IS OF BULK AT MOST 1048576: true; the input reads as it did. -/
def fnPairTripleUptoRow : OpenClaim := { program := "ytlhmdpkenkibiaagreatdoor", sum := "f5b7bae5713e49feb4199ba674beacc3c3024094452a55895465c1ff38530c68", func := "loop.example/productprograms/laws.FnPairTriple", spec := "fnPairTriple", inPlace := ["internal/abi.NoEscape", "internal/bytealg.MakeNoZero"], unfollowed := true, recurses := true, named := ["unicode.CaseRanges", "unicode/utf8.first", "unicode/utf8.acceptRanges", "math/bits.deBruijn32tab"], plainKeys := false, apart := false, laid := [("math/bits.deBruijn32tab", laid_math_bits_deBruijn32tab), ("unicode/utf8.acceptRanges", laid_unicode_utf8_acceptRanges), ("unicode.CaseRanges", laid_unicode_CaseRanges), ("unicode/utf8.first", laid_unicode_utf8_first)], narrowed := true }
def FnPairTripleUptoSaid : Prop := fnPairTripleUptoRow.holds Tryz.pinned (OpenSpec.upto fnPairTripleSpec)

end Rows
end Go.Proofs.YtlhmdpkenkibiaaGreatDoor
