/-
  NARROWER THAN 'FOR EVERY INPUT', by the rows' own cells (each row's printed sentence says how): FnExactEndTogether: laid · FnExactPairFree: laid · FnExactPairPost: laid · FnExactPairHolds: laid · FnExactCounterPair: laid · FnExactMatchFree: laid · FnExactMatchHolds: laid · FnExactJoinedFree: laid · FnExactSameOn: laid · FnExactAffectedVars: laid · FnExactMonotoneIn: laid · FnExactDeterministicProgram: laid.
  DERIVED. THE GIVEN ROWS OF THIS SEAT. 12 by the template 'for every input the law returns true; each argument reads behind the call as it read before'; 0 by the template 'total and deterministic' (their statements: YtinjmdjnkneidaaGreatDoorTotals.lean).
  GIVEN WITH THE SEED: the statements are not yours to turn. If you find one false, say at which input.
  Laid BY PROGRAM, IN A SANDBOX (cutbox-rows.mjs): the forced cells as the released guide's own fill.sh prints them over the translation 99e38a4ecdc39fc5… (all of the seat's roots in one cut). By AI agents, Wed Nov 11 2026. No macro, syntax, notation, axiom, sorry.
-/
import Derived.Test.YtinjmdjnkneidaaGreatDoorChecked
import GoSem.PinnedTables
import GoSem.Claim
import GoSem.ClaimJoined
import GoSem.ClaimMapViews
import Derived.JoinedTies
import Derived.KernelRfl
namespace Go.Proofs.YtinjmdjnkneidaaGreatDoor
/- THE CELL 'sum', in the pinned program and in every row, IS THE sha256 OF THE DUMP (.gsa) THAT YtinjmdjnkneidaaGreatDoorProg.lean LOADS. Nothing in Lean hashes anything: it is a label: what it is worth is what the hold of that sum in a sandbox is worth. -/
noncomputable def Tryz.pinned : Pinned := { name := "ytinjmdjnkneidaagreatdoor", sum := "99e38a4ecdc39fc5dd6c96503de8f26f556ddce30213c8ec75daef4a79fdf66d", checked := Tryz.checked }
namespace Rows
def none {H : Type} : Left H := { results := [], args := [] }

/- WHAT THE LISTED PACKAGE-LEVEL VARIABLES READ AS WHEN THE CALL BEGINS. Each datum BY PROGRAM (the guide's laid-datum.mjs) off the statement by which the dump's own 'gosem.cut.vars' lays the variable. In a bare row this is a premise. The card (YtinjmdjnkneidaaGreatDoorCards.lean) ties it to the program's text. -/
def laid_unicode_utf8_acceptRanges {H : Type} : DataW H := .agg [.agg [.lit (.int .u8 128), .lit (.int .u8 191)], .agg [.lit (.int .u8 160), .lit (.int .u8 191)], .agg [.lit (.int .u8 128), .lit (.int .u8 159)], .agg [.lit (.int .u8 144), .lit (.int .u8 191)], .agg [.lit (.int .u8 128), .lit (.int .u8 143)], .agg [.lit (.int .u8 0), .lit (.int .u8 0)], .agg [.lit (.int .u8 0), .lit (.int .u8 0)], .agg [.lit (.int .u8 0), .lit (.int .u8 0)], .agg [.lit (.int .u8 0), .lit (.int .u8 0)], .agg [.lit (.int .u8 0), .lit (.int .u8 0)], .agg [.lit (.int .u8 0), .lit (.int .u8 0)], .agg [.lit (.int .u8 0), .lit (.int .u8 0)], .agg [.lit (.int .u8 0), .lit (.int .u8 0)], .agg [.lit (.int .u8 0), .lit (.int .u8 0)], .agg [.lit (.int .u8 0), .lit (.int .u8 0)], .agg [.lit (.int .u8 0), .lit (.int .u8 0)]]
/-- One of Go's own tables, pinned by name: the form's constant. -/
def laid_unicode_CaseRanges : DataW Unit := Go.Pinned.caseRanges
/-- One of Go's own tables, pinned by name: the form's constant. -/
def laid_unicode_utf8_first : DataW Unit := Go.Pinned.utf8First
def laid_math_bits_deBruijn32tab {H : Type} : DataW H := .agg [.lit (.int .u8 0), .lit (.int .u8 1), .lit (.int .u8 28), .lit (.int .u8 2), .lit (.int .u8 29), .lit (.int .u8 14), .lit (.int .u8 24), .lit (.int .u8 3), .lit (.int .u8 30), .lit (.int .u8 22), .lit (.int .u8 20), .lit (.int .u8 15), .lit (.int .u8 25), .lit (.int .u8 17), .lit (.int .u8 4), .lit (.int .u8 8), .lit (.int .u8 31), .lit (.int .u8 27), .lit (.int .u8 13), .lit (.int .u8 23), .lit (.int .u8 21), .lit (.int .u8 19), .lit (.int .u8 16), .lit (.int .u8 7), .lit (.int .u8 26), .lit (.int .u8 12), .lit (.int .u8 18), .lit (.int .u8 6), .lit (.int .u8 11), .lit (.int .u8 5), .lit (.int .u8 10), .lit (.int .u8 9)]

/-- 'laws.FnExactEndTogether': WHATEVER THE INPUT: true; the input reads as it did. -/
def fnExactEndTogetherSpec : ChangeSpec := { name := "fnExactEndTogether", fn := fun _ => fun
  | [d1, d2, d3] => { results := [.lit (.bool true)], args := [d1, d2, d3] }
  | _ => none }
def fnExactEndTogetherRow : OpenClaim := { program := "ytinjmdjnkneidaagreatdoor", sum := "99e38a4ecdc39fc5dd6c96503de8f26f556ddce30213c8ec75daef4a79fdf66d", func := "loop.example/productprograms/laws.FnExactEndTogether", spec := "fnExactEndTogether", inPlace := ["internal/abi.NoEscape", "internal/bytealg.MakeNoZero"], unfollowed := true, recurses := true, named := ["unicode.CaseRanges", "unicode/utf8.first", "unicode/utf8.acceptRanges"], plainKeys := false, apart := false, laid := [("unicode/utf8.acceptRanges", laid_unicode_utf8_acceptRanges), ("unicode.CaseRanges", laid_unicode_CaseRanges), ("unicode/utf8.first", laid_unicode_utf8_first)] }
def FnExactEndTogetherSaid : Prop := fnExactEndTogetherRow.holds Tryz.pinned (OpenSpec.ofChange fnExactEndTogetherSpec)

/-- ITS FALSE NEIGHBOUR: 'it returns false'. Refute it at one input. -/
def fnExactEndTogetherWrong : ChangeSpec := { name := "fnExactEndTogether", fn := fun _ => fun
  | [d1, d2, d3] => { results := [.lit (.bool false)], args := [d1, d2, d3] }
  | _ => none }
def FnExactEndTogetherWrongFalsely : Prop := fnExactEndTogetherRow.holds Tryz.pinned (OpenSpec.ofChange fnExactEndTogetherWrong)

/-- 'laws.FnExactPairFree': WHATEVER THE INPUT: true; the input reads as it did. -/
def fnExactPairFreeSpec : ChangeSpec := { name := "fnExactPairFree", fn := fun _ => fun
  | [d1, d2, d3] => { results := [.lit (.bool true)], args := [d1, d2, d3] }
  | _ => none }
def fnExactPairFreeRow : OpenClaim := { program := "ytinjmdjnkneidaagreatdoor", sum := "99e38a4ecdc39fc5dd6c96503de8f26f556ddce30213c8ec75daef4a79fdf66d", func := "loop.example/productprograms/laws.FnExactPairFree", spec := "fnExactPairFree", inPlace := ["internal/abi.NoEscape", "internal/bytealg.MakeNoZero"], unfollowed := true, recurses := true, named := ["unicode.CaseRanges", "unicode/utf8.first", "unicode/utf8.acceptRanges"], plainKeys := false, apart := false, laid := [("unicode/utf8.acceptRanges", laid_unicode_utf8_acceptRanges), ("unicode.CaseRanges", laid_unicode_CaseRanges), ("unicode/utf8.first", laid_unicode_utf8_first)] }
def FnExactPairFreeSaid : Prop := fnExactPairFreeRow.holds Tryz.pinned (OpenSpec.ofChange fnExactPairFreeSpec)

/-- ITS FALSE NEIGHBOUR: 'it returns false'. Refute it at one input. -/
def fnExactPairFreeWrong : ChangeSpec := { name := "fnExactPairFree", fn := fun _ => fun
  | [d1, d2, d3] => { results := [.lit (.bool false)], args := [d1, d2, d3] }
  | _ => none }
def FnExactPairFreeWrongFalsely : Prop := fnExactPairFreeRow.holds Tryz.pinned (OpenSpec.ofChange fnExactPairFreeWrong)

/-- 'laws.FnExactPairPost': WHATEVER THE INPUT: true; the input reads as it did. -/
def fnExactPairPostSpec : ChangeSpec := { name := "fnExactPairPost", fn := fun _ => fun
  | [d1, d2, d3] => { results := [.lit (.bool true)], args := [d1, d2, d3] }
  | _ => none }
def fnExactPairPostRow : OpenClaim := { program := "ytinjmdjnkneidaagreatdoor", sum := "99e38a4ecdc39fc5dd6c96503de8f26f556ddce30213c8ec75daef4a79fdf66d", func := "loop.example/productprograms/laws.FnExactPairPost", spec := "fnExactPairPost", inPlace := ["internal/abi.NoEscape", "internal/bytealg.MakeNoZero"], unfollowed := true, recurses := true, named := ["unicode.CaseRanges", "unicode/utf8.first", "unicode/utf8.acceptRanges"], plainKeys := false, apart := false, laid := [("unicode/utf8.acceptRanges", laid_unicode_utf8_acceptRanges), ("unicode.CaseRanges", laid_unicode_CaseRanges), ("unicode/utf8.first", laid_unicode_utf8_first)] }
def FnExactPairPostSaid : Prop := fnExactPairPostRow.holds Tryz.pinned (OpenSpec.ofChange fnExactPairPostSpec)

/-- ITS FALSE NEIGHBOUR: 'it returns false'. Refute it at one input. -/
def fnExactPairPostWrong : ChangeSpec := { name := "fnExactPairPost", fn := fun _ => fun
  | [d1, d2, d3] => { results := [.lit (.bool false)], args := [d1, d2, d3] }
  | _ => none }
def FnExactPairPostWrongFalsely : Prop := fnExactPairPostRow.holds Tryz.pinned (OpenSpec.ofChange fnExactPairPostWrong)

/-- 'laws.FnExactPairHolds': WHATEVER THE INPUT: true; the input reads as it did. -/
def fnExactPairHoldsSpec : ChangeSpec := { name := "fnExactPairHolds", fn := fun _ => fun
  | [d1, d2, d3, d4] => { results := [.lit (.bool true)], args := [d1, d2, d3, d4] }
  | _ => none }
def fnExactPairHoldsRow : OpenClaim := { program := "ytinjmdjnkneidaagreatdoor", sum := "99e38a4ecdc39fc5dd6c96503de8f26f556ddce30213c8ec75daef4a79fdf66d", func := "loop.example/productprograms/laws.FnExactPairHolds", spec := "fnExactPairHolds", inPlace := ["internal/abi.NoEscape", "internal/bytealg.MakeNoZero"], unfollowed := true, recurses := true, named := ["unicode.CaseRanges", "unicode/utf8.first", "unicode/utf8.acceptRanges"], plainKeys := false, apart := false, laid := [("unicode/utf8.acceptRanges", laid_unicode_utf8_acceptRanges), ("unicode.CaseRanges", laid_unicode_CaseRanges), ("unicode/utf8.first", laid_unicode_utf8_first)] }
def FnExactPairHoldsSaid : Prop := fnExactPairHoldsRow.holds Tryz.pinned (OpenSpec.ofChange fnExactPairHoldsSpec)

/-- ITS FALSE NEIGHBOUR: 'it returns false'. Refute it at one input. -/
def fnExactPairHoldsWrong : ChangeSpec := { name := "fnExactPairHolds", fn := fun _ => fun
  | [d1, d2, d3, d4] => { results := [.lit (.bool false)], args := [d1, d2, d3, d4] }
  | _ => none }
def FnExactPairHoldsWrongFalsely : Prop := fnExactPairHoldsRow.holds Tryz.pinned (OpenSpec.ofChange fnExactPairHoldsWrong)

/-- 'laws.FnExactCounterPair': WHATEVER THE INPUT: true; the input reads as it did. -/
def fnExactCounterPairSpec : ChangeSpec := { name := "fnExactCounterPair", fn := fun _ => fun
  | [d1, d2, d3, d4] => { results := [.lit (.bool true)], args := [d1, d2, d3, d4] }
  | _ => none }
def fnExactCounterPairRow : OpenClaim := { program := "ytinjmdjnkneidaagreatdoor", sum := "99e38a4ecdc39fc5dd6c96503de8f26f556ddce30213c8ec75daef4a79fdf66d", func := "loop.example/productprograms/laws.FnExactCounterPair", spec := "fnExactCounterPair", inPlace := ["internal/abi.NoEscape", "internal/bytealg.MakeNoZero"], unfollowed := true, recurses := true, named := ["unicode.CaseRanges", "unicode/utf8.first", "unicode/utf8.acceptRanges", "math/bits.deBruijn32tab"], plainKeys := false, apart := false, laid := [("math/bits.deBruijn32tab", laid_math_bits_deBruijn32tab), ("unicode/utf8.acceptRanges", laid_unicode_utf8_acceptRanges), ("unicode.CaseRanges", laid_unicode_CaseRanges), ("unicode/utf8.first", laid_unicode_utf8_first)] }
def FnExactCounterPairSaid : Prop := fnExactCounterPairRow.holds Tryz.pinned (OpenSpec.ofChange fnExactCounterPairSpec)

/-- ITS FALSE NEIGHBOUR: 'it returns false'. Refute it at one input. -/
def fnExactCounterPairWrong : ChangeSpec := { name := "fnExactCounterPair", fn := fun _ => fun
  | [d1, d2, d3, d4] => { results := [.lit (.bool false)], args := [d1, d2, d3, d4] }
  | _ => none }
def FnExactCounterPairWrongFalsely : Prop := fnExactCounterPairRow.holds Tryz.pinned (OpenSpec.ofChange fnExactCounterPairWrong)

/-- 'laws.FnExactMatchFree': WHATEVER THE INPUT: true; the input reads as it did. -/
def fnExactMatchFreeSpec : ChangeSpec := { name := "fnExactMatchFree", fn := fun _ => fun
  | [d1, d2, d3] => { results := [.lit (.bool true)], args := [d1, d2, d3] }
  | _ => none }
def fnExactMatchFreeRow : OpenClaim := { program := "ytinjmdjnkneidaagreatdoor", sum := "99e38a4ecdc39fc5dd6c96503de8f26f556ddce30213c8ec75daef4a79fdf66d", func := "loop.example/productprograms/laws.FnExactMatchFree", spec := "fnExactMatchFree", inPlace := ["internal/abi.NoEscape", "internal/bytealg.MakeNoZero"], unfollowed := true, recurses := true, named := ["unicode.CaseRanges", "unicode/utf8.first", "unicode/utf8.acceptRanges"], plainKeys := false, apart := false, laid := [("unicode/utf8.acceptRanges", laid_unicode_utf8_acceptRanges), ("unicode.CaseRanges", laid_unicode_CaseRanges), ("unicode/utf8.first", laid_unicode_utf8_first)] }
def FnExactMatchFreeSaid : Prop := fnExactMatchFreeRow.holds Tryz.pinned (OpenSpec.ofChange fnExactMatchFreeSpec)

/-- ITS FALSE NEIGHBOUR: 'it returns false'. Refute it at one input. -/
def fnExactMatchFreeWrong : ChangeSpec := { name := "fnExactMatchFree", fn := fun _ => fun
  | [d1, d2, d3] => { results := [.lit (.bool false)], args := [d1, d2, d3] }
  | _ => none }
def FnExactMatchFreeWrongFalsely : Prop := fnExactMatchFreeRow.holds Tryz.pinned (OpenSpec.ofChange fnExactMatchFreeWrong)

/-- 'laws.FnExactMatchHolds': WHATEVER THE INPUT: true; the input reads as it did. -/
def fnExactMatchHoldsSpec : ChangeSpec := { name := "fnExactMatchHolds", fn := fun _ => fun
  | [d1, d2, d3, d4] => { results := [.lit (.bool true)], args := [d1, d2, d3, d4] }
  | _ => none }
def fnExactMatchHoldsRow : OpenClaim := { program := "ytinjmdjnkneidaagreatdoor", sum := "99e38a4ecdc39fc5dd6c96503de8f26f556ddce30213c8ec75daef4a79fdf66d", func := "loop.example/productprograms/laws.FnExactMatchHolds", spec := "fnExactMatchHolds", inPlace := ["internal/abi.NoEscape", "internal/bytealg.MakeNoZero"], unfollowed := true, recurses := true, named := ["unicode.CaseRanges", "unicode/utf8.first", "unicode/utf8.acceptRanges"], plainKeys := false, apart := false, laid := [("unicode/utf8.acceptRanges", laid_unicode_utf8_acceptRanges), ("unicode.CaseRanges", laid_unicode_CaseRanges), ("unicode/utf8.first", laid_unicode_utf8_first)] }
def FnExactMatchHoldsSaid : Prop := fnExactMatchHoldsRow.holds Tryz.pinned (OpenSpec.ofChange fnExactMatchHoldsSpec)

/-- ITS FALSE NEIGHBOUR: 'it returns false'. Refute it at one input. -/
def fnExactMatchHoldsWrong : ChangeSpec := { name := "fnExactMatchHolds", fn := fun _ => fun
  | [d1, d2, d3, d4] => { results := [.lit (.bool false)], args := [d1, d2, d3, d4] }
  | _ => none }
def FnExactMatchHoldsWrongFalsely : Prop := fnExactMatchHoldsRow.holds Tryz.pinned (OpenSpec.ofChange fnExactMatchHoldsWrong)

/-- 'laws.FnExactJoinedFree': WHATEVER THE INPUT: true; the input reads as it did. -/
def fnExactJoinedFreeSpec : ChangeSpec := { name := "fnExactJoinedFree", fn := fun _ => fun
  | [d1, d2, d3, d4, d5] => { results := [.lit (.bool true)], args := [d1, d2, d3, d4, d5] }
  | _ => none }
def fnExactJoinedFreeRow : OpenClaim := { program := "ytinjmdjnkneidaagreatdoor", sum := "99e38a4ecdc39fc5dd6c96503de8f26f556ddce30213c8ec75daef4a79fdf66d", func := "loop.example/productprograms/laws.FnExactJoinedFree", spec := "fnExactJoinedFree", inPlace := ["internal/abi.NoEscape", "internal/bytealg.MakeNoZero"], unfollowed := true, recurses := true, named := ["unicode.CaseRanges", "unicode/utf8.first", "unicode/utf8.acceptRanges"], plainKeys := false, apart := false, laid := [("unicode/utf8.acceptRanges", laid_unicode_utf8_acceptRanges), ("unicode.CaseRanges", laid_unicode_CaseRanges), ("unicode/utf8.first", laid_unicode_utf8_first)] }
def FnExactJoinedFreeSaid : Prop := fnExactJoinedFreeRow.holds Tryz.pinned (OpenSpec.ofChange fnExactJoinedFreeSpec)

/-- ITS FALSE NEIGHBOUR: 'it returns false'. Refute it at one input. -/
def fnExactJoinedFreeWrong : ChangeSpec := { name := "fnExactJoinedFree", fn := fun _ => fun
  | [d1, d2, d3, d4, d5] => { results := [.lit (.bool false)], args := [d1, d2, d3, d4, d5] }
  | _ => none }
def FnExactJoinedFreeWrongFalsely : Prop := fnExactJoinedFreeRow.holds Tryz.pinned (OpenSpec.ofChange fnExactJoinedFreeWrong)

/-- 'laws.FnExactSameOn': WHATEVER THE INPUT: true; the input reads as it did. -/
def fnExactSameOnSpec : ChangeSpec := { name := "fnExactSameOn", fn := fun _ => fun
  | [d1, d2, d3, d4] => { results := [.lit (.bool true)], args := [d1, d2, d3, d4] }
  | _ => none }
def fnExactSameOnRow : OpenClaim := { program := "ytinjmdjnkneidaagreatdoor", sum := "99e38a4ecdc39fc5dd6c96503de8f26f556ddce30213c8ec75daef4a79fdf66d", func := "loop.example/productprograms/laws.FnExactSameOn", spec := "fnExactSameOn", inPlace := ["internal/bytealg.IndexByteString", "internal/bytealg.IndexString", "internal/abi.NoEscape", "internal/bytealg.MakeNoZero"], unfollowed := true, recurses := true, named := ["internal/bytealg.MaxLen", "unicode.CaseRanges", "unicode/utf8.first", "unicode/utf8.acceptRanges"], plainKeys := false, apart := false, laid := [("unicode/utf8.acceptRanges", laid_unicode_utf8_acceptRanges), ("unicode.CaseRanges", laid_unicode_CaseRanges), ("unicode/utf8.first", laid_unicode_utf8_first)] }
def FnExactSameOnSaid : Prop := fnExactSameOnRow.holds Tryz.pinned (OpenSpec.ofChange fnExactSameOnSpec)

/-- ITS FALSE NEIGHBOUR: 'it returns false'. Refute it at one input. -/
def fnExactSameOnWrong : ChangeSpec := { name := "fnExactSameOn", fn := fun _ => fun
  | [d1, d2, d3, d4] => { results := [.lit (.bool false)], args := [d1, d2, d3, d4] }
  | _ => none }
def FnExactSameOnWrongFalsely : Prop := fnExactSameOnRow.holds Tryz.pinned (OpenSpec.ofChange fnExactSameOnWrong)

/-- 'laws.FnExactAffectedVars': WHATEVER THE INPUT: true; the input reads as it did. -/
def fnExactAffectedVarsSpec : ChangeSpec := { name := "fnExactAffectedVars", fn := fun _ => fun
  | [d1, d2] => { results := [.lit (.bool true)], args := [d1, d2] }
  | _ => none }
def fnExactAffectedVarsRow : OpenClaim := { program := "ytinjmdjnkneidaagreatdoor", sum := "99e38a4ecdc39fc5dd6c96503de8f26f556ddce30213c8ec75daef4a79fdf66d", func := "loop.example/productprograms/laws.FnExactAffectedVars", spec := "fnExactAffectedVars", inPlace := ["internal/abi.NoEscape", "internal/bytealg.MakeNoZero", "internal/bytealg.IndexByteString", "internal/bytealg.IndexString"], unfollowed := true, recurses := true, named := ["unicode.CaseRanges", "unicode/utf8.first", "unicode/utf8.acceptRanges", "internal/bytealg.MaxLen"], plainKeys := false, apart := false, laid := [("unicode/utf8.acceptRanges", laid_unicode_utf8_acceptRanges), ("unicode.CaseRanges", laid_unicode_CaseRanges), ("unicode/utf8.first", laid_unicode_utf8_first)] }
def FnExactAffectedVarsSaid : Prop := fnExactAffectedVarsRow.holds Tryz.pinned (OpenSpec.ofChange fnExactAffectedVarsSpec)

/-- ITS FALSE NEIGHBOUR: 'it returns false'. Refute it at one input. -/
def fnExactAffectedVarsWrong : ChangeSpec := { name := "fnExactAffectedVars", fn := fun _ => fun
  | [d1, d2] => { results := [.lit (.bool false)], args := [d1, d2] }
  | _ => none }
def FnExactAffectedVarsWrongFalsely : Prop := fnExactAffectedVarsRow.holds Tryz.pinned (OpenSpec.ofChange fnExactAffectedVarsWrong)

/-- 'laws.FnExactMonotoneIn': WHATEVER THE INPUT: true; the input reads as it did. -/
def fnExactMonotoneInSpec : ChangeSpec := { name := "fnExactMonotoneIn", fn := fun _ => fun
  | [d1, d2, d3] => { results := [.lit (.bool true)], args := [d1, d2, d3] }
  | _ => none }
def fnExactMonotoneInRow : OpenClaim := { program := "ytinjmdjnkneidaagreatdoor", sum := "99e38a4ecdc39fc5dd6c96503de8f26f556ddce30213c8ec75daef4a79fdf66d", func := "loop.example/productprograms/laws.FnExactMonotoneIn", spec := "fnExactMonotoneIn", inPlace := ["internal/abi.NoEscape", "internal/bytealg.MakeNoZero", "internal/bytealg.IndexByteString", "internal/bytealg.IndexString", "internal/bytealg.CountString"], unfollowed := true, recurses := true, named := ["unicode.CaseRanges", "unicode/utf8.first", "unicode/utf8.acceptRanges", "internal/bytealg.MaxLen"], plainKeys := false, apart := false, laid := [("unicode/utf8.acceptRanges", laid_unicode_utf8_acceptRanges), ("unicode.CaseRanges", laid_unicode_CaseRanges), ("unicode/utf8.first", laid_unicode_utf8_first)] }
def FnExactMonotoneInSaid : Prop := fnExactMonotoneInRow.holds Tryz.pinned (OpenSpec.ofChange fnExactMonotoneInSpec)

/-- ITS FALSE NEIGHBOUR: 'it returns false'. Refute it at one input. -/
def fnExactMonotoneInWrong : ChangeSpec := { name := "fnExactMonotoneIn", fn := fun _ => fun
  | [d1, d2, d3] => { results := [.lit (.bool false)], args := [d1, d2, d3] }
  | _ => none }
def FnExactMonotoneInWrongFalsely : Prop := fnExactMonotoneInRow.holds Tryz.pinned (OpenSpec.ofChange fnExactMonotoneInWrong)

/-- 'laws.FnExactDeterministicProgram': WHATEVER THE INPUT: true; the input reads as it did. -/
def fnExactDeterministicProgramSpec : ChangeSpec := { name := "fnExactDeterministicProgram", fn := fun _ => fun
  | [d] => { results := [.lit (.bool true)], args := [d] }
  | _ => none }
def fnExactDeterministicProgramRow : OpenClaim := { program := "ytinjmdjnkneidaagreatdoor", sum := "99e38a4ecdc39fc5dd6c96503de8f26f556ddce30213c8ec75daef4a79fdf66d", func := "loop.example/productprograms/laws.FnExactDeterministicProgram", spec := "fnExactDeterministicProgram", inPlace := ["internal/bytealg.IndexByteString", "internal/bytealg.IndexString", "internal/abi.NoEscape", "internal/bytealg.MakeNoZero"], unfollowed := true, recurses := true, named := ["internal/bytealg.MaxLen", "unicode.CaseRanges", "unicode/utf8.first", "unicode/utf8.acceptRanges"], plainKeys := false, apart := false, laid := [("unicode/utf8.acceptRanges", laid_unicode_utf8_acceptRanges), ("unicode.CaseRanges", laid_unicode_CaseRanges), ("unicode/utf8.first", laid_unicode_utf8_first)] }
def FnExactDeterministicProgramSaid : Prop := fnExactDeterministicProgramRow.holds Tryz.pinned (OpenSpec.ofChange fnExactDeterministicProgramSpec)

/-- ITS FALSE NEIGHBOUR: 'it returns false'. Refute it at one input. -/
def fnExactDeterministicProgramWrong : ChangeSpec := { name := "fnExactDeterministicProgram", fn := fun _ => fun
  | [d] => { results := [.lit (.bool false)], args := [d] }
  | _ => none }
def FnExactDeterministicProgramWrongFalsely : Prop := fnExactDeterministicProgramRow.holds Tryz.pinned (OpenSpec.ofChange fnExactDeterministicProgramWrong)

/- THE SECOND FORM. 'bulk': how many values and letters a reading holds, each counted each time it is reached (what is shared counts as often as it is met; a slice's spare places count too). A statement '..UptoSaid' is the law's where the arguments, and the package variables that the reading takes, are together of bulk at most 1048576: NARROWER than '..Said'. Prove '..Said' where nothing that the law and all that it calls make is longer than what came in: it says more and counts as full. Else prove '..UptoSaid'. A law counts once. -/
mutual
def uptoBulk {H : Type} : DataW H → Nat
  | .lit (.string bytes) => bytes.length + 1
  | .lit _ => 1
  | .nil => 1
  | .ptr d => uptoBulk d + 1
  | .slice elems spare => uptoBulkAll elems + uptoBulkAll spare + 1
  | .agg parts => uptoBulkAll parts + 1
  | .iface _ d => uptoBulk d + 1
  | .map entries => uptoBulkEntries entries + 1
  | .held _ => 1
def uptoBulkAll {H : Type} : List (DataW H) → Nat
  | [] => 0
  | d :: r => uptoBulk d + uptoBulkAll r
def uptoBulkEntries {H : Type} : List (Lit × DataW H) → Nat
  | [] => 0
  | x :: r => uptoBulkEntry x + uptoBulkEntries r
def uptoBulkEntry {H : Type} : Lit × DataW H → Nat
  | (.string bytes, d) => bytes.length + uptoBulk d + 1
  | (_, d) => uptoBulk d + 1
 end
def uptoSmall : (H : Type) → List (DataW H) → Bool := fun _ ds => decide (uptoBulkAll ds ≤ 1048576)
def OpenSpec.upto (s : _root_.Go.ChangeSpec) : _root_.Go.OpenSpec := { _root_.Go.OpenSpec.ofChange s with cond := some uptoSmall }

/-- 'laws.FnExactEndTogether', WHERE WHAT IT READS IS OF BULK AT MOST 1048576: true; the input reads as it did. -/
def fnExactEndTogetherUptoRow : OpenClaim := { program := "ytinjmdjnkneidaagreatdoor", sum := "99e38a4ecdc39fc5dd6c96503de8f26f556ddce30213c8ec75daef4a79fdf66d", func := "loop.example/productprograms/laws.FnExactEndTogether", spec := "fnExactEndTogether", inPlace := ["internal/abi.NoEscape", "internal/bytealg.MakeNoZero"], unfollowed := true, recurses := true, named := ["unicode.CaseRanges", "unicode/utf8.first", "unicode/utf8.acceptRanges"], plainKeys := false, apart := false, laid := [("unicode/utf8.acceptRanges", laid_unicode_utf8_acceptRanges), ("unicode.CaseRanges", laid_unicode_CaseRanges), ("unicode/utf8.first", laid_unicode_utf8_first)], narrowed := true }
def FnExactEndTogetherUptoSaid : Prop := fnExactEndTogetherUptoRow.holds Tryz.pinned (OpenSpec.upto fnExactEndTogetherSpec)

/-- 'laws.FnExactPairFree', WHERE WHAT IT READS IS OF BULK AT MOST 1048576: true; the input reads as it did. -/
def fnExactPairFreeUptoRow : OpenClaim := { program := "ytinjmdjnkneidaagreatdoor", sum := "99e38a4ecdc39fc5dd6c96503de8f26f556ddce30213c8ec75daef4a79fdf66d", func := "loop.example/productprograms/laws.FnExactPairFree", spec := "fnExactPairFree", inPlace := ["internal/abi.NoEscape", "internal/bytealg.MakeNoZero"], unfollowed := true, recurses := true, named := ["unicode.CaseRanges", "unicode/utf8.first", "unicode/utf8.acceptRanges"], plainKeys := false, apart := false, laid := [("unicode/utf8.acceptRanges", laid_unicode_utf8_acceptRanges), ("unicode.CaseRanges", laid_unicode_CaseRanges), ("unicode/utf8.first", laid_unicode_utf8_first)], narrowed := true }
def FnExactPairFreeUptoSaid : Prop := fnExactPairFreeUptoRow.holds Tryz.pinned (OpenSpec.upto fnExactPairFreeSpec)

/-- 'laws.FnExactPairPost', WHERE WHAT IT READS IS OF BULK AT MOST 1048576: true; the input reads as it did. -/
def fnExactPairPostUptoRow : OpenClaim := { program := "ytinjmdjnkneidaagreatdoor", sum := "99e38a4ecdc39fc5dd6c96503de8f26f556ddce30213c8ec75daef4a79fdf66d", func := "loop.example/productprograms/laws.FnExactPairPost", spec := "fnExactPairPost", inPlace := ["internal/abi.NoEscape", "internal/bytealg.MakeNoZero"], unfollowed := true, recurses := true, named := ["unicode.CaseRanges", "unicode/utf8.first", "unicode/utf8.acceptRanges"], plainKeys := false, apart := false, laid := [("unicode/utf8.acceptRanges", laid_unicode_utf8_acceptRanges), ("unicode.CaseRanges", laid_unicode_CaseRanges), ("unicode/utf8.first", laid_unicode_utf8_first)], narrowed := true }
def FnExactPairPostUptoSaid : Prop := fnExactPairPostUptoRow.holds Tryz.pinned (OpenSpec.upto fnExactPairPostSpec)

/-- 'laws.FnExactPairHolds', WHERE WHAT IT READS IS OF BULK AT MOST 1048576: true; the input reads as it did. -/
def fnExactPairHoldsUptoRow : OpenClaim := { program := "ytinjmdjnkneidaagreatdoor", sum := "99e38a4ecdc39fc5dd6c96503de8f26f556ddce30213c8ec75daef4a79fdf66d", func := "loop.example/productprograms/laws.FnExactPairHolds", spec := "fnExactPairHolds", inPlace := ["internal/abi.NoEscape", "internal/bytealg.MakeNoZero"], unfollowed := true, recurses := true, named := ["unicode.CaseRanges", "unicode/utf8.first", "unicode/utf8.acceptRanges"], plainKeys := false, apart := false, laid := [("unicode/utf8.acceptRanges", laid_unicode_utf8_acceptRanges), ("unicode.CaseRanges", laid_unicode_CaseRanges), ("unicode/utf8.first", laid_unicode_utf8_first)], narrowed := true }
def FnExactPairHoldsUptoSaid : Prop := fnExactPairHoldsUptoRow.holds Tryz.pinned (OpenSpec.upto fnExactPairHoldsSpec)

/-- 'laws.FnExactCounterPair', WHERE WHAT IT READS IS OF BULK AT MOST 1048576: true; the input reads as it did. -/
def fnExactCounterPairUptoRow : OpenClaim := { program := "ytinjmdjnkneidaagreatdoor", sum := "99e38a4ecdc39fc5dd6c96503de8f26f556ddce30213c8ec75daef4a79fdf66d", func := "loop.example/productprograms/laws.FnExactCounterPair", spec := "fnExactCounterPair", inPlace := ["internal/abi.NoEscape", "internal/bytealg.MakeNoZero"], unfollowed := true, recurses := true, named := ["unicode.CaseRanges", "unicode/utf8.first", "unicode/utf8.acceptRanges", "math/bits.deBruijn32tab"], plainKeys := false, apart := false, laid := [("math/bits.deBruijn32tab", laid_math_bits_deBruijn32tab), ("unicode/utf8.acceptRanges", laid_unicode_utf8_acceptRanges), ("unicode.CaseRanges", laid_unicode_CaseRanges), ("unicode/utf8.first", laid_unicode_utf8_first)], narrowed := true }
def FnExactCounterPairUptoSaid : Prop := fnExactCounterPairUptoRow.holds Tryz.pinned (OpenSpec.upto fnExactCounterPairSpec)

/-- 'laws.FnExactMatchFree', WHERE WHAT IT READS IS OF BULK AT MOST 1048576: true; the input reads as it did. -/
def fnExactMatchFreeUptoRow : OpenClaim := { program := "ytinjmdjnkneidaagreatdoor", sum := "99e38a4ecdc39fc5dd6c96503de8f26f556ddce30213c8ec75daef4a79fdf66d", func := "loop.example/productprograms/laws.FnExactMatchFree", spec := "fnExactMatchFree", inPlace := ["internal/abi.NoEscape", "internal/bytealg.MakeNoZero"], unfollowed := true, recurses := true, named := ["unicode.CaseRanges", "unicode/utf8.first", "unicode/utf8.acceptRanges"], plainKeys := false, apart := false, laid := [("unicode/utf8.acceptRanges", laid_unicode_utf8_acceptRanges), ("unicode.CaseRanges", laid_unicode_CaseRanges), ("unicode/utf8.first", laid_unicode_utf8_first)], narrowed := true }
def FnExactMatchFreeUptoSaid : Prop := fnExactMatchFreeUptoRow.holds Tryz.pinned (OpenSpec.upto fnExactMatchFreeSpec)

/-- 'laws.FnExactMatchHolds', WHERE WHAT IT READS IS OF BULK AT MOST 1048576: true; the input reads as it did. -/
def fnExactMatchHoldsUptoRow : OpenClaim := { program := "ytinjmdjnkneidaagreatdoor", sum := "99e38a4ecdc39fc5dd6c96503de8f26f556ddce30213c8ec75daef4a79fdf66d", func := "loop.example/productprograms/laws.FnExactMatchHolds", spec := "fnExactMatchHolds", inPlace := ["internal/abi.NoEscape", "internal/bytealg.MakeNoZero"], unfollowed := true, recurses := true, named := ["unicode.CaseRanges", "unicode/utf8.first", "unicode/utf8.acceptRanges"], plainKeys := false, apart := false, laid := [("unicode/utf8.acceptRanges", laid_unicode_utf8_acceptRanges), ("unicode.CaseRanges", laid_unicode_CaseRanges), ("unicode/utf8.first", laid_unicode_utf8_first)], narrowed := true }
def FnExactMatchHoldsUptoSaid : Prop := fnExactMatchHoldsUptoRow.holds Tryz.pinned (OpenSpec.upto fnExactMatchHoldsSpec)

/-- 'laws.FnExactJoinedFree', WHERE WHAT IT READS IS OF BULK AT MOST 1048576: true; the input reads as it did. -/
def fnExactJoinedFreeUptoRow : OpenClaim := { program := "ytinjmdjnkneidaagreatdoor", sum := "99e38a4ecdc39fc5dd6c96503de8f26f556ddce30213c8ec75daef4a79fdf66d", func := "loop.example/productprograms/laws.FnExactJoinedFree", spec := "fnExactJoinedFree", inPlace := ["internal/abi.NoEscape", "internal/bytealg.MakeNoZero"], unfollowed := true, recurses := true, named := ["unicode.CaseRanges", "unicode/utf8.first", "unicode/utf8.acceptRanges"], plainKeys := false, apart := false, laid := [("unicode/utf8.acceptRanges", laid_unicode_utf8_acceptRanges), ("unicode.CaseRanges", laid_unicode_CaseRanges), ("unicode/utf8.first", laid_unicode_utf8_first)], narrowed := true }
def FnExactJoinedFreeUptoSaid : Prop := fnExactJoinedFreeUptoRow.holds Tryz.pinned (OpenSpec.upto fnExactJoinedFreeSpec)

/-- 'laws.FnExactSameOn', WHERE WHAT IT READS IS OF BULK AT MOST 1048576: true; the input reads as it did. -/
def fnExactSameOnUptoRow : OpenClaim := { program := "ytinjmdjnkneidaagreatdoor", sum := "99e38a4ecdc39fc5dd6c96503de8f26f556ddce30213c8ec75daef4a79fdf66d", func := "loop.example/productprograms/laws.FnExactSameOn", spec := "fnExactSameOn", inPlace := ["internal/bytealg.IndexByteString", "internal/bytealg.IndexString", "internal/abi.NoEscape", "internal/bytealg.MakeNoZero"], unfollowed := true, recurses := true, named := ["internal/bytealg.MaxLen", "unicode.CaseRanges", "unicode/utf8.first", "unicode/utf8.acceptRanges"], plainKeys := false, apart := false, laid := [("unicode/utf8.acceptRanges", laid_unicode_utf8_acceptRanges), ("unicode.CaseRanges", laid_unicode_CaseRanges), ("unicode/utf8.first", laid_unicode_utf8_first)], narrowed := true }
def FnExactSameOnUptoSaid : Prop := fnExactSameOnUptoRow.holds Tryz.pinned (OpenSpec.upto fnExactSameOnSpec)

/-- 'laws.FnExactAffectedVars', WHERE WHAT IT READS IS OF BULK AT MOST 1048576: true; the input reads as it did. -/
def fnExactAffectedVarsUptoRow : OpenClaim := { program := "ytinjmdjnkneidaagreatdoor", sum := "99e38a4ecdc39fc5dd6c96503de8f26f556ddce30213c8ec75daef4a79fdf66d", func := "loop.example/productprograms/laws.FnExactAffectedVars", spec := "fnExactAffectedVars", inPlace := ["internal/abi.NoEscape", "internal/bytealg.MakeNoZero", "internal/bytealg.IndexByteString", "internal/bytealg.IndexString"], unfollowed := true, recurses := true, named := ["unicode.CaseRanges", "unicode/utf8.first", "unicode/utf8.acceptRanges", "internal/bytealg.MaxLen"], plainKeys := false, apart := false, laid := [("unicode/utf8.acceptRanges", laid_unicode_utf8_acceptRanges), ("unicode.CaseRanges", laid_unicode_CaseRanges), ("unicode/utf8.first", laid_unicode_utf8_first)], narrowed := true }
def FnExactAffectedVarsUptoSaid : Prop := fnExactAffectedVarsUptoRow.holds Tryz.pinned (OpenSpec.upto fnExactAffectedVarsSpec)

/-- 'laws.FnExactMonotoneIn', WHERE WHAT IT READS IS OF BULK AT MOST 1048576: true; the input reads as it did. -/
def fnExactMonotoneInUptoRow : OpenClaim := { program := "ytinjmdjnkneidaagreatdoor", sum := "99e38a4ecdc39fc5dd6c96503de8f26f556ddce30213c8ec75daef4a79fdf66d", func := "loop.example/productprograms/laws.FnExactMonotoneIn", spec := "fnExactMonotoneIn", inPlace := ["internal/abi.NoEscape", "internal/bytealg.MakeNoZero", "internal/bytealg.IndexByteString", "internal/bytealg.IndexString", "internal/bytealg.CountString"], unfollowed := true, recurses := true, named := ["unicode.CaseRanges", "unicode/utf8.first", "unicode/utf8.acceptRanges", "internal/bytealg.MaxLen"], plainKeys := false, apart := false, laid := [("unicode/utf8.acceptRanges", laid_unicode_utf8_acceptRanges), ("unicode.CaseRanges", laid_unicode_CaseRanges), ("unicode/utf8.first", laid_unicode_utf8_first)], narrowed := true }
def FnExactMonotoneInUptoSaid : Prop := fnExactMonotoneInUptoRow.holds Tryz.pinned (OpenSpec.upto fnExactMonotoneInSpec)

/-- 'laws.FnExactDeterministicProgram', WHERE WHAT IT READS IS OF BULK AT MOST 1048576: true; the input reads as it did. -/
def fnExactDeterministicProgramUptoRow : OpenClaim := { program := "ytinjmdjnkneidaagreatdoor", sum := "99e38a4ecdc39fc5dd6c96503de8f26f556ddce30213c8ec75daef4a79fdf66d", func := "loop.example/productprograms/laws.FnExactDeterministicProgram", spec := "fnExactDeterministicProgram", inPlace := ["internal/bytealg.IndexByteString", "internal/bytealg.IndexString", "internal/abi.NoEscape", "internal/bytealg.MakeNoZero"], unfollowed := true, recurses := true, named := ["internal/bytealg.MaxLen", "unicode.CaseRanges", "unicode/utf8.first", "unicode/utf8.acceptRanges"], plainKeys := false, apart := false, laid := [("unicode/utf8.acceptRanges", laid_unicode_utf8_acceptRanges), ("unicode.CaseRanges", laid_unicode_CaseRanges), ("unicode/utf8.first", laid_unicode_utf8_first)], narrowed := true }
def FnExactDeterministicProgramUptoSaid : Prop := fnExactDeterministicProgramUptoRow.holds Tryz.pinned (OpenSpec.upto fnExactDeterministicProgramSpec)

end Rows
end Go.Proofs.YtinjmdjnkneidaaGreatDoor
