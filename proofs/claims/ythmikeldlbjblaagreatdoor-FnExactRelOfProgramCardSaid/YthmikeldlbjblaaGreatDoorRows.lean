/-
  NARROWER THAN 'FOR EVERY INPUT', by the rows' own cells (each row's printed sentence says how): FnExactSamePrograms: laid · FnExactRefinesProgram: laid · FnExactFirstDifference: laid · FnExactCommutePrograms: laid · FnExactIdempotentProgram: laid · FnExactUndoesProgram: laid · FnExactRunsFrom: laid · FnExactEndTogether: laid · FnExactRelOfProgram: laid · FnExactLineValid: laid.
  DERIVED. THE GIVEN ROWS OF THIS SEAT. 10 by the template 'for every input the law returns true; each argument reads behind the call as it read before'; 0 by the template 'total and deterministic' (their statements: YthmikeldlbjblaaGreatDoorTotals.lean).
  GIVEN WITH THE SEED: the statements are not yours to turn. If you find one false, say at which input.
  Laid BY PROGRAM, IN A SANDBOX (cutbox-rows.mjs): the forced cells as the released guide's own fill.sh prints them over the translation 82d915b7813e9e9d… (all of the seat's roots in one cut). By AI agents, Wed Nov 11 2026. No macro, syntax, notation, axiom, sorry.
-/
import Derived.Test.YthmikeldlbjblaaGreatDoorChecked
import GoSem.PinnedTables
import GoSem.Claim
import GoSem.ClaimJoined
import GoSem.ClaimMapViews
import Derived.JoinedTies
import Derived.KernelRfl
namespace Go.Proofs.YthmikeldlbjblaaGreatDoor
/- THE CELL 'sum', in the pinned program and in every row, IS THE sha256 OF THE DUMP (.gsa) THAT YthmikeldlbjblaaGreatDoorProg.lean LOADS. Nothing in Lean hashes anything: it is a label: what it is worth is what the hold of that sum in a sandbox is worth. -/
noncomputable def Tryz.pinned : Pinned := { name := "ythmikeldlbjblaagreatdoor", sum := "82d915b7813e9e9d879e70bd2ba4efc3e1693c0561e06964044f067372357e9f", checked := Tryz.checked }
namespace Rows
def none {H : Type} : Left H := { results := [], args := [] }

/- WHAT THE LISTED PACKAGE-LEVEL VARIABLES READ AS WHEN THE CALL BEGINS. Each datum BY PROGRAM (the guide's laid-datum.mjs) off the statement by which the dump's own 'gosem.cut.vars' lays the variable. In a bare row this is a premise. The card (YthmikeldlbjblaaGreatDoorCards.lean) ties it to the program's text. -/
def laid_unicode_utf8_acceptRanges {H : Type} : DataW H := .agg [.agg [.lit (.int .u8 128), .lit (.int .u8 191)], .agg [.lit (.int .u8 160), .lit (.int .u8 191)], .agg [.lit (.int .u8 128), .lit (.int .u8 159)], .agg [.lit (.int .u8 144), .lit (.int .u8 191)], .agg [.lit (.int .u8 128), .lit (.int .u8 143)], .agg [.lit (.int .u8 0), .lit (.int .u8 0)], .agg [.lit (.int .u8 0), .lit (.int .u8 0)], .agg [.lit (.int .u8 0), .lit (.int .u8 0)], .agg [.lit (.int .u8 0), .lit (.int .u8 0)], .agg [.lit (.int .u8 0), .lit (.int .u8 0)], .agg [.lit (.int .u8 0), .lit (.int .u8 0)], .agg [.lit (.int .u8 0), .lit (.int .u8 0)], .agg [.lit (.int .u8 0), .lit (.int .u8 0)], .agg [.lit (.int .u8 0), .lit (.int .u8 0)], .agg [.lit (.int .u8 0), .lit (.int .u8 0)], .agg [.lit (.int .u8 0), .lit (.int .u8 0)]]
/-- One of Go's own tables, pinned by name: the form's constant. -/
def laid_unicode_CaseRanges : DataW Unit := Go.Pinned.caseRanges
/-- One of Go's own tables, pinned by name: the form's constant. -/
def laid_unicode_utf8_first : DataW Unit := Go.Pinned.utf8First

/-- 'laws.FnExactSamePrograms': WHATEVER THE INPUT: true; the input reads as it did. -/
def fnExactSameProgramsSpec : ChangeSpec := { name := "fnExactSamePrograms", fn := fun _ => fun
  | [d1, d2] => { results := [.lit (.bool true)], args := [d1, d2] }
  | _ => none }
def fnExactSameProgramsRow : OpenClaim := { program := "ythmikeldlbjblaagreatdoor", sum := "82d915b7813e9e9d879e70bd2ba4efc3e1693c0561e06964044f067372357e9f", func := "loop.example/productprograms/laws.FnExactSamePrograms", spec := "fnExactSamePrograms", inPlace := ["internal/abi.NoEscape", "internal/bytealg.MakeNoZero"], unfollowed := true, recurses := true, named := ["unicode.CaseRanges", "unicode/utf8.first", "unicode/utf8.acceptRanges"], plainKeys := false, apart := false, laid := [("unicode/utf8.acceptRanges", laid_unicode_utf8_acceptRanges), ("unicode.CaseRanges", laid_unicode_CaseRanges), ("unicode/utf8.first", laid_unicode_utf8_first)] }
def FnExactSameProgramsSaid : Prop := fnExactSameProgramsRow.holds Tryz.pinned (OpenSpec.ofChange fnExactSameProgramsSpec)

/-- ITS FALSE NEIGHBOUR: 'it returns false'. Refute it at one input. -/
def fnExactSameProgramsWrong : ChangeSpec := { name := "fnExactSamePrograms", fn := fun _ => fun
  | [d1, d2] => { results := [.lit (.bool false)], args := [d1, d2] }
  | _ => none }
def FnExactSameProgramsWrongFalsely : Prop := fnExactSameProgramsRow.holds Tryz.pinned (OpenSpec.ofChange fnExactSameProgramsWrong)

/-- 'laws.FnExactRefinesProgram': WHATEVER THE INPUT: true; the input reads as it did. -/
def fnExactRefinesProgramSpec : ChangeSpec := { name := "fnExactRefinesProgram", fn := fun _ => fun
  | [d1, d2] => { results := [.lit (.bool true)], args := [d1, d2] }
  | _ => none }
def fnExactRefinesProgramRow : OpenClaim := { program := "ythmikeldlbjblaagreatdoor", sum := "82d915b7813e9e9d879e70bd2ba4efc3e1693c0561e06964044f067372357e9f", func := "loop.example/productprograms/laws.FnExactRefinesProgram", spec := "fnExactRefinesProgram", inPlace := ["internal/abi.NoEscape", "internal/bytealg.MakeNoZero"], unfollowed := true, recurses := true, named := ["unicode.CaseRanges", "unicode/utf8.first", "unicode/utf8.acceptRanges"], plainKeys := false, apart := false, laid := [("unicode/utf8.acceptRanges", laid_unicode_utf8_acceptRanges), ("unicode.CaseRanges", laid_unicode_CaseRanges), ("unicode/utf8.first", laid_unicode_utf8_first)] }
def FnExactRefinesProgramSaid : Prop := fnExactRefinesProgramRow.holds Tryz.pinned (OpenSpec.ofChange fnExactRefinesProgramSpec)

/-- ITS FALSE NEIGHBOUR: 'it returns false'. Refute it at one input. -/
def fnExactRefinesProgramWrong : ChangeSpec := { name := "fnExactRefinesProgram", fn := fun _ => fun
  | [d1, d2] => { results := [.lit (.bool false)], args := [d1, d2] }
  | _ => none }
def FnExactRefinesProgramWrongFalsely : Prop := fnExactRefinesProgramRow.holds Tryz.pinned (OpenSpec.ofChange fnExactRefinesProgramWrong)

/-- 'laws.FnExactFirstDifference': WHATEVER THE INPUT: true; the input reads as it did. -/
def fnExactFirstDifferenceSpec : ChangeSpec := { name := "fnExactFirstDifference", fn := fun _ => fun
  | [d1, d2] => { results := [.lit (.bool true)], args := [d1, d2] }
  | _ => none }
def fnExactFirstDifferenceRow : OpenClaim := { program := "ythmikeldlbjblaagreatdoor", sum := "82d915b7813e9e9d879e70bd2ba4efc3e1693c0561e06964044f067372357e9f", func := "loop.example/productprograms/laws.FnExactFirstDifference", spec := "fnExactFirstDifference", inPlace := ["internal/abi.NoEscape", "internal/bytealg.MakeNoZero"], unfollowed := true, recurses := true, named := ["unicode.CaseRanges", "unicode/utf8.first", "unicode/utf8.acceptRanges"], plainKeys := false, apart := false, laid := [("unicode/utf8.acceptRanges", laid_unicode_utf8_acceptRanges), ("unicode.CaseRanges", laid_unicode_CaseRanges), ("unicode/utf8.first", laid_unicode_utf8_first)] }
def FnExactFirstDifferenceSaid : Prop := fnExactFirstDifferenceRow.holds Tryz.pinned (OpenSpec.ofChange fnExactFirstDifferenceSpec)

/-- ITS FALSE NEIGHBOUR: 'it returns false'. Refute it at one input. -/
def fnExactFirstDifferenceWrong : ChangeSpec := { name := "fnExactFirstDifference", fn := fun _ => fun
  | [d1, d2] => { results := [.lit (.bool false)], args := [d1, d2] }
  | _ => none }
def FnExactFirstDifferenceWrongFalsely : Prop := fnExactFirstDifferenceRow.holds Tryz.pinned (OpenSpec.ofChange fnExactFirstDifferenceWrong)

/-- 'laws.FnExactCommutePrograms': WHATEVER THE INPUT: true; the input reads as it did. -/
def fnExactCommuteProgramsSpec : ChangeSpec := { name := "fnExactCommutePrograms", fn := fun _ => fun
  | [d1, d2] => { results := [.lit (.bool true)], args := [d1, d2] }
  | _ => none }
def fnExactCommuteProgramsRow : OpenClaim := { program := "ythmikeldlbjblaagreatdoor", sum := "82d915b7813e9e9d879e70bd2ba4efc3e1693c0561e06964044f067372357e9f", func := "loop.example/productprograms/laws.FnExactCommutePrograms", spec := "fnExactCommutePrograms", inPlace := ["internal/abi.NoEscape", "internal/bytealg.MakeNoZero"], unfollowed := true, recurses := true, named := ["unicode.CaseRanges", "unicode/utf8.first", "unicode/utf8.acceptRanges"], plainKeys := false, apart := false, laid := [("unicode/utf8.acceptRanges", laid_unicode_utf8_acceptRanges), ("unicode.CaseRanges", laid_unicode_CaseRanges), ("unicode/utf8.first", laid_unicode_utf8_first)] }
def FnExactCommuteProgramsSaid : Prop := fnExactCommuteProgramsRow.holds Tryz.pinned (OpenSpec.ofChange fnExactCommuteProgramsSpec)

/-- ITS FALSE NEIGHBOUR: 'it returns false'. Refute it at one input. -/
def fnExactCommuteProgramsWrong : ChangeSpec := { name := "fnExactCommutePrograms", fn := fun _ => fun
  | [d1, d2] => { results := [.lit (.bool false)], args := [d1, d2] }
  | _ => none }
def FnExactCommuteProgramsWrongFalsely : Prop := fnExactCommuteProgramsRow.holds Tryz.pinned (OpenSpec.ofChange fnExactCommuteProgramsWrong)

/-- 'laws.FnExactIdempotentProgram': WHATEVER THE INPUT: true; the input reads as it did. -/
def fnExactIdempotentProgramSpec : ChangeSpec := { name := "fnExactIdempotentProgram", fn := fun _ => fun
  | [d] => { results := [.lit (.bool true)], args := [d] }
  | _ => none }
def fnExactIdempotentProgramRow : OpenClaim := { program := "ythmikeldlbjblaagreatdoor", sum := "82d915b7813e9e9d879e70bd2ba4efc3e1693c0561e06964044f067372357e9f", func := "loop.example/productprograms/laws.FnExactIdempotentProgram", spec := "fnExactIdempotentProgram", inPlace := ["internal/abi.NoEscape", "internal/bytealg.MakeNoZero"], unfollowed := true, recurses := true, named := ["unicode.CaseRanges", "unicode/utf8.first", "unicode/utf8.acceptRanges"], plainKeys := false, apart := false, laid := [("unicode/utf8.acceptRanges", laid_unicode_utf8_acceptRanges), ("unicode.CaseRanges", laid_unicode_CaseRanges), ("unicode/utf8.first", laid_unicode_utf8_first)] }
def FnExactIdempotentProgramSaid : Prop := fnExactIdempotentProgramRow.holds Tryz.pinned (OpenSpec.ofChange fnExactIdempotentProgramSpec)

/-- ITS FALSE NEIGHBOUR: 'it returns false'. Refute it at one input. -/
def fnExactIdempotentProgramWrong : ChangeSpec := { name := "fnExactIdempotentProgram", fn := fun _ => fun
  | [d] => { results := [.lit (.bool false)], args := [d] }
  | _ => none }
def FnExactIdempotentProgramWrongFalsely : Prop := fnExactIdempotentProgramRow.holds Tryz.pinned (OpenSpec.ofChange fnExactIdempotentProgramWrong)

/-- 'laws.FnExactUndoesProgram': WHATEVER THE INPUT: true; the input reads as it did. -/
def fnExactUndoesProgramSpec : ChangeSpec := { name := "fnExactUndoesProgram", fn := fun _ => fun
  | [d1, d2] => { results := [.lit (.bool true)], args := [d1, d2] }
  | _ => none }
def fnExactUndoesProgramRow : OpenClaim := { program := "ythmikeldlbjblaagreatdoor", sum := "82d915b7813e9e9d879e70bd2ba4efc3e1693c0561e06964044f067372357e9f", func := "loop.example/productprograms/laws.FnExactUndoesProgram", spec := "fnExactUndoesProgram", inPlace := ["internal/abi.NoEscape", "internal/bytealg.MakeNoZero"], unfollowed := true, recurses := true, named := ["unicode.CaseRanges", "unicode/utf8.first", "unicode/utf8.acceptRanges"], plainKeys := false, apart := false, laid := [("unicode/utf8.acceptRanges", laid_unicode_utf8_acceptRanges), ("unicode.CaseRanges", laid_unicode_CaseRanges), ("unicode/utf8.first", laid_unicode_utf8_first)] }
def FnExactUndoesProgramSaid : Prop := fnExactUndoesProgramRow.holds Tryz.pinned (OpenSpec.ofChange fnExactUndoesProgramSpec)

/-- ITS FALSE NEIGHBOUR: 'it returns false'. Refute it at one input. -/
def fnExactUndoesProgramWrong : ChangeSpec := { name := "fnExactUndoesProgram", fn := fun _ => fun
  | [d1, d2] => { results := [.lit (.bool false)], args := [d1, d2] }
  | _ => none }
def FnExactUndoesProgramWrongFalsely : Prop := fnExactUndoesProgramRow.holds Tryz.pinned (OpenSpec.ofChange fnExactUndoesProgramWrong)

/-- 'laws.FnExactRunsFrom': WHATEVER THE INPUT: true; the input reads as it did. -/
def fnExactRunsFromSpec : ChangeSpec := { name := "fnExactRunsFrom", fn := fun _ => fun
  | [d1, d2] => { results := [.lit (.bool true)], args := [d1, d2] }
  | _ => none }
def fnExactRunsFromRow : OpenClaim := { program := "ythmikeldlbjblaagreatdoor", sum := "82d915b7813e9e9d879e70bd2ba4efc3e1693c0561e06964044f067372357e9f", func := "loop.example/productprograms/laws.FnExactRunsFrom", spec := "fnExactRunsFrom", inPlace := ["internal/abi.NoEscape", "internal/bytealg.MakeNoZero"], unfollowed := true, recurses := true, named := ["unicode.CaseRanges", "unicode/utf8.first", "unicode/utf8.acceptRanges"], plainKeys := false, apart := false, laid := [("unicode/utf8.acceptRanges", laid_unicode_utf8_acceptRanges), ("unicode.CaseRanges", laid_unicode_CaseRanges), ("unicode/utf8.first", laid_unicode_utf8_first)] }
def FnExactRunsFromSaid : Prop := fnExactRunsFromRow.holds Tryz.pinned (OpenSpec.ofChange fnExactRunsFromSpec)

/-- ITS FALSE NEIGHBOUR: 'it returns false'. Refute it at one input. -/
def fnExactRunsFromWrong : ChangeSpec := { name := "fnExactRunsFrom", fn := fun _ => fun
  | [d1, d2] => { results := [.lit (.bool false)], args := [d1, d2] }
  | _ => none }
def FnExactRunsFromWrongFalsely : Prop := fnExactRunsFromRow.holds Tryz.pinned (OpenSpec.ofChange fnExactRunsFromWrong)

/-- 'laws.FnExactEndTogether': WHATEVER THE INPUT: true; the input reads as it did. -/
def fnExactEndTogetherSpec : ChangeSpec := { name := "fnExactEndTogether", fn := fun _ => fun
  | [d1, d2, d3] => { results := [.lit (.bool true)], args := [d1, d2, d3] }
  | _ => none }
def fnExactEndTogetherRow : OpenClaim := { program := "ythmikeldlbjblaagreatdoor", sum := "82d915b7813e9e9d879e70bd2ba4efc3e1693c0561e06964044f067372357e9f", func := "loop.example/productprograms/laws.FnExactEndTogether", spec := "fnExactEndTogether", inPlace := ["internal/abi.NoEscape", "internal/bytealg.MakeNoZero"], unfollowed := true, recurses := true, named := ["unicode.CaseRanges", "unicode/utf8.first", "unicode/utf8.acceptRanges"], plainKeys := false, apart := false, laid := [("unicode/utf8.acceptRanges", laid_unicode_utf8_acceptRanges), ("unicode.CaseRanges", laid_unicode_CaseRanges), ("unicode/utf8.first", laid_unicode_utf8_first)] }
def FnExactEndTogetherSaid : Prop := fnExactEndTogetherRow.holds Tryz.pinned (OpenSpec.ofChange fnExactEndTogetherSpec)

/-- ITS FALSE NEIGHBOUR: 'it returns false'. Refute it at one input. -/
def fnExactEndTogetherWrong : ChangeSpec := { name := "fnExactEndTogether", fn := fun _ => fun
  | [d1, d2, d3] => { results := [.lit (.bool false)], args := [d1, d2, d3] }
  | _ => none }
def FnExactEndTogetherWrongFalsely : Prop := fnExactEndTogetherRow.holds Tryz.pinned (OpenSpec.ofChange fnExactEndTogetherWrong)

/-- 'laws.FnExactRelOfProgram': WHATEVER THE INPUT: true; the input reads as it did. -/
def fnExactRelOfProgramSpec : ChangeSpec := { name := "fnExactRelOfProgram", fn := fun _ => fun
  | [d] => { results := [.lit (.bool true)], args := [d] }
  | _ => none }
def fnExactRelOfProgramRow : OpenClaim := { program := "ythmikeldlbjblaagreatdoor", sum := "82d915b7813e9e9d879e70bd2ba4efc3e1693c0561e06964044f067372357e9f", func := "loop.example/productprograms/laws.FnExactRelOfProgram", spec := "fnExactRelOfProgram", inPlace := ["internal/abi.NoEscape", "internal/bytealg.MakeNoZero"], unfollowed := true, recurses := true, named := ["unicode.CaseRanges", "unicode/utf8.first", "unicode/utf8.acceptRanges"], plainKeys := false, apart := false, laid := [("unicode/utf8.acceptRanges", laid_unicode_utf8_acceptRanges), ("unicode.CaseRanges", laid_unicode_CaseRanges), ("unicode/utf8.first", laid_unicode_utf8_first)] }
def FnExactRelOfProgramSaid : Prop := fnExactRelOfProgramRow.holds Tryz.pinned (OpenSpec.ofChange fnExactRelOfProgramSpec)

/-- ITS FALSE NEIGHBOUR: 'it returns false'. Refute it at one input. -/
def fnExactRelOfProgramWrong : ChangeSpec := { name := "fnExactRelOfProgram", fn := fun _ => fun
  | [d] => { results := [.lit (.bool false)], args := [d] }
  | _ => none }
def FnExactRelOfProgramWrongFalsely : Prop := fnExactRelOfProgramRow.holds Tryz.pinned (OpenSpec.ofChange fnExactRelOfProgramWrong)

/-- 'laws.FnExactLineValid': WHATEVER THE INPUT: true; the input reads as it did. -/
def fnExactLineValidSpec : ChangeSpec := { name := "fnExactLineValid", fn := fun _ => fun
  | [d] => { results := [.lit (.bool true)], args := [d] }
  | _ => none }
def fnExactLineValidRow : OpenClaim := { program := "ythmikeldlbjblaagreatdoor", sum := "82d915b7813e9e9d879e70bd2ba4efc3e1693c0561e06964044f067372357e9f", func := "loop.example/productprograms/laws.FnExactLineValid", spec := "fnExactLineValid", inPlace := ["internal/abi.NoEscape", "internal/bytealg.MakeNoZero"], unfollowed := true, recurses := true, named := ["unicode.CaseRanges", "unicode/utf8.first", "unicode/utf8.acceptRanges"], plainKeys := false, apart := false, laid := [("unicode/utf8.acceptRanges", laid_unicode_utf8_acceptRanges), ("unicode.CaseRanges", laid_unicode_CaseRanges), ("unicode/utf8.first", laid_unicode_utf8_first)] }
def FnExactLineValidSaid : Prop := fnExactLineValidRow.holds Tryz.pinned (OpenSpec.ofChange fnExactLineValidSpec)

/-- ITS FALSE NEIGHBOUR: 'it returns false'. Refute it at one input. -/
def fnExactLineValidWrong : ChangeSpec := { name := "fnExactLineValid", fn := fun _ => fun
  | [d] => { results := [.lit (.bool false)], args := [d] }
  | _ => none }
def FnExactLineValidWrongFalsely : Prop := fnExactLineValidRow.holds Tryz.pinned (OpenSpec.ofChange fnExactLineValidWrong)

/- THE SECOND FORM. 'bulk': how many values and letters a reading holds, each counted each time it is reached (what is shared counts as often as it is met; a slice's spare places count too). A statement '..UptoSaid' is the law's where the arguments, and the package variables that the reading takes, are together of bulk at most 1048576: NARROWER than '..Said'. Prove '..Said' where nothing that the law and all that it calls make is longer than what came in: it says more and counts as full. Else prove '..UptoSaid'. A law counts once. -/
mutual
def uptoBulk {H : Type} : DataW H → Nat
  | .lit (.string bytes) => bytes.length + 1
  | .lit _ => 1
  | .nil => 1
  | .ptr d => uptoBulk d + 1
  | .slice elems spare => uptoBulkAll elems + uptoBulkAll spare + 1
  | .agg parts => uptoBulkAll parts + 1
  | .iface _ d => uptoBulk d + 1
  | .map entries => uptoBulkEntries entries + 1
  | .held _ => 1
def uptoBulkAll {H : Type} : List (DataW H) → Nat
  | [] => 0
  | d :: r => uptoBulk d + uptoBulkAll r
def uptoBulkEntries {H : Type} : List (Lit × DataW H) → Nat
  | [] => 0
  | x :: r => uptoBulkEntry x + uptoBulkEntries r
def uptoBulkEntry {H : Type} : Lit × DataW H → Nat
  | (.string bytes, d) => bytes.length + uptoBulk d + 1
  | (_, d) => uptoBulk d + 1
 end
def uptoSmall : (H : Type) → List (DataW H) → Bool := fun _ ds => decide (uptoBulkAll ds ≤ 1048576)
def OpenSpec.upto (s : _root_.Go.ChangeSpec) : _root_.Go.OpenSpec := { _root_.Go.OpenSpec.ofChange s with cond := some uptoSmall }

/-- 'laws.FnExactSamePrograms', WHERE WHAT IT READS IS OF BULK AT MOST 1048576: true; the input reads as it did. -/
def fnExactSameProgramsUptoRow : OpenClaim := { program := "ythmikeldlbjblaagreatdoor", sum := "82d915b7813e9e9d879e70bd2ba4efc3e1693c0561e06964044f067372357e9f", func := "loop.example/productprograms/laws.FnExactSamePrograms", spec := "fnExactSamePrograms", inPlace := ["internal/abi.NoEscape", "internal/bytealg.MakeNoZero"], unfollowed := true, recurses := true, named := ["unicode.CaseRanges", "unicode/utf8.first", "unicode/utf8.acceptRanges"], plainKeys := false, apart := false, laid := [("unicode/utf8.acceptRanges", laid_unicode_utf8_acceptRanges), ("unicode.CaseRanges", laid_unicode_CaseRanges), ("unicode/utf8.first", laid_unicode_utf8_first)], narrowed := true }
def FnExactSameProgramsUptoSaid : Prop := fnExactSameProgramsUptoRow.holds Tryz.pinned (OpenSpec.upto fnExactSameProgramsSpec)

/-- 'laws.FnExactRefinesProgram', WHERE WHAT IT READS IS OF BULK AT MOST 1048576: true; the input reads as it did. -/
def fnExactRefinesProgramUptoRow : OpenClaim := { program := "ythmikeldlbjblaagreatdoor", sum := "82d915b7813e9e9d879e70bd2ba4efc3e1693c0561e06964044f067372357e9f", func := "loop.example/productprograms/laws.FnExactRefinesProgram", spec := "fnExactRefinesProgram", inPlace := ["internal/abi.NoEscape", "internal/bytealg.MakeNoZero"], unfollowed := true, recurses := true, named := ["unicode.CaseRanges", "unicode/utf8.first", "unicode/utf8.acceptRanges"], plainKeys := false, apart := false, laid := [("unicode/utf8.acceptRanges", laid_unicode_utf8_acceptRanges), ("unicode.CaseRanges", laid_unicode_CaseRanges), ("unicode/utf8.first", laid_unicode_utf8_first)], narrowed := true }
def FnExactRefinesProgramUptoSaid : Prop := fnExactRefinesProgramUptoRow.holds Tryz.pinned (OpenSpec.upto fnExactRefinesProgramSpec)

/-- 'laws.FnExactFirstDifference', WHERE WHAT IT READS IS OF BULK AT MOST 1048576: true; the input reads as it did. -/
def fnExactFirstDifferenceUptoRow : OpenClaim := { program := "ythmikeldlbjblaagreatdoor", sum := "82d915b7813e9e9d879e70bd2ba4efc3e1693c0561e06964044f067372357e9f", func := "loop.example/productprograms/laws.FnExactFirstDifference", spec := "fnExactFirstDifference", inPlace := ["internal/abi.NoEscape", "internal/bytealg.MakeNoZero"], unfollowed := true, recurses := true, named := ["unicode.CaseRanges", "unicode/utf8.first", "unicode/utf8.acceptRanges"], plainKeys := false, apart := false, laid := [("unicode/utf8.acceptRanges", laid_unicode_utf8_acceptRanges), ("unicode.CaseRanges", laid_unicode_CaseRanges), ("unicode/utf8.first", laid_unicode_utf8_first)], narrowed := true }
def FnExactFirstDifferenceUptoSaid : Prop := fnExactFirstDifferenceUptoRow.holds Tryz.pinned (OpenSpec.upto fnExactFirstDifferenceSpec)

/-- 'laws.FnExactCommutePrograms', WHERE WHAT IT READS IS OF BULK AT MOST 1048576: true; the input reads as it did. -/
def fnExactCommuteProgramsUptoRow : OpenClaim := { program := "ythmikeldlbjblaagreatdoor", sum := "82d915b7813e9e9d879e70bd2ba4efc3e1693c0561e06964044f067372357e9f", func := "loop.example/productprograms/laws.FnExactCommutePrograms", spec := "fnExactCommutePrograms", inPlace := ["internal/abi.NoEscape", "internal/bytealg.MakeNoZero"], unfollowed := true, recurses := true, named := ["unicode.CaseRanges", "unicode/utf8.first", "unicode/utf8.acceptRanges"], plainKeys := false, apart := false, laid := [("unicode/utf8.acceptRanges", laid_unicode_utf8_acceptRanges), ("unicode.CaseRanges", laid_unicode_CaseRanges), ("unicode/utf8.first", laid_unicode_utf8_first)], narrowed := true }
def FnExactCommuteProgramsUptoSaid : Prop := fnExactCommuteProgramsUptoRow.holds Tryz.pinned (OpenSpec.upto fnExactCommuteProgramsSpec)

/-- 'laws.FnExactIdempotentProgram', WHERE WHAT IT READS IS OF BULK AT MOST 1048576: true; the input reads as it did. -/
def fnExactIdempotentProgramUptoRow : OpenClaim := { program := "ythmikeldlbjblaagreatdoor", sum := "82d915b7813e9e9d879e70bd2ba4efc3e1693c0561e06964044f067372357e9f", func := "loop.example/productprograms/laws.FnExactIdempotentProgram", spec := "fnExactIdempotentProgram", inPlace := ["internal/abi.NoEscape", "internal/bytealg.MakeNoZero"], unfollowed := true, recurses := true, named := ["unicode.CaseRanges", "unicode/utf8.first", "unicode/utf8.acceptRanges"], plainKeys := false, apart := false, laid := [("unicode/utf8.acceptRanges", laid_unicode_utf8_acceptRanges), ("unicode.CaseRanges", laid_unicode_CaseRanges), ("unicode/utf8.first", laid_unicode_utf8_first)], narrowed := true }
def FnExactIdempotentProgramUptoSaid : Prop := fnExactIdempotentProgramUptoRow.holds Tryz.pinned (OpenSpec.upto fnExactIdempotentProgramSpec)

/-- 'laws.FnExactUndoesProgram', WHERE WHAT IT READS IS OF BULK AT MOST 1048576: true; the input reads as it did. -/
def fnExactUndoesProgramUptoRow : OpenClaim := { program := "ythmikeldlbjblaagreatdoor", sum := "82d915b7813e9e9d879e70bd2ba4efc3e1693c0561e06964044f067372357e9f", func := "loop.example/productprograms/laws.FnExactUndoesProgram", spec := "fnExactUndoesProgram", inPlace := ["internal/abi.NoEscape", "internal/bytealg.MakeNoZero"], unfollowed := true, recurses := true, named := ["unicode.CaseRanges", "unicode/utf8.first", "unicode/utf8.acceptRanges"], plainKeys := false, apart := false, laid := [("unicode/utf8.acceptRanges", laid_unicode_utf8_acceptRanges), ("unicode.CaseRanges", laid_unicode_CaseRanges), ("unicode/utf8.first", laid_unicode_utf8_first)], narrowed := true }
def FnExactUndoesProgramUptoSaid : Prop := fnExactUndoesProgramUptoRow.holds Tryz.pinned (OpenSpec.upto fnExactUndoesProgramSpec)

/-- 'laws.FnExactRunsFrom', WHERE WHAT IT READS IS OF BULK AT MOST 1048576: true; the input reads as it did. -/
def fnExactRunsFromUptoRow : OpenClaim := { program := "ythmikeldlbjblaagreatdoor", sum := "82d915b7813e9e9d879e70bd2ba4efc3e1693c0561e06964044f067372357e9f", func := "loop.example/productprograms/laws.FnExactRunsFrom", spec := "fnExactRunsFrom", inPlace := ["internal/abi.NoEscape", "internal/bytealg.MakeNoZero"], unfollowed := true, recurses := true, named := ["unicode.CaseRanges", "unicode/utf8.first", "unicode/utf8.acceptRanges"], plainKeys := false, apart := false, laid := [("unicode/utf8.acceptRanges", laid_unicode_utf8_acceptRanges), ("unicode.CaseRanges", laid_unicode_CaseRanges), ("unicode/utf8.first", laid_unicode_utf8_first)], narrowed := true }
def FnExactRunsFromUptoSaid : Prop := fnExactRunsFromUptoRow.holds Tryz.pinned (OpenSpec.upto fnExactRunsFromSpec)

/-- 'laws.FnExactEndTogether', WHERE WHAT IT READS IS OF BULK AT MOST 1048576: true; the input reads as it did. -/
def fnExactEndTogetherUptoRow : OpenClaim := { program := "ythmikeldlbjblaagreatdoor", sum := "82d915b7813e9e9d879e70bd2ba4efc3e1693c0561e06964044f067372357e9f", func := "loop.example/productprograms/laws.FnExactEndTogether", spec := "fnExactEndTogether", inPlace := ["internal/abi.NoEscape", "internal/bytealg.MakeNoZero"], unfollowed := true, recurses := true, named := ["unicode.CaseRanges", "unicode/utf8.first", "unicode/utf8.acceptRanges"], plainKeys := false, apart := false, laid := [("unicode/utf8.acceptRanges", laid_unicode_utf8_acceptRanges), ("unicode.CaseRanges", laid_unicode_CaseRanges), ("unicode/utf8.first", laid_unicode_utf8_first)], narrowed := true }
def FnExactEndTogetherUptoSaid : Prop := fnExactEndTogetherUptoRow.holds Tryz.pinned (OpenSpec.upto fnExactEndTogetherSpec)

/-- 'laws.FnExactRelOfProgram', WHERE WHAT IT READS IS OF BULK AT MOST 1048576: true; the input reads as it did. -/
def fnExactRelOfProgramUptoRow : OpenClaim := { program := "ythmikeldlbjblaagreatdoor", sum := "82d915b7813e9e9d879e70bd2ba4efc3e1693c0561e06964044f067372357e9f", func := "loop.example/productprograms/laws.FnExactRelOfProgram", spec := "fnExactRelOfProgram", inPlace := ["internal/abi.NoEscape", "internal/bytealg.MakeNoZero"], unfollowed := true, recurses := true, named := ["unicode.CaseRanges", "unicode/utf8.first", "unicode/utf8.acceptRanges"], plainKeys := false, apart := false, laid := [("unicode/utf8.acceptRanges", laid_unicode_utf8_acceptRanges), ("unicode.CaseRanges", laid_unicode_CaseRanges), ("unicode/utf8.first", laid_unicode_utf8_first)], narrowed := true }
def FnExactRelOfProgramUptoSaid : Prop := fnExactRelOfProgramUptoRow.holds Tryz.pinned (OpenSpec.upto fnExactRelOfProgramSpec)

/-- 'laws.FnExactLineValid', WHERE WHAT IT READS IS OF BULK AT MOST 1048576: true; the input reads as it did. -/
def fnExactLineValidUptoRow : OpenClaim := { program := "ythmikeldlbjblaagreatdoor", sum := "82d915b7813e9e9d879e70bd2ba4efc3e1693c0561e06964044f067372357e9f", func := "loop.example/productprograms/laws.FnExactLineValid", spec := "fnExactLineValid", inPlace := ["internal/abi.NoEscape", "internal/bytealg.MakeNoZero"], unfollowed := true, recurses := true, named := ["unicode.CaseRanges", "unicode/utf8.first", "unicode/utf8.acceptRanges"], plainKeys := false, apart := false, laid := [("unicode/utf8.acceptRanges", laid_unicode_utf8_acceptRanges), ("unicode.CaseRanges", laid_unicode_CaseRanges), ("unicode/utf8.first", laid_unicode_utf8_first)], narrowed := true }
def FnExactLineValidUptoSaid : Prop := fnExactLineValidUptoRow.holds Tryz.pinned (OpenSpec.upto fnExactLineValidSpec)

end Rows
end Go.Proofs.YthmikeldlbjblaaGreatDoor
