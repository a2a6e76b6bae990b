/-
  NARROWER THAN 'FOR EVERY INPUT', by the rows' own cells (each row's printed sentence says how): FnSameOn: laid · FnMatchCompose: laid · FnIdempotent: laid · FnSymmetric: laid · FnAffected: laid · FnFirstDifference: laid · FnUndoes: laid · FnCommute: laid · FnFormatDerivation: laid.
  DERIVED. THE GIVEN ROWS OF THIS SEAT. 9 by the template 'for every input the law returns true; each argument reads behind the call as it read before'; 0 by the template 'total and deterministic' (their statements: YtgkoljphndgoeaaGreatDoorTotals.lean).
  GIVEN WITH THE SEED: the statements are not yours to turn. If you find one false, say at which input.
  Laid BY PROGRAM, IN A SANDBOX (cutbox-rows.mjs): the forced cells as the released guide's own fill.sh prints them over the translation 3811b53f201467f7… (all of the seat's roots in one cut). By AI agents, Wed Nov 11 2026. No macro, syntax, notation, axiom, sorry.
-/
import Derived.Test.YtgkoljphndgoeaaGreatDoorChecked
import GoSem.PinnedTables
import GoSem.Claim
import GoSem.ClaimJoined
import GoSem.ClaimMapViews
import Derived.JoinedTies
import Derived.KernelRfl
namespace Go.Proofs.YtgkoljphndgoeaaGreatDoor
/- THE CELL 'sum', in the pinned program and in every row, IS THE sha256 OF THE DUMP (.gsa) THAT YtgkoljphndgoeaaGreatDoorProg.lean LOADS. Nothing in Lean hashes anything: it is a label: what it is worth is what the hold of that sum in a sandbox is worth. -/
noncomputable def Tryz.pinned : Pinned := { name := "ytgkoljphndgoeaagreatdoor", sum := "3811b53f201467f7eabafbaaea0c9ae03228ee0e322a0bee58ac572800c8cb72", checked := Tryz.checked }
namespace Rows
def none {H : Type} : Left H := { results := [], args := [] }

/- WHAT THE LISTED PACKAGE-LEVEL VARIABLES READ AS WHEN THE CALL BEGINS. Each datum BY PROGRAM (the guide's laid-datum.mjs) off the statement by which the dump's own 'gosem.cut.vars' lays the variable. In a bare row this is a premise. The card (YtgkoljphndgoeaaGreatDoorCards.lean) ties it to the program's text. -/
def laid_unicode_utf8_acceptRanges {H : Type} : DataW H := .agg [.agg [.lit (.int .u8 128), .lit (.int .u8 191)], .agg [.lit (.int .u8 160), .lit (.int .u8 191)], .agg [.lit (.int .u8 128), .lit (.int .u8 159)], .agg [.lit (.int .u8 144), .lit (.int .u8 191)], .agg [.lit (.int .u8 128), .lit (.int .u8 143)], .agg [.lit (.int .u8 0), .lit (.int .u8 0)], .agg [.lit (.int .u8 0), .lit (.int .u8 0)], .agg [.lit (.int .u8 0), .lit (.int .u8 0)], .agg [.lit (.int .u8 0), .lit (.int .u8 0)], .agg [.lit (.int .u8 0), .lit (.int .u8 0)], .agg [.lit (.int .u8 0), .lit (.int .u8 0)], .agg [.lit (.int .u8 0), .lit (.int .u8 0)], .agg [.lit (.int .u8 0), .lit (.int .u8 0)], .agg [.lit (.int .u8 0), .lit (.int .u8 0)], .agg [.lit (.int .u8 0), .lit (.int .u8 0)], .agg [.lit (.int .u8 0), .lit (.int .u8 0)]]
/-- One of Go's own tables, pinned by name: the form's constant. -/
def laid_unicode_CaseRanges : DataW Unit := Go.Pinned.caseRanges
/-- One of Go's own tables, pinned by name: the form's constant. -/
def laid_unicode_utf8_first : DataW Unit := Go.Pinned.utf8First
def laid_math_bits_deBruijn32tab {H : Type} : DataW H := .agg [.lit (.int .u8 0), .lit (.int .u8 1), .lit (.int .u8 28), .lit (.int .u8 2), .lit (.int .u8 29), .lit (.int .u8 14), .lit (.int .u8 24), .lit (.int .u8 3), .lit (.int .u8 30), .lit (.int .u8 22), .lit (.int .u8 20), .lit (.int .u8 15), .lit (.int .u8 25), .lit (.int .u8 17), .lit (.int .u8 4), .lit (.int .u8 8), .lit (.int .u8 31), .lit (.int .u8 27), .lit (.int .u8 13), .lit (.int .u8 23), .lit (.int .u8 21), .lit (.int .u8 19), .lit (.int .u8 16), .lit (.int .u8 7), .lit (.int .u8 26), .lit (.int .u8 12), .lit (.int .u8 18), .lit (.int .u8 6), .lit (.int .u8 11), .lit (.int .u8 5), .lit (.int .u8 10), .lit (.int .u8 9)]
def laid_math_bits_deBruijn64tab {H : Type} : DataW H := .agg [.lit (.int .u8 0), .lit (.int .u8 1), .lit (.int .u8 56), .lit (.int .u8 2), .lit (.int .u8 57), .lit (.int .u8 49), .lit (.int .u8 28), .lit (.int .u8 3), .lit (.int .u8 61), .lit (.int .u8 58), .lit (.int .u8 42), .lit (.int .u8 50), .lit (.int .u8 38), .lit (.int .u8 29), .lit (.int .u8 17), .lit (.int .u8 4), .lit (.int .u8 62), .lit (.int .u8 47), .lit (.int .u8 59), .lit (.int .u8 36), .lit (.int .u8 45), .lit (.int .u8 43), .lit (.int .u8 51), .lit (.int .u8 22), .lit (.int .u8 53), .lit (.int .u8 39), .lit (.int .u8 33), .lit (.int .u8 30), .lit (.int .u8 24), .lit (.int .u8 18), .lit (.int .u8 12), .lit (.int .u8 5), .lit (.int .u8 63), .lit (.int .u8 55), .lit (.int .u8 48), .lit (.int .u8 27), .lit (.int .u8 60), .lit (.int .u8 41), .lit (.int .u8 37), .lit (.int .u8 16), .lit (.int .u8 46), .lit (.int .u8 35), .lit (.int .u8 44), .lit (.int .u8 21), .lit (.int .u8 52), .lit (.int .u8 32), .lit (.int .u8 23), .lit (.int .u8 11), .lit (.int .u8 54), .lit (.int .u8 26), .lit (.int .u8 40), .lit (.int .u8 15), .lit (.int .u8 34), .lit (.int .u8 20), .lit (.int .u8 31), .lit (.int .u8 10), .lit (.int .u8 25), .lit (.int .u8 14), .lit (.int .u8 19), .lit (.int .u8 9), .lit (.int .u8 13), .lit (.int .u8 8), .lit (.int .u8 7), .lit (.int .u8 6)]
def laid_internal_strconv_uint64pow10 {H : Type} : DataW H := .agg [.lit (.int .u64 1), .lit (.int .u64 10), .lit (.int .u64 100), .lit (.int .u64 1000), .lit (.int .u64 10000), .lit (.int .u64 100000), .lit (.int .u64 1000000), .lit (.int .u64 10000000), .lit (.int .u64 100000000), .lit (.int .u64 1000000000), .lit (.int .u64 10000000000), .lit (.int .u64 100000000000), .lit (.int .u64 1000000000000), .lit (.int .u64 10000000000000), .lit (.int .u64 100000000000000), .lit (.int .u64 1000000000000000), .lit (.int .u64 10000000000000000), .lit (.int .u64 100000000000000000), .lit (.int .u64 1000000000000000000), .lit (.int .u64 10000000000000000000)]

/-- 'laws.FnSameOn': WHATEVER THE INPUT: true; the input reads as it did. -/
def fnSameOnSpec : ChangeSpec := { name := "fnSameOn", fn := fun _ => fun
  | [d] => { results := [.lit (.bool true)], args := [d] }
  | _ => none }
def fnSameOnRow : OpenClaim := { program := "ytgkoljphndgoeaagreatdoor", sum := "3811b53f201467f7eabafbaaea0c9ae03228ee0e322a0bee58ac572800c8cb72", func := "loop.example/productprograms/laws.FnSameOn", spec := "fnSameOn", inPlace := ["internal/bytealg.IndexByteString", "internal/bytealg.IndexString", "internal/abi.NoEscape", "internal/bytealg.MakeNoZero"], unfollowed := true, recurses := true, named := ["internal/bytealg.MaxLen", "unicode.CaseRanges", "unicode/utf8.first", "unicode/utf8.acceptRanges"], plainKeys := false, apart := false, laid := [("unicode/utf8.acceptRanges", laid_unicode_utf8_acceptRanges), ("unicode.CaseRanges", laid_unicode_CaseRanges), ("unicode/utf8.first", laid_unicode_utf8_first)] }
def FnSameOnSaid : Prop := fnSameOnRow.holds Tryz.pinned (OpenSpec.ofChange fnSameOnSpec)

/-- ITS FALSE NEIGHBOUR: 'it returns false'. Refute it at one input. -/
def fnSameOnWrong : ChangeSpec := { name := "fnSameOn", fn := fun _ => fun
  | [d] => { results := [.lit (.bool false)], args := [d] }
  | _ => none }
def FnSameOnWrongFalsely : Prop := fnSameOnRow.holds Tryz.pinned (OpenSpec.ofChange fnSameOnWrong)

/-- 'laws.FnMatchCompose': WHATEVER THE INPUT: true; the input reads as it did. -/
def fnMatchComposeSpec : ChangeSpec := { name := "fnMatchCompose", fn := fun _ => fun
  | [d1, d2] => { results := [.lit (.bool true)], args := [d1, d2] }
  | _ => none }
def fnMatchComposeRow : OpenClaim := { program := "ytgkoljphndgoeaagreatdoor", sum := "3811b53f201467f7eabafbaaea0c9ae03228ee0e322a0bee58ac572800c8cb72", func := "loop.example/productprograms/laws.FnMatchCompose", spec := "fnMatchCompose", inPlace := ["internal/abi.NoEscape", "internal/bytealg.MakeNoZero"], unfollowed := true, recurses := true, named := ["unicode.CaseRanges", "unicode/utf8.first", "unicode/utf8.acceptRanges"], plainKeys := false, apart := false, laid := [("unicode/utf8.acceptRanges", laid_unicode_utf8_acceptRanges), ("unicode.CaseRanges", laid_unicode_CaseRanges), ("unicode/utf8.first", laid_unicode_utf8_first)] }
def FnMatchComposeSaid : Prop := fnMatchComposeRow.holds Tryz.pinned (OpenSpec.ofChange fnMatchComposeSpec)

/-- ITS FALSE NEIGHBOUR: 'it returns false'. Refute it at one input. -/
def fnMatchComposeWrong : ChangeSpec := { name := "fnMatchCompose", fn := fun _ => fun
  | [d1, d2] => { results := [.lit (.bool false)], args := [d1, d2] }
  | _ => none }
def FnMatchComposeWrongFalsely : Prop := fnMatchComposeRow.holds Tryz.pinned (OpenSpec.ofChange fnMatchComposeWrong)

/-- 'laws.FnIdempotent': WHATEVER THE INPUT: true; the input reads as it did. -/
def fnIdempotentSpec : ChangeSpec := { name := "fnIdempotent", fn := fun _ => fun
  | [d] => { results := [.lit (.bool true)], args := [d] }
  | _ => none }
def fnIdempotentRow : OpenClaim := { program := "ytgkoljphndgoeaagreatdoor", sum := "3811b53f201467f7eabafbaaea0c9ae03228ee0e322a0bee58ac572800c8cb72", func := "loop.example/productprograms/laws.FnIdempotent", spec := "fnIdempotent", inPlace := ["internal/abi.NoEscape", "internal/bytealg.MakeNoZero"], unfollowed := true, recurses := true, named := ["unicode.CaseRanges", "unicode/utf8.first", "unicode/utf8.acceptRanges"], plainKeys := false, apart := false, laid := [("unicode/utf8.acceptRanges", laid_unicode_utf8_acceptRanges), ("unicode.CaseRanges", laid_unicode_CaseRanges), ("unicode/utf8.first", laid_unicode_utf8_first)] }
def FnIdempotentSaid : Prop := fnIdempotentRow.holds Tryz.pinned (OpenSpec.ofChange fnIdempotentSpec)

/-- ITS FALSE NEIGHBOUR: 'it returns false'. Refute it at one input. -/
def fnIdempotentWrong : ChangeSpec := { name := "fnIdempotent", fn := fun _ => fun
  | [d] => { results := [.lit (.bool false)], args := [d] }
  | _ => none }
def FnIdempotentWrongFalsely : Prop := fnIdempotentRow.holds Tryz.pinned (OpenSpec.ofChange fnIdempotentWrong)

/-- 'laws.FnSymmetric': WHATEVER THE INPUT: true; the input reads as it did. -/
def fnSymmetricSpec : ChangeSpec := { name := "fnSymmetric", fn := fun _ => fun
  | [d] => { results := [.lit (.bool true)], args := [d] }
  | _ => none }
def fnSymmetricRow : OpenClaim := { program := "ytgkoljphndgoeaagreatdoor", sum := "3811b53f201467f7eabafbaaea0c9ae03228ee0e322a0bee58ac572800c8cb72", func := "loop.example/productprograms/laws.FnSymmetric", spec := "fnSymmetric", inPlace := ["internal/abi.NoEscape", "internal/bytealg.MakeNoZero", "internal/bytealg.IndexByteString", "internal/bytealg.IndexString"], unfollowed := true, recurses := true, named := ["unicode.CaseRanges", "unicode/utf8.first", "unicode/utf8.acceptRanges", "internal/bytealg.MaxLen"], plainKeys := false, apart := false, laid := [("unicode/utf8.acceptRanges", laid_unicode_utf8_acceptRanges), ("unicode.CaseRanges", laid_unicode_CaseRanges), ("unicode/utf8.first", laid_unicode_utf8_first)] }
def FnSymmetricSaid : Prop := fnSymmetricRow.holds Tryz.pinned (OpenSpec.ofChange fnSymmetricSpec)

/-- ITS FALSE NEIGHBOUR: 'it returns false'. Refute it at one input. -/
def fnSymmetricWrong : ChangeSpec := { name := "fnSymmetric", fn := fun _ => fun
  | [d] => { results := [.lit (.bool false)], args := [d] }
  | _ => none }
def FnSymmetricWrongFalsely : Prop := fnSymmetricRow.holds Tryz.pinned (OpenSpec.ofChange fnSymmetricWrong)

/-- 'laws.FnAffected': WHATEVER THE INPUT: true; the input reads as it did. -/
def fnAffectedSpec : ChangeSpec := { name := "fnAffected", fn := fun _ => fun
  | [d] => { results := [.lit (.bool true)], args := [d] }
  | _ => none }
def fnAffectedRow : OpenClaim := { program := "ytgkoljphndgoeaagreatdoor", sum := "3811b53f201467f7eabafbaaea0c9ae03228ee0e322a0bee58ac572800c8cb72", func := "loop.example/productprograms/laws.FnAffected", spec := "fnAffected", inPlace := ["internal/abi.NoEscape", "internal/bytealg.MakeNoZero", "internal/bytealg.IndexByteString", "internal/bytealg.IndexString"], unfollowed := true, recurses := true, named := ["unicode.CaseRanges", "unicode/utf8.first", "unicode/utf8.acceptRanges", "internal/bytealg.MaxLen"], plainKeys := false, apart := false, laid := [("unicode/utf8.acceptRanges", laid_unicode_utf8_acceptRanges), ("unicode.CaseRanges", laid_unicode_CaseRanges), ("unicode/utf8.first", laid_unicode_utf8_first)] }
def FnAffectedSaid : Prop := fnAffectedRow.holds Tryz.pinned (OpenSpec.ofChange fnAffectedSpec)

/-- ITS FALSE NEIGHBOUR: 'it returns false'. Refute it at one input. -/
def fnAffectedWrong : ChangeSpec := { name := "fnAffected", fn := fun _ => fun
  | [d] => { results := [.lit (.bool false)], args := [d] }
  | _ => none }
def FnAffectedWrongFalsely : Prop := fnAffectedRow.holds Tryz.pinned (OpenSpec.ofChange fnAffectedWrong)

/-- 'laws.FnFirstDifference': WHATEVER THE INPUT: true; the input reads as it did. -/
def fnFirstDifferenceSpec : ChangeSpec := { name := "fnFirstDifference", fn := fun _ => fun
  | [d] => { results := [.lit (.bool true)], args := [d] }
  | _ => none }
def fnFirstDifferenceRow : OpenClaim := { program := "ytgkoljphndgoeaagreatdoor", sum := "3811b53f201467f7eabafbaaea0c9ae03228ee0e322a0bee58ac572800c8cb72", func := "loop.example/productprograms/laws.FnFirstDifference", spec := "fnFirstDifference", inPlace := ["internal/abi.NoEscape", "internal/bytealg.MakeNoZero"], unfollowed := true, recurses := true, named := ["unicode.CaseRanges", "unicode/utf8.first", "unicode/utf8.acceptRanges"], plainKeys := false, apart := false, laid := [("unicode/utf8.acceptRanges", laid_unicode_utf8_acceptRanges), ("unicode.CaseRanges", laid_unicode_CaseRanges), ("unicode/utf8.first", laid_unicode_utf8_first)] }
def FnFirstDifferenceSaid : Prop := fnFirstDifferenceRow.holds Tryz.pinned (OpenSpec.ofChange fnFirstDifferenceSpec)

/-- ITS FALSE NEIGHBOUR: 'it returns false'. Refute it at one input. -/
def fnFirstDifferenceWrong : ChangeSpec := { name := "fnFirstDifference", fn := fun _ => fun
  | [d] => { results := [.lit (.bool false)], args := [d] }
  | _ => none }
def FnFirstDifferenceWrongFalsely : Prop := fnFirstDifferenceRow.holds Tryz.pinned (OpenSpec.ofChange fnFirstDifferenceWrong)

/-- 'laws.FnUndoes': WHATEVER THE INPUT: true; the input reads as it did. -/
def fnUndoesSpec : ChangeSpec := { name := "fnUndoes", fn := fun _ => fun
  | [d] => { results := [.lit (.bool true)], args := [d] }
  | _ => none }
def fnUndoesRow : OpenClaim := { program := "ytgkoljphndgoeaagreatdoor", sum := "3811b53f201467f7eabafbaaea0c9ae03228ee0e322a0bee58ac572800c8cb72", func := "loop.example/productprograms/laws.FnUndoes", spec := "fnUndoes", inPlace := ["internal/abi.NoEscape", "internal/bytealg.MakeNoZero"], unfollowed := true, recurses := true, named := ["unicode.CaseRanges", "unicode/utf8.first", "unicode/utf8.acceptRanges"], plainKeys := false, apart := false, laid := [("unicode/utf8.acceptRanges", laid_unicode_utf8_acceptRanges), ("unicode.CaseRanges", laid_unicode_CaseRanges), ("unicode/utf8.first", laid_unicode_utf8_first)] }
def FnUndoesSaid : Prop := fnUndoesRow.holds Tryz.pinned (OpenSpec.ofChange fnUndoesSpec)

/-- ITS FALSE NEIGHBOUR: 'it returns false'. Refute it at one input. -/
def fnUndoesWrong : ChangeSpec := { name := "fnUndoes", fn := fun _ => fun
  | [d] => { results := [.lit (.bool false)], args := [d] }
  | _ => none }
def FnUndoesWrongFalsely : Prop := fnUndoesRow.holds Tryz.pinned (OpenSpec.ofChange fnUndoesWrong)

/-- 'laws.FnCommute': WHATEVER THE INPUT: true; the input reads as it did. -/
def fnCommuteSpec : ChangeSpec := { name := "fnCommute", fn := fun _ => fun
  | [d] => { results := [.lit (.bool true)], args := [d] }
  | _ => none }
def fnCommuteRow : OpenClaim := { program := "ytgkoljphndgoeaagreatdoor", sum := "3811b53f201467f7eabafbaaea0c9ae03228ee0e322a0bee58ac572800c8cb72", func := "loop.example/productprograms/laws.FnCommute", spec := "fnCommute", inPlace := ["internal/abi.NoEscape", "internal/bytealg.MakeNoZero", "internal/bytealg.IndexByteString", "internal/bytealg.IndexString"], unfollowed := true, recurses := true, named := ["unicode.CaseRanges", "unicode/utf8.first", "unicode/utf8.acceptRanges", "internal/bytealg.MaxLen"], plainKeys := false, apart := false, laid := [("unicode/utf8.acceptRanges", laid_unicode_utf8_acceptRanges), ("unicode.CaseRanges", laid_unicode_CaseRanges), ("unicode/utf8.first", laid_unicode_utf8_first)] }
def FnCommuteSaid : Prop := fnCommuteRow.holds Tryz.pinned (OpenSpec.ofChange fnCommuteSpec)

/-- ITS FALSE NEIGHBOUR: 'it returns false'. Refute it at one input. -/
def fnCommuteWrong : ChangeSpec := { name := "fnCommute", fn := fun _ => fun
  | [d] => { results := [.lit (.bool false)], args := [d] }
  | _ => none }
def FnCommuteWrongFalsely : Prop := fnCommuteRow.holds Tryz.pinned (OpenSpec.ofChange fnCommuteWrong)

/-- 'laws.FnFormatDerivation': WHATEVER THE INPUT: true; the input reads as it did. -/
def fnFormatDerivationSpec : ChangeSpec := { name := "fnFormatDerivation", fn := fun _ => fun
  | [d] => { results := [.lit (.bool true)], args := [d] }
  | _ => none }
def fnFormatDerivationRow : OpenClaim := { program := "ytgkoljphndgoeaagreatdoor", sum := "3811b53f201467f7eabafbaaea0c9ae03228ee0e322a0bee58ac572800c8cb72", func := "loop.example/productprograms/laws.FnFormatDerivation", spec := "fnFormatDerivation", inPlace := ["internal/abi.NoEscape", "internal/bytealg.MakeNoZero"], recurses := true, named := ["internal/strconv.uint64pow10", "math/bits.deBruijn32tab", "math/bits.deBruijn64tab"], plainKeys := false, apart := false, laid := [("math/bits.deBruijn32tab", laid_math_bits_deBruijn32tab), ("math/bits.deBruijn64tab", laid_math_bits_deBruijn64tab), ("internal/strconv.uint64pow10", laid_internal_strconv_uint64pow10)] }
def FnFormatDerivationSaid : Prop := fnFormatDerivationRow.holds Tryz.pinned (OpenSpec.ofChange fnFormatDerivationSpec)

/-- ITS FALSE NEIGHBOUR: 'it returns false'. Refute it at one input. -/
def fnFormatDerivationWrong : ChangeSpec := { name := "fnFormatDerivation", fn := fun _ => fun
  | [d] => { results := [.lit (.bool false)], args := [d] }
  | _ => none }
def FnFormatDerivationWrongFalsely : Prop := fnFormatDerivationRow.holds Tryz.pinned (OpenSpec.ofChange fnFormatDerivationWrong)

/- THE SECOND FORM. 'bulk': how many values and letters a reading holds, each counted each time it is reached (what is shared counts as often as it is met; a slice's spare places count too). A statement '..UptoSaid' is the law's where the arguments, and the package variables that the reading takes, are together of bulk at most 1048576: NARROWER than '..Said'. Prove '..Said' where nothing that the law and all that it calls make is longer than what came in: it says more and counts as full. Else prove '..UptoSaid'. A law counts once. -/
mutual
def uptoBulk {H : Type} : DataW H → Nat
  | .lit (.string bytes) => bytes.length + 1
  | .lit _ => 1
  | .nil => 1
  | .ptr d => uptoBulk d + 1
  | .slice elems spare => uptoBulkAll elems + uptoBulkAll spare + 1
  | .agg parts => uptoBulkAll parts + 1
  | .iface _ d => uptoBulk d + 1
  | .map entries => uptoBulkEntries entries + 1
  | .held _ => 1
def uptoBulkAll {H : Type} : List (DataW H) → Nat
  | [] => 0
  | d :: r => uptoBulk d + uptoBulkAll r
def uptoBulkEntries {H : Type} : List (Lit × DataW H) → Nat
  | [] => 0
  | x :: r => uptoBulkEntry x + uptoBulkEntries r
def uptoBulkEntry {H : Type} : Lit × DataW H → Nat
  | (.string bytes, d) => bytes.length + uptoBulk d + 1
  | (_, d) => uptoBulk d + 1
 end
def uptoSmall : (H : Type) → List (DataW H) → Bool := fun _ ds => decide (uptoBulkAll ds ≤ 1048576)
def OpenSpec.upto (s : _root_.Go.ChangeSpec) : _root_.Go.OpenSpec := { _root_.Go.OpenSpec.ofChange s with cond := some uptoSmall }

/-- 'laws.FnSameOn', WHERE WHAT IT READS IS OF BULK AT MOST 1048576: true; the input reads as it did. -/
def fnSameOnUptoRow : OpenClaim := { program := "ytgkoljphndgoeaagreatdoor", sum := "3811b53f201467f7eabafbaaea0c9ae03228ee0e322a0bee58ac572800c8cb72", func := "loop.example/productprograms/laws.FnSameOn", spec := "fnSameOn", inPlace := ["internal/bytealg.IndexByteString", "internal/bytealg.IndexString", "internal/abi.NoEscape", "internal/bytealg.MakeNoZero"], unfollowed := true, recurses := true, named := ["internal/bytealg.MaxLen", "unicode.CaseRanges", "unicode/utf8.first", "unicode/utf8.acceptRanges"], plainKeys := false, apart := false, laid := [("unicode/utf8.acceptRanges", laid_unicode_utf8_acceptRanges), ("unicode.CaseRanges", laid_unicode_CaseRanges), ("unicode/utf8.first", laid_unicode_utf8_first)], narrowed := true }
def FnSameOnUptoSaid : Prop := fnSameOnUptoRow.holds Tryz.pinned (OpenSpec.upto fnSameOnSpec)

/-- 'laws.FnMatchCompose', WHERE WHAT IT READS IS OF BULK AT MOST 1048576: true; the input reads as it did. -/
def fnMatchComposeUptoRow : OpenClaim := { program := "ytgkoljphndgoeaagreatdoor", sum := "3811b53f201467f7eabafbaaea0c9ae03228ee0e322a0bee58ac572800c8cb72", func := "loop.example/productprograms/laws.FnMatchCompose", spec := "fnMatchCompose", inPlace := ["internal/abi.NoEscape", "internal/bytealg.MakeNoZero"], unfollowed := true, recurses := true, named := ["unicode.CaseRanges", "unicode/utf8.first", "unicode/utf8.acceptRanges"], plainKeys := false, apart := false, laid := [("unicode/utf8.acceptRanges", laid_unicode_utf8_acceptRanges), ("unicode.CaseRanges", laid_unicode_CaseRanges), ("unicode/utf8.first", laid_unicode_utf8_first)], narrowed := true }
def FnMatchComposeUptoSaid : Prop := fnMatchComposeUptoRow.holds Tryz.pinned (OpenSpec.upto fnMatchComposeSpec)

/-- 'laws.FnIdempotent', WHERE WHAT IT READS IS OF BULK AT MOST 1048576: true; the input reads as it did. -/
def fnIdempotentUptoRow : OpenClaim := { program := "ytgkoljphndgoeaagreatdoor", sum := "3811b53f201467f7eabafbaaea0c9ae03228ee0e322a0bee58ac572800c8cb72", func := "loop.example/productprograms/laws.FnIdempotent", spec := "fnIdempotent", inPlace := ["internal/abi.NoEscape", "internal/bytealg.MakeNoZero"], unfollowed := true, recurses := true, named := ["unicode.CaseRanges", "unicode/utf8.first", "unicode/utf8.acceptRanges"], plainKeys := false, apart := false, laid := [("unicode/utf8.acceptRanges", laid_unicode_utf8_acceptRanges), ("unicode.CaseRanges", laid_unicode_CaseRanges), ("unicode/utf8.first", laid_unicode_utf8_first)], narrowed := true }
def FnIdempotentUptoSaid : Prop := fnIdempotentUptoRow.holds Tryz.pinned (OpenSpec.upto fnIdempotentSpec)

/-- 'laws.FnSymmetric', WHERE WHAT IT READS IS OF BULK AT MOST 1048576: true; the input reads as it did. -/
def fnSymmetricUptoRow : OpenClaim := { program := "ytgkoljphndgoeaagreatdoor", sum := "3811b53f201467f7eabafbaaea0c9ae03228ee0e322a0bee58ac572800c8cb72", func := "loop.example/productprograms/laws.FnSymmetric", spec := "fnSymmetric", inPlace := ["internal/abi.NoEscape", "internal/bytealg.MakeNoZero", "internal/bytealg.IndexByteString", "internal/bytealg.IndexString"], unfollowed := true, recurses := true, named := ["unicode.CaseRanges", "unicode/utf8.first", "unicode/utf8.acceptRanges", "internal/bytealg.MaxLen"], plainKeys := false, apart := false, laid := [("unicode/utf8.acceptRanges", laid_unicode_utf8_acceptRanges), ("unicode.CaseRanges", laid_unicode_CaseRanges), ("unicode/utf8.first", laid_unicode_utf8_first)], narrowed := true }
def FnSymmetricUptoSaid : Prop := fnSymmetricUptoRow.holds Tryz.pinned (OpenSpec.upto fnSymmetricSpec)

/-- 'laws.FnAffected', WHERE WHAT IT READS IS OF BULK AT MOST 1048576: true; the input reads as it did. -/
def fnAffectedUptoRow : OpenClaim := { program := "ytgkoljphndgoeaagreatdoor", sum := "3811b53f201467f7eabafbaaea0c9ae03228ee0e322a0bee58ac572800c8cb72", func := "loop.example/productprograms/laws.FnAffected", spec := "fnAffected", inPlace := ["internal/abi.NoEscape", "internal/bytealg.MakeNoZero", "internal/bytealg.IndexByteString", "internal/bytealg.IndexString"], unfollowed := true, recurses := true, named := ["unicode.CaseRanges", "unicode/utf8.first", "unicode/utf8.acceptRanges", "internal/bytealg.MaxLen"], plainKeys := false, apart := false, laid := [("unicode/utf8.acceptRanges", laid_unicode_utf8_acceptRanges), ("unicode.CaseRanges", laid_unicode_CaseRanges), ("unicode/utf8.first", laid_unicode_utf8_first)], narrowed := true }
def FnAffectedUptoSaid : Prop := fnAffectedUptoRow.holds Tryz.pinned (OpenSpec.upto fnAffectedSpec)

/-- 'laws.FnFirstDifference', WHERE WHAT IT READS IS OF BULK AT MOST 1048576: true; the input reads as it did. -/
def fnFirstDifferenceUptoRow : OpenClaim := { program := "ytgkoljphndgoeaagreatdoor", sum := "3811b53f201467f7eabafbaaea0c9ae03228ee0e322a0bee58ac572800c8cb72", func := "loop.example/productprograms/laws.FnFirstDifference", spec := "fnFirstDifference", inPlace := ["internal/abi.NoEscape", "internal/bytealg.MakeNoZero"], unfollowed := true, recurses := true, named := ["unicode.CaseRanges", "unicode/utf8.first", "unicode/utf8.acceptRanges"], plainKeys := false, apart := false, laid := [("unicode/utf8.acceptRanges", laid_unicode_utf8_acceptRanges), ("unicode.CaseRanges", laid_unicode_CaseRanges), ("unicode/utf8.first", laid_unicode_utf8_first)], narrowed := true }
def FnFirstDifferenceUptoSaid : Prop := fnFirstDifferenceUptoRow.holds Tryz.pinned (OpenSpec.upto fnFirstDifferenceSpec)

/-- 'laws.FnUndoes', WHERE WHAT IT READS IS OF BULK AT MOST 1048576: true; the input reads as it did. -/
def fnUndoesUptoRow : OpenClaim := { program := "ytgkoljphndgoeaagreatdoor", sum := "3811b53f201467f7eabafbaaea0c9ae03228ee0e322a0bee58ac572800c8cb72", func := "loop.example/productprograms/laws.FnUndoes", spec := "fnUndoes", inPlace := ["internal/abi.NoEscape", "internal/bytealg.MakeNoZero"], unfollowed := true, recurses := true, named := ["unicode.CaseRanges", "unicode/utf8.first", "unicode/utf8.acceptRanges"], plainKeys := false, apart := false, laid := [("unicode/utf8.acceptRanges", laid_unicode_utf8_acceptRanges), ("unicode.CaseRanges", laid_unicode_CaseRanges), ("unicode/utf8.first", laid_unicode_utf8_first)], narrowed := true }
def FnUndoesUptoSaid : Prop := fnUndoesUptoRow.holds Tryz.pinned (OpenSpec.upto fnUndoesSpec)

/-- 'laws.FnCommute', WHERE WHAT IT READS IS OF BULK AT MOST 1048576: true; the input reads as it did. -/
def fnCommuteUptoRow : OpenClaim := { program := "ytgkoljphndgoeaagreatdoor", sum := "3811b53f201467f7eabafbaaea0c9ae03228ee0e322a0bee58ac572800c8cb72", func := "loop.example/productprograms/laws.FnCommute", spec := "fnCommute", inPlace := ["internal/abi.NoEscape", "internal/bytealg.MakeNoZero", "internal/bytealg.IndexByteString", "internal/bytealg.IndexString"], unfollowed := true, recurses := true, named := ["unicode.CaseRanges", "unicode/utf8.first", "unicode/utf8.acceptRanges", "internal/bytealg.MaxLen"], plainKeys := false, apart := false, laid := [("unicode/utf8.acceptRanges", laid_unicode_utf8_acceptRanges), ("unicode.CaseRanges", laid_unicode_CaseRanges), ("unicode/utf8.first", laid_unicode_utf8_first)], narrowed := true }
def FnCommuteUptoSaid : Prop := fnCommuteUptoRow.holds Tryz.pinned (OpenSpec.upto fnCommuteSpec)

/-- 'laws.FnFormatDerivation', WHERE WHAT IT READS IS OF BULK AT MOST 1048576: true; the input reads as it did. -/
def fnFormatDerivationUptoRow : OpenClaim := { program := "ytgkoljphndgoeaagreatdoor", sum := "3811b53f201467f7eabafbaaea0c9ae03228ee0e322a0bee58ac572800c8cb72", func := "loop.example/productprograms/laws.FnFormatDerivation", spec := "fnFormatDerivation", inPlace := ["internal/abi.NoEscape", "internal/bytealg.MakeNoZero"], recurses := true, named := ["internal/strconv.uint64pow10", "math/bits.deBruijn32tab", "math/bits.deBruijn64tab"], plainKeys := false, apart := false, laid := [("math/bits.deBruijn32tab", laid_math_bits_deBruijn32tab), ("math/bits.deBruijn64tab", laid_math_bits_deBruijn64tab), ("internal/strconv.uint64pow10", laid_internal_strconv_uint64pow10)], narrowed := true }
def FnFormatDerivationUptoSaid : Prop := fnFormatDerivationUptoRow.holds Tryz.pinned (OpenSpec.upto fnFormatDerivationSpec)

end Rows
end Go.Proofs.YtgkoljphndgoeaaGreatDoor
