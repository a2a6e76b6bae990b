/-
  No cell of these rows narrows 'for every input' (looked for: loops, veiled, ifaces, maps, wideKeys, modest, calm, conditions, laid).
  DERIVED. THE GIVEN ROWS OF THIS SEAT. 5 by the template 'for every input the law returns true; each argument reads behind the call as it read before'; 0 by the template 'total and deterministic' (their statements: YtkgdhlpmlpbbkaaGreatTotals.lean).
  GIVEN WITH THE SEED: the statements are not yours to turn. If you find one false, say at which input.
  Laid BY PROGRAM, IN A SANDBOX (cutbox-rows.mjs): the forced cells as the released guide's own fill.sh prints them over the translation f5c356db88377f80… (all of the seat's roots in one cut). By AI agents, Wed Nov 11 2026. No macro, syntax, notation, axiom, sorry.
-/
import Derived.Test.YtkgdhlpmlpbbkaaGreatChecked
import GoSem.Claim
import GoSem.ClaimJoined
import GoSem.ClaimMapViews
import Derived.JoinedTies
import Derived.KernelRfl
namespace Go.Proofs.YtkgdhlpmlpbbkaaGreat
/- THE CELL 'sum', in the pinned program and in every row, IS THE sha256 OF THE DUMP (.gsa) THAT YtkgdhlpmlpbbkaaGreatProg.lean LOADS. Nothing in Lean hashes anything: it is a label: what it is worth is what the hold of that sum in a sandbox is worth. -/
noncomputable def Tryz.pinned : Pinned := { name := "ytkgdhlpmlpbbkaagreat", sum := "f5c356db88377f8046bf82e34a5847cccfe7b0e9e4c64a578da04a7b0b91c2a7", checked := Tryz.checked }
namespace Rows
def none {H : Type} : Left H := { results := [], args := [] }

/-- 'laws.FnMaySets': WHATEVER THE INPUT: true; the input reads as it did. -/
def fnMaySetsSpec : ChangeSpec := { name := "fnMaySets", fn := fun _ => fun
  | [d] => { results := [.lit (.bool true)], args := [d] }
  | _ => none }
def fnMaySetsRow : OpenClaim := { program := "ytkgdhlpmlpbbkaagreat", sum := "f5c356db88377f8046bf82e34a5847cccfe7b0e9e4c64a578da04a7b0b91c2a7", func := "loop.example/productprograms/laws.FnMaySets", spec := "fnMaySets", inPlace := ["internal/bytealg.IndexByteString", "internal/bytealg.IndexString"], unfollowed := true, recurses := true, named := ["internal/bytealg.MaxLen"], plainKeys := false, apart := false }
def FnMaySetsSaid : Prop := fnMaySetsRow.holds Tryz.pinned (OpenSpec.ofChange fnMaySetsSpec)

/-- ITS FALSE NEIGHBOUR: 'it returns false'. Refute it at one input. -/
def fnMaySetsWrong : ChangeSpec := { name := "fnMaySets", fn := fun _ => fun
  | [d] => { results := [.lit (.bool false)], args := [d] }
  | _ => none }
def FnMaySetsWrongFalsely : Prop := fnMaySetsRow.holds Tryz.pinned (OpenSpec.ofChange fnMaySetsWrong)

/-- 'laws.FnUnfold': WHATEVER THE INPUT: true; the input reads as it did. -/
def fnUnfoldSpec : ChangeSpec := { name := "fnUnfold", fn := fun _ => fun
  | [d] => { results := [.lit (.bool true)], args := [d] }
  | _ => none }
def fnUnfoldRow : OpenClaim := { program := "ytkgdhlpmlpbbkaagreat", sum := "f5c356db88377f8046bf82e34a5847cccfe7b0e9e4c64a578da04a7b0b91c2a7", func := "loop.example/productprograms/laws.FnUnfold", spec := "fnUnfold", inPlace := ["internal/bytealg.IndexByteString", "internal/bytealg.IndexString"], unfollowed := true, recurses := true, named := ["internal/bytealg.MaxLen"], plainKeys := false, apart := false }
def FnUnfoldSaid : Prop := fnUnfoldRow.holds Tryz.pinned (OpenSpec.ofChange fnUnfoldSpec)

/-- ITS FALSE NEIGHBOUR: 'it returns false'. Refute it at one input. -/
def fnUnfoldWrong : ChangeSpec := { name := "fnUnfold", fn := fun _ => fun
  | [d] => { results := [.lit (.bool false)], args := [d] }
  | _ => none }
def FnUnfoldWrongFalsely : Prop := fnUnfoldRow.holds Tryz.pinned (OpenSpec.ofChange fnUnfoldWrong)

/-- 'laws.FnSequence': WHATEVER THE INPUT: true; the input reads as it did. -/
def fnSequenceSpec : ChangeSpec := { name := "fnSequence", fn := fun _ => fun
  | [d1, d2] => { results := [.lit (.bool true)], args := [d1, d2] }
  | _ => none }
def fnSequenceRow : OpenClaim := { program := "ytkgdhlpmlpbbkaagreat", sum := "f5c356db88377f8046bf82e34a5847cccfe7b0e9e4c64a578da04a7b0b91c2a7", func := "loop.example/productprograms/laws.FnSequence", spec := "fnSequence", inPlace := ["internal/bytealg.IndexByteString", "internal/bytealg.IndexString"], unfollowed := true, recurses := true, named := ["internal/bytealg.MaxLen"], plainKeys := false, apart := false }
def FnSequenceSaid : Prop := fnSequenceRow.holds Tryz.pinned (OpenSpec.ofChange fnSequenceSpec)

/-- ITS FALSE NEIGHBOUR: 'it returns false'. Refute it at one input. -/
def fnSequenceWrong : ChangeSpec := { name := "fnSequence", fn := fun _ => fun
  | [d1, d2] => { results := [.lit (.bool false)], args := [d1, d2] }
  | _ => none }
def FnSequenceWrongFalsely : Prop := fnSequenceRow.holds Tryz.pinned (OpenSpec.ofChange fnSequenceWrong)

/-- 'laws.FnChoices': WHATEVER THE INPUT: true; the input reads as it did. -/
def fnChoicesSpec : ChangeSpec := { name := "fnChoices", fn := fun _ => fun
  | [d1, d2] => { results := [.lit (.bool true)], args := [d1, d2] }
  | _ => none }
def fnChoicesRow : OpenClaim := { program := "ytkgdhlpmlpbbkaagreat", sum := "f5c356db88377f8046bf82e34a5847cccfe7b0e9e4c64a578da04a7b0b91c2a7", func := "loop.example/productprograms/laws.FnChoices", spec := "fnChoices", inPlace := ["internal/bytealg.IndexByteString", "internal/bytealg.IndexString"], unfollowed := true, recurses := true, named := ["internal/bytealg.MaxLen"], plainKeys := false, apart := false }
def FnChoicesSaid : Prop := fnChoicesRow.holds Tryz.pinned (OpenSpec.ofChange fnChoicesSpec)

/-- ITS FALSE NEIGHBOUR: 'it returns false'. Refute it at one input. -/
def fnChoicesWrong : ChangeSpec := { name := "fnChoices", fn := fun _ => fun
  | [d1, d2] => { results := [.lit (.bool false)], args := [d1, d2] }
  | _ => none }
def FnChoicesWrongFalsely : Prop := fnChoicesRow.holds Tryz.pinned (OpenSpec.ofChange fnChoicesWrong)

/-- 'laws.FnFrame': WHATEVER THE INPUT: true; the input reads as it did. -/
def fnFrameSpec : ChangeSpec := { name := "fnFrame", fn := fun _ => fun
  | [d] => { results := [.lit (.bool true)], args := [d] }
  | _ => none }
def fnFrameRow : OpenClaim := { program := "ytkgdhlpmlpbbkaagreat", sum := "f5c356db88377f8046bf82e34a5847cccfe7b0e9e4c64a578da04a7b0b91c2a7", func := "loop.example/productprograms/laws.FnFrame", spec := "fnFrame", inPlace := ["internal/bytealg.IndexByteString", "internal/bytealg.IndexString"], unfollowed := true, recurses := true, named := ["internal/bytealg.MaxLen"], plainKeys := false, apart := false }
def FnFrameSaid : Prop := fnFrameRow.holds Tryz.pinned (OpenSpec.ofChange fnFrameSpec)

/-- ITS FALSE NEIGHBOUR: 'it returns false'. Refute it at one input. -/
def fnFrameWrong : ChangeSpec := { name := "fnFrame", fn := fun _ => fun
  | [d] => { results := [.lit (.bool false)], args := [d] }
  | _ => none }
def FnFrameWrongFalsely : Prop := fnFrameRow.holds Tryz.pinned (OpenSpec.ofChange fnFrameWrong)

/- THE SECOND FORM. 'bulk': how many values and letters a reading holds, each counted each time it is reached (what is shared counts as often as it is met; a slice's spare places count too). A statement '..UptoSaid' is the law's where the arguments, and the package variables that the reading takes, are together of bulk at most 1048576: NARROWER than '..Said'. Prove '..Said' where nothing that the law and all that it calls make is longer than what came in: it says more and counts as full. Else prove '..UptoSaid'. A law counts once. -/
mutual
def uptoBulk {H : Type} : DataW H → Nat
  | .lit (.string bytes) => bytes.length + 1
  | .lit _ => 1
  | .nil => 1
  | .ptr d => uptoBulk d + 1
  | .slice elems spare => uptoBulkAll elems + uptoBulkAll spare + 1
  | .agg parts => uptoBulkAll parts + 1
  | .iface _ d => uptoBulk d + 1
  | .map entries => uptoBulkEntries entries + 1
  | .held _ => 1
def uptoBulkAll {H : Type} : List (DataW H) → Nat
  | [] => 0
  | d :: r => uptoBulk d + uptoBulkAll r
def uptoBulkEntries {H : Type} : List (Lit × DataW H) → Nat
  | [] => 0
  | x :: r => uptoBulkEntry x + uptoBulkEntries r
def uptoBulkEntry {H : Type} : Lit × DataW H → Nat
  | (.string bytes, d) => bytes.length + uptoBulk d + 1
  | (_, d) => uptoBulk d + 1
 end
def uptoSmall : (H : Type) → List (DataW H) → Bool := fun _ ds => decide (uptoBulkAll ds ≤ 1048576)
def OpenSpec.upto (s : _root_.Go.ChangeSpec) : _root_.Go.OpenSpec := { _root_.Go.OpenSpec.ofChange s with cond := some uptoSmall }

/-- 'laws.FnMaySets', WHERE WHAT IT READS IS OF BULK AT MOST 1048576: true; the input reads as it did. -/
def fnMaySetsUptoRow : OpenClaim := { program := "ytkgdhlpmlpbbkaagreat", sum := "f5c356db88377f8046bf82e34a5847cccfe7b0e9e4c64a578da04a7b0b91c2a7", func := "loop.example/productprograms/laws.FnMaySets", spec := "fnMaySets", inPlace := ["internal/bytealg.IndexByteString", "internal/bytealg.IndexString"], unfollowed := true, recurses := true, named := ["internal/bytealg.MaxLen"], plainKeys := false, apart := false, narrowed := true }
def FnMaySetsUptoSaid : Prop := fnMaySetsUptoRow.holds Tryz.pinned (OpenSpec.upto fnMaySetsSpec)

/-- 'laws.FnUnfold', WHERE WHAT IT READS IS OF BULK AT MOST 1048576: true; the input reads as it did. -/
def fnUnfoldUptoRow : OpenClaim := { program := "ytkgdhlpmlpbbkaagreat", sum := "f5c356db88377f8046bf82e34a5847cccfe7b0e9e4c64a578da04a7b0b91c2a7", func := "loop.example/productprograms/laws.FnUnfold", spec := "fnUnfold", inPlace := ["internal/bytealg.IndexByteString", "internal/bytealg.IndexString"], unfollowed := true, recurses := true, named := ["internal/bytealg.MaxLen"], plainKeys := false, apart := false, narrowed := true }
def FnUnfoldUptoSaid : Prop := fnUnfoldUptoRow.holds Tryz.pinned (OpenSpec.upto fnUnfoldSpec)

/-- 'laws.FnSequence', WHERE WHAT IT READS IS OF BULK AT MOST 1048576: true; the input reads as it did. -/
def fnSequenceUptoRow : OpenClaim := { program := "ytkgdhlpmlpbbkaagreat", sum := "f5c356db88377f8046bf82e34a5847cccfe7b0e9e4c64a578da04a7b0b91c2a7", func := "loop.example/productprograms/laws.FnSequence", spec := "fnSequence", inPlace := ["internal/bytealg.IndexByteString", "internal/bytealg.IndexString"], unfollowed := true, recurses := true, named := ["internal/bytealg.MaxLen"], plainKeys := false, apart := false, narrowed := true }
def FnSequenceUptoSaid : Prop := fnSequenceUptoRow.holds Tryz.pinned (OpenSpec.upto fnSequenceSpec)

/-- 'laws.FnChoices', WHERE WHAT IT READS IS OF BULK AT MOST 1048576: true; the input reads as it did. -/
def fnChoicesUptoRow : OpenClaim := { program := "ytkgdhlpmlpbbkaagreat", sum := "f5c356db88377f8046bf82e34a5847cccfe7b0e9e4c64a578da04a7b0b91c2a7", func := "loop.example/productprograms/laws.FnChoices", spec := "fnChoices", inPlace := ["internal/bytealg.IndexByteString", "internal/bytealg.IndexString"], unfollowed := true, recurses := true, named := ["internal/bytealg.MaxLen"], plainKeys := false, apart := false, narrowed := true }
def FnChoicesUptoSaid : Prop := fnChoicesUptoRow.holds Tryz.pinned (OpenSpec.upto fnChoicesSpec)

/-- 'laws.FnFrame', WHERE WHAT IT READS IS OF BULK AT MOST 1048576: true; the input reads as it did. -/
def fnFrameUptoRow : OpenClaim := { program := "ytkgdhlpmlpbbkaagreat", sum := "f5c356db88377f8046bf82e34a5847cccfe7b0e9e4c64a578da04a7b0b91c2a7", func := "loop.example/productprograms/laws.FnFrame", spec := "fnFrame", inPlace := ["internal/bytealg.IndexByteString", "internal/bytealg.IndexString"], unfollowed := true, recurses := true, named := ["internal/bytealg.MaxLen"], plainKeys := false, apart := false, narrowed := true }
def FnFrameUptoSaid : Prop := fnFrameUptoRow.holds Tryz.pinned (OpenSpec.upto fnFrameSpec)

end Rows
end Go.Proofs.YtkgdhlpmlpbbkaaGreat
