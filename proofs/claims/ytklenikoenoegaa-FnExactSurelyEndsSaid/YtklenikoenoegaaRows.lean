/-
  No cell of these rows narrows 'for every input' (looked for: loops, veiled, ifaces, maps, wideKeys, modest, calm, conditions, laid).
  DERIVED. THE GIVEN ROWS OF THIS SEAT. 8 by the template 'for every input the law returns true; each argument reads behind the call as it read before'; 0 by the template 'total and deterministic' (their statements: YtklenikoenoegaaTotals.lean).
  GIVEN WITH THE SEED: the statements are not yours to turn. If you find one false, say at which input.
  Laid BY PROGRAM, IN A SANDBOX (cutbox-rows.mjs): the forced cells as the released guide's own fill.sh prints them over the translation ce03b1295b94c50e… (all of the seat's roots in one cut). By AI agents, Wed Nov 11 2026. No macro, syntax, notation, axiom, sorry.
-/
import Derived.Test.YtklenikoenoegaaChecked
import GoSem.Claim
import GoSem.ClaimJoined
import GoSem.ClaimMapViews
import Derived.JoinedTies
import Derived.KernelRfl
namespace Go.Proofs.Ytklenikoenoegaa
/- THE CELL 'sum', in the pinned program and in every row, IS THE sha256 OF THE DUMP (.gsa) THAT YtklenikoenoegaaProg.lean LOADS. Nothing in Lean hashes anything: it is a label: what it is worth is what the hold of that sum in a sandbox is worth. -/
noncomputable def Try.pinned : Pinned := { name := "ytklenikoenoegaa", sum := "ce03b1295b94c50e603cb386e40cc191e70baa0bad3493d3b10930fe88a906c3", checked := Try.checked }
namespace Rows
def none {H : Type} : Left H := { results := [], args := [] }

/-- 'laws.FnExactRunsFrom': WHATEVER THE INPUT: true; the input reads as it did. -/
def fnExactRunsFromSpec : ChangeSpec := { name := "fnExactRunsFrom", fn := fun _ => fun
  | [d1, d2] => { results := [.lit (.bool true)], args := [d1, d2] }
  | _ => none }
def fnExactRunsFromRow : OpenClaim := { program := "ytklenikoenoegaa", sum := "ce03b1295b94c50e603cb386e40cc191e70baa0bad3493d3b10930fe88a906c3", func := "loop.example/productprograms/laws.FnExactRunsFrom", spec := "fnExactRunsFrom", inPlace := ["internal/bytealg.IndexByteString", "internal/bytealg.IndexString"], unfollowed := true, recurses := true, named := ["internal/bytealg.MaxLen"], plainKeys := false, apart := false }
def FnExactRunsFromSaid : Prop := fnExactRunsFromRow.holds Try.pinned (OpenSpec.ofChange fnExactRunsFromSpec)

/-- ITS FALSE NEIGHBOUR: 'it returns false'. Refute it at one input. -/
def fnExactRunsFromWrong : ChangeSpec := { name := "fnExactRunsFrom", fn := fun _ => fun
  | [d1, d2] => { results := [.lit (.bool false)], args := [d1, d2] }
  | _ => none }
def FnExactRunsFromWrongFalsely : Prop := fnExactRunsFromRow.holds Try.pinned (OpenSpec.ofChange fnExactRunsFromWrong)

/-- 'laws.FnExactMayLoop': WHATEVER THE INPUT: true; the input reads as it did. -/
def fnExactMayLoopSpec : ChangeSpec := { name := "fnExactMayLoop", fn := fun _ => fun
  | [d] => { results := [.lit (.bool true)], args := [d] }
  | _ => none }
def fnExactMayLoopRow : OpenClaim := { program := "ytklenikoenoegaa", sum := "ce03b1295b94c50e603cb386e40cc191e70baa0bad3493d3b10930fe88a906c3", func := "loop.example/productprograms/laws.FnExactMayLoop", spec := "fnExactMayLoop", inPlace := ["internal/bytealg.IndexByteString", "internal/bytealg.IndexString"], unfollowed := true, recurses := true, named := ["internal/bytealg.MaxLen"], plainKeys := false, apart := false }
def FnExactMayLoopSaid : Prop := fnExactMayLoopRow.holds Try.pinned (OpenSpec.ofChange fnExactMayLoopSpec)

/-- ITS FALSE NEIGHBOUR: 'it returns false'. Refute it at one input. -/
def fnExactMayLoopWrong : ChangeSpec := { name := "fnExactMayLoop", fn := fun _ => fun
  | [d] => { results := [.lit (.bool false)], args := [d] }
  | _ => none }
def FnExactMayLoopWrongFalsely : Prop := fnExactMayLoopRow.holds Try.pinned (OpenSpec.ofChange fnExactMayLoopWrong)

/-- 'laws.FnExactMayBlock': WHATEVER THE INPUT: true; the input reads as it did. -/
def fnExactMayBlockSpec : ChangeSpec := { name := "fnExactMayBlock", fn := fun _ => fun
  | [d] => { results := [.lit (.bool true)], args := [d] }
  | _ => none }
def fnExactMayBlockRow : OpenClaim := { program := "ytklenikoenoegaa", sum := "ce03b1295b94c50e603cb386e40cc191e70baa0bad3493d3b10930fe88a906c3", func := "loop.example/productprograms/laws.FnExactMayBlock", spec := "fnExactMayBlock", inPlace := ["internal/bytealg.IndexByteString", "internal/bytealg.IndexString"], unfollowed := true, recurses := true, named := ["internal/bytealg.MaxLen"], plainKeys := false, apart := false }
def FnExactMayBlockSaid : Prop := fnExactMayBlockRow.holds Try.pinned (OpenSpec.ofChange fnExactMayBlockSpec)

/-- ITS FALSE NEIGHBOUR: 'it returns false'. Refute it at one input. -/
def fnExactMayBlockWrong : ChangeSpec := { name := "fnExactMayBlock", fn := fun _ => fun
  | [d] => { results := [.lit (.bool false)], args := [d] }
  | _ => none }
def FnExactMayBlockWrongFalsely : Prop := fnExactMayBlockRow.holds Try.pinned (OpenSpec.ofChange fnExactMayBlockWrong)

/-- 'laws.FnExactMayEnd': WHATEVER THE INPUT: true; the input reads as it did. -/
def fnExactMayEndSpec : ChangeSpec := { name := "fnExactMayEnd", fn := fun _ => fun
  | [d] => { results := [.lit (.bool true)], args := [d] }
  | _ => none }
def fnExactMayEndRow : OpenClaim := { program := "ytklenikoenoegaa", sum := "ce03b1295b94c50e603cb386e40cc191e70baa0bad3493d3b10930fe88a906c3", func := "loop.example/productprograms/laws.FnExactMayEnd", spec := "fnExactMayEnd", inPlace := ["internal/bytealg.IndexByteString", "internal/bytealg.IndexString"], unfollowed := true, recurses := true, named := ["internal/bytealg.MaxLen"], plainKeys := false, apart := false }
def FnExactMayEndSaid : Prop := fnExactMayEndRow.holds Try.pinned (OpenSpec.ofChange fnExactMayEndSpec)

/-- ITS FALSE NEIGHBOUR: 'it returns false'. Refute it at one input. -/
def fnExactMayEndWrong : ChangeSpec := { name := "fnExactMayEnd", fn := fun _ => fun
  | [d] => { results := [.lit (.bool false)], args := [d] }
  | _ => none }
def FnExactMayEndWrongFalsely : Prop := fnExactMayEndRow.holds Try.pinned (OpenSpec.ofChange fnExactMayEndWrong)

/-- 'laws.FnExactSurelyEnds': WHATEVER THE INPUT: true; the input reads as it did. -/
def fnExactSurelyEndsSpec : ChangeSpec := { name := "fnExactSurelyEnds", fn := fun _ => fun
  | [d] => { results := [.lit (.bool true)], args := [d] }
  | _ => none }
def fnExactSurelyEndsRow : OpenClaim := { program := "ytklenikoenoegaa", sum := "ce03b1295b94c50e603cb386e40cc191e70baa0bad3493d3b10930fe88a906c3", func := "loop.example/productprograms/laws.FnExactSurelyEnds", spec := "fnExactSurelyEnds", inPlace := ["internal/bytealg.IndexByteString", "internal/bytealg.IndexString"], unfollowed := true, recurses := true, named := ["internal/bytealg.MaxLen"], plainKeys := false, apart := false }
def FnExactSurelyEndsSaid : Prop := fnExactSurelyEndsRow.holds Try.pinned (OpenSpec.ofChange fnExactSurelyEndsSpec)

/-- ITS FALSE NEIGHBOUR: 'it returns false'. Refute it at one input. -/
def fnExactSurelyEndsWrong : ChangeSpec := { name := "fnExactSurelyEnds", fn := fun _ => fun
  | [d] => { results := [.lit (.bool false)], args := [d] }
  | _ => none }
def FnExactSurelyEndsWrongFalsely : Prop := fnExactSurelyEndsRow.holds Try.pinned (OpenSpec.ofChange fnExactSurelyEndsWrong)

/-- 'laws.FnExactPostOf': WHATEVER THE INPUT: true; the input reads as it did. -/
def fnExactPostOfSpec : ChangeSpec := { name := "fnExactPostOf", fn := fun _ => fun
  | [d1, d2] => { results := [.lit (.bool true)], args := [d1, d2] }
  | _ => none }
def fnExactPostOfRow : OpenClaim := { program := "ytklenikoenoegaa", sum := "ce03b1295b94c50e603cb386e40cc191e70baa0bad3493d3b10930fe88a906c3", func := "loop.example/productprograms/laws.FnExactPostOf", spec := "fnExactPostOf", inPlace := ["internal/bytealg.IndexByteString", "internal/bytealg.IndexString"], unfollowed := true, recurses := true, named := ["internal/bytealg.MaxLen"], plainKeys := false, apart := false }
def FnExactPostOfSaid : Prop := fnExactPostOfRow.holds Try.pinned (OpenSpec.ofChange fnExactPostOfSpec)

/-- ITS FALSE NEIGHBOUR: 'it returns false'. Refute it at one input. -/
def fnExactPostOfWrong : ChangeSpec := { name := "fnExactPostOf", fn := fun _ => fun
  | [d1, d2] => { results := [.lit (.bool false)], args := [d1, d2] }
  | _ => none }
def FnExactPostOfWrongFalsely : Prop := fnExactPostOfRow.holds Try.pinned (OpenSpec.ofChange fnExactPostOfWrong)

/-- 'laws.FnExactPicksTo': WHATEVER THE INPUT: true; the input reads as it did. -/
def fnExactPicksToSpec : ChangeSpec := { name := "fnExactPicksTo", fn := fun _ => fun
  | [d1, d2, d3] => { results := [.lit (.bool true)], args := [d1, d2, d3] }
  | _ => none }
def fnExactPicksToRow : OpenClaim := { program := "ytklenikoenoegaa", sum := "ce03b1295b94c50e603cb386e40cc191e70baa0bad3493d3b10930fe88a906c3", func := "loop.example/productprograms/laws.FnExactPicksTo", spec := "fnExactPicksTo", inPlace := ["internal/bytealg.IndexByteString", "internal/bytealg.IndexString"], unfollowed := true, recurses := true, named := ["internal/bytealg.MaxLen"], plainKeys := false, apart := false }
def FnExactPicksToSaid : Prop := fnExactPicksToRow.holds Try.pinned (OpenSpec.ofChange fnExactPicksToSpec)

/-- ITS FALSE NEIGHBOUR: 'it returns false'. Refute it at one input. -/
def fnExactPicksToWrong : ChangeSpec := { name := "fnExactPicksTo", fn := fun _ => fun
  | [d1, d2, d3] => { results := [.lit (.bool false)], args := [d1, d2, d3] }
  | _ => none }
def FnExactPicksToWrongFalsely : Prop := fnExactPicksToRow.holds Try.pinned (OpenSpec.ofChange fnExactPicksToWrong)

/-- 'laws.FnExactHeadStates': WHATEVER THE INPUT: true; the input reads as it did. -/
def fnExactHeadStatesSpec : ChangeSpec := { name := "fnExactHeadStates", fn := fun _ => fun
  | [d1, d2, d3] => { results := [.lit (.bool true)], args := [d1, d2, d3] }
  | _ => none }
def fnExactHeadStatesRow : OpenClaim := { program := "ytklenikoenoegaa", sum := "ce03b1295b94c50e603cb386e40cc191e70baa0bad3493d3b10930fe88a906c3", func := "loop.example/productprograms/laws.FnExactHeadStates", spec := "fnExactHeadStates", inPlace := ["internal/bytealg.IndexByteString", "internal/bytealg.IndexString"], unfollowed := true, recurses := true, named := ["internal/bytealg.MaxLen"], plainKeys := false, apart := false }
def FnExactHeadStatesSaid : Prop := fnExactHeadStatesRow.holds Try.pinned (OpenSpec.ofChange fnExactHeadStatesSpec)

/-- ITS FALSE NEIGHBOUR: 'it returns false'. Refute it at one input. -/
def fnExactHeadStatesWrong : ChangeSpec := { name := "fnExactHeadStates", fn := fun _ => fun
  | [d1, d2, d3] => { results := [.lit (.bool false)], args := [d1, d2, d3] }
  | _ => none }
def FnExactHeadStatesWrongFalsely : Prop := fnExactHeadStatesRow.holds Try.pinned (OpenSpec.ofChange fnExactHeadStatesWrong)

/- THE SECOND FORM. 'bulk': how many values and letters a reading holds, each counted each time it is reached (what is shared counts as often as it is met; a slice's spare places count too). A statement '..UptoSaid' is the law's where the arguments, and the package variables that the reading takes, are together of bulk at most 1048576: NARROWER than '..Said'. Prove '..Said' where nothing that the law and all that it calls make is longer than what came in: it says more and counts as full. Else prove '..UptoSaid'. A law counts once. -/
mutual
def uptoBulk {H : Type} : DataW H → Nat
  | .lit (.string bytes) => bytes.length + 1
  | .lit _ => 1
  | .nil => 1
  | .ptr d => uptoBulk d + 1
  | .slice elems spare => uptoBulkAll elems + uptoBulkAll spare + 1
  | .agg parts => uptoBulkAll parts + 1
  | .iface _ d => uptoBulk d + 1
  | .map entries => uptoBulkEntries entries + 1
  | .held _ => 1
def uptoBulkAll {H : Type} : List (DataW H) → Nat
  | [] => 0
  | d :: r => uptoBulk d + uptoBulkAll r
def uptoBulkEntries {H : Type} : List (Lit × DataW H) → Nat
  | [] => 0
  | x :: r => uptoBulkEntry x + uptoBulkEntries r
def uptoBulkEntry {H : Type} : Lit × DataW H → Nat
  | (.string bytes, d) => bytes.length + uptoBulk d + 1
  | (_, d) => uptoBulk d + 1
 end
def uptoSmall : (H : Type) → List (DataW H) → Bool := fun _ ds => decide (uptoBulkAll ds ≤ 1048576)
def OpenSpec.upto (s : _root_.Go.ChangeSpec) : _root_.Go.OpenSpec := { _root_.Go.OpenSpec.ofChange s with cond := some uptoSmall }

/-- 'laws.FnExactRunsFrom', WHERE WHAT IT READS IS OF BULK AT MOST 1048576: true; the input reads as it did. -/
def fnExactRunsFromUptoRow : OpenClaim := { program := "ytklenikoenoegaa", sum := "ce03b1295b94c50e603cb386e40cc191e70baa0bad3493d3b10930fe88a906c3", func := "loop.example/productprograms/laws.FnExactRunsFrom", spec := "fnExactRunsFrom", inPlace := ["internal/bytealg.IndexByteString", "internal/bytealg.IndexString"], unfollowed := true, recurses := true, named := ["internal/bytealg.MaxLen"], plainKeys := false, apart := false, narrowed := true }
def FnExactRunsFromUptoSaid : Prop := fnExactRunsFromUptoRow.holds Try.pinned (OpenSpec.upto fnExactRunsFromSpec)

/-- 'laws.FnExactMayLoop', WHERE WHAT IT READS IS OF BULK AT MOST 1048576: true; the input reads as it did. -/
def fnExactMayLoopUptoRow : OpenClaim := { program := "ytklenikoenoegaa", sum := "ce03b1295b94c50e603cb386e40cc191e70baa0bad3493d3b10930fe88a906c3", func := "loop.example/productprograms/laws.FnExactMayLoop", spec := "fnExactMayLoop", inPlace := ["internal/bytealg.IndexByteString", "internal/bytealg.IndexString"], unfollowed := true, recurses := true, named := ["internal/bytealg.MaxLen"], plainKeys := false, apart := false, narrowed := true }
def FnExactMayLoopUptoSaid : Prop := fnExactMayLoopUptoRow.holds Try.pinned (OpenSpec.upto fnExactMayLoopSpec)

/-- 'laws.FnExactMayBlock', WHERE WHAT IT READS IS OF BULK AT MOST 1048576: true; the input reads as it did. -/
def fnExactMayBlockUptoRow : OpenClaim := { program := "ytklenikoenoegaa", sum := "ce03b1295b94c50e603cb386e40cc191e70baa0bad3493d3b10930fe88a906c3", func := "loop.example/productprograms/laws.FnExactMayBlock", spec := "fnExactMayBlock", inPlace := ["internal/bytealg.IndexByteString", "internal/bytealg.IndexString"], unfollowed := true, recurses := true, named := ["internal/bytealg.MaxLen"], plainKeys := false, apart := false, narrowed := true }
def FnExactMayBlockUptoSaid : Prop := fnExactMayBlockUptoRow.holds Try.pinned (OpenSpec.upto fnExactMayBlockSpec)

/-- 'laws.FnExactMayEnd', WHERE WHAT IT READS IS OF BULK AT MOST 1048576: true; the input reads as it did. -/
def fnExactMayEndUptoRow : OpenClaim := { program := "ytklenikoenoegaa", sum := "ce03b1295b94c50e603cb386e40cc191e70baa0bad3493d3b10930fe88a906c3", func := "loop.example/productprograms/laws.FnExactMayEnd", spec := "fnExactMayEnd", inPlace := ["internal/bytealg.IndexByteString", "internal/bytealg.IndexString"], unfollowed := true, recurses := true, named := ["internal/bytealg.MaxLen"], plainKeys := false, apart := false, narrowed := true }
def FnExactMayEndUptoSaid : Prop := fnExactMayEndUptoRow.holds Try.pinned (OpenSpec.upto fnExactMayEndSpec)

/-- 'laws.FnExactSurelyEnds', WHERE WHAT IT READS IS OF BULK AT MOST 1048576: true; the input reads as it did. -/
def fnExactSurelyEndsUptoRow : OpenClaim := { program := "ytklenikoenoegaa", sum := "ce03b1295b94c50e603cb386e40cc191e70baa0bad3493d3b10930fe88a906c3", func := "loop.example/productprograms/laws.FnExactSurelyEnds", spec := "fnExactSurelyEnds", inPlace := ["internal/bytealg.IndexByteString", "internal/bytealg.IndexString"], unfollowed := true, recurses := true, named := ["internal/bytealg.MaxLen"], plainKeys := false, apart := false, narrowed := true }
def FnExactSurelyEndsUptoSaid : Prop := fnExactSurelyEndsUptoRow.holds Try.pinned (OpenSpec.upto fnExactSurelyEndsSpec)

/-- 'laws.FnExactPostOf', WHERE WHAT IT READS IS OF BULK AT MOST 1048576: true; the input reads as it did. -/
def fnExactPostOfUptoRow : OpenClaim := { program := "ytklenikoenoegaa", sum := "ce03b1295b94c50e603cb386e40cc191e70baa0bad3493d3b10930fe88a906c3", func := "loop.example/productprograms/laws.FnExactPostOf", spec := "fnExactPostOf", inPlace := ["internal/bytealg.IndexByteString", "internal/bytealg.IndexString"], unfollowed := true, recurses := true, named := ["internal/bytealg.MaxLen"], plainKeys := false, apart := false, narrowed := true }
def FnExactPostOfUptoSaid : Prop := fnExactPostOfUptoRow.holds Try.pinned (OpenSpec.upto fnExactPostOfSpec)

/-- 'laws.FnExactPicksTo', WHERE WHAT IT READS IS OF BULK AT MOST 1048576: true; the input reads as it did. -/
def fnExactPicksToUptoRow : OpenClaim := { program := "ytklenikoenoegaa", sum := "ce03b1295b94c50e603cb386e40cc191e70baa0bad3493d3b10930fe88a906c3", func := "loop.example/productprograms/laws.FnExactPicksTo", spec := "fnExactPicksTo", inPlace := ["internal/bytealg.IndexByteString", "internal/bytealg.IndexString"], unfollowed := true, recurses := true, named := ["internal/bytealg.MaxLen"], plainKeys := false, apart := false, narrowed := true }
def FnExactPicksToUptoSaid : Prop := fnExactPicksToUptoRow.holds Try.pinned (OpenSpec.upto fnExactPicksToSpec)

/-- 'laws.FnExactHeadStates', WHERE WHAT IT READS IS OF BULK AT MOST 1048576: true; the input reads as it did. -/
def fnExactHeadStatesUptoRow : OpenClaim := { program := "ytklenikoenoegaa", sum := "ce03b1295b94c50e603cb386e40cc191e70baa0bad3493d3b10930fe88a906c3", func := "loop.example/productprograms/laws.FnExactHeadStates", spec := "fnExactHeadStates", inPlace := ["internal/bytealg.IndexByteString", "internal/bytealg.IndexString"], unfollowed := true, recurses := true, named := ["internal/bytealg.MaxLen"], plainKeys := false, apart := false, narrowed := true }
def FnExactHeadStatesUptoSaid : Prop := fnExactHeadStatesUptoRow.holds Try.pinned (OpenSpec.upto fnExactHeadStatesSpec)

end Rows
end Go.Proofs.Ytklenikoenoegaa
