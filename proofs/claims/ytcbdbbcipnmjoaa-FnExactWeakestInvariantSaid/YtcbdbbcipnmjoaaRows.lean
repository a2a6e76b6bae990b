/-
  No cell of these rows narrows 'for every input' (looked for: loops, veiled, ifaces, maps, wideKeys, modest, calm, conditions, laid).
  DERIVED. THE GIVEN ROWS OF THIS SEAT. 9 by the template 'for every input the law returns true; each argument reads behind the call as it read before'; 0 by the template 'total and deterministic' (their statements: YtcbdbbcipnmjoaaTotals.lean).
  GIVEN WITH THE SEED: the statements are not yours to turn. If you find one false, say at which input.
  Laid BY PROGRAM, IN A SANDBOX (cutbox-rows.mjs): the forced cells as the released guide's own fill.sh prints them over the translation 6a44f3b8e06aa489… (all of the seat's roots in one cut). By AI agents, Wed Nov 11 2026. No macro, syntax, notation, axiom, sorry.
-/
import Derived.Test.YtcbdbbcipnmjoaaChecked
import GoSem.Claim
import GoSem.ClaimJoined
import GoSem.ClaimMapViews
import Derived.JoinedTies
import Derived.KernelRfl
namespace Go.Proofs.Ytcbdbbcipnmjoaa
/- THE CELL 'sum', in the pinned program and in every row, IS THE sha256 OF THE DUMP (.gsa) THAT YtcbdbbcipnmjoaaProg.lean LOADS. Nothing in Lean hashes anything: it is a label: what it is worth is what the hold of that sum in a sandbox is worth. -/
noncomputable def Try.pinned : Pinned := { name := "ytcbdbbcipnmjoaa", sum := "6a44f3b8e06aa489fb65102dbfe89e3a68578b1b95dcb487d33046efe2a50985", checked := Try.checked }
namespace Rows
def none {H : Type} : Left H := { results := [], args := [] }

/-- 'laws.FnExactRunsFrom': WHATEVER THE INPUT: true; the input reads as it did. -/
def fnExactRunsFromSpec : ChangeSpec := { name := "fnExactRunsFrom", fn := fun _ => fun
  | [d1, d2] => { results := [.lit (.bool true)], args := [d1, d2] }
  | _ => none }
def fnExactRunsFromRow : OpenClaim := { program := "ytcbdbbcipnmjoaa", sum := "6a44f3b8e06aa489fb65102dbfe89e3a68578b1b95dcb487d33046efe2a50985", func := "loop.example/productprograms/laws.FnExactRunsFrom", spec := "fnExactRunsFrom", inPlace := ["internal/bytealg.IndexByteString", "internal/bytealg.IndexString"], unfollowed := true, recurses := true, named := ["internal/bytealg.MaxLen"], plainKeys := false, apart := false }
def FnExactRunsFromSaid : Prop := fnExactRunsFromRow.holds Try.pinned (OpenSpec.ofChange fnExactRunsFromSpec)

/-- ITS FALSE NEIGHBOUR: 'it returns false'. Refute it at one input. -/
def fnExactRunsFromWrong : ChangeSpec := { name := "fnExactRunsFrom", fn := fun _ => fun
  | [d1, d2] => { results := [.lit (.bool false)], args := [d1, d2] }
  | _ => none }
def FnExactRunsFromWrongFalsely : Prop := fnExactRunsFromRow.holds Try.pinned (OpenSpec.ofChange fnExactRunsFromWrong)

/-- 'laws.FnExactHeadStates': WHATEVER THE INPUT: true; the input reads as it did. -/
def fnExactHeadStatesSpec : ChangeSpec := { name := "fnExactHeadStates", fn := fun _ => fun
  | [d1, d2, d3] => { results := [.lit (.bool true)], args := [d1, d2, d3] }
  | _ => none }
def fnExactHeadStatesRow : OpenClaim := { program := "ytcbdbbcipnmjoaa", sum := "6a44f3b8e06aa489fb65102dbfe89e3a68578b1b95dcb487d33046efe2a50985", func := "loop.example/productprograms/laws.FnExactHeadStates", spec := "fnExactHeadStates", inPlace := ["internal/bytealg.IndexByteString", "internal/bytealg.IndexString"], unfollowed := true, recurses := true, named := ["internal/bytealg.MaxLen"], plainKeys := false, apart := false }
def FnExactHeadStatesSaid : Prop := fnExactHeadStatesRow.holds Try.pinned (OpenSpec.ofChange fnExactHeadStatesSpec)

/-- ITS FALSE NEIGHBOUR: 'it returns false'. Refute it at one input. -/
def fnExactHeadStatesWrong : ChangeSpec := { name := "fnExactHeadStates", fn := fun _ => fun
  | [d1, d2, d3] => { results := [.lit (.bool false)], args := [d1, d2, d3] }
  | _ => none }
def FnExactHeadStatesWrongFalsely : Prop := fnExactHeadStatesRow.holds Try.pinned (OpenSpec.ofChange fnExactHeadStatesWrong)

/-- 'laws.FnExactPicksTo': WHATEVER THE INPUT: true; the input reads as it did. -/
def fnExactPicksToSpec : ChangeSpec := { name := "fnExactPicksTo", fn := fun _ => fun
  | [d1, d2, d3] => { results := [.lit (.bool true)], args := [d1, d2, d3] }
  | _ => none }
def fnExactPicksToRow : OpenClaim := { program := "ytcbdbbcipnmjoaa", sum := "6a44f3b8e06aa489fb65102dbfe89e3a68578b1b95dcb487d33046efe2a50985", func := "loop.example/productprograms/laws.FnExactPicksTo", spec := "fnExactPicksTo", inPlace := ["internal/bytealg.IndexByteString", "internal/bytealg.IndexString"], unfollowed := true, recurses := true, named := ["internal/bytealg.MaxLen"], plainKeys := false, apart := false }
def FnExactPicksToSaid : Prop := fnExactPicksToRow.holds Try.pinned (OpenSpec.ofChange fnExactPicksToSpec)

/-- ITS FALSE NEIGHBOUR: 'it returns false'. Refute it at one input. -/
def fnExactPicksToWrong : ChangeSpec := { name := "fnExactPicksTo", fn := fun _ => fun
  | [d1, d2, d3] => { results := [.lit (.bool false)], args := [d1, d2, d3] }
  | _ => none }
def FnExactPicksToWrongFalsely : Prop := fnExactPicksToRow.holds Try.pinned (OpenSpec.ofChange fnExactPicksToWrong)

/-- 'laws.FnExactWeakestFree': WHATEVER THE INPUT: true; the input reads as it did. -/
def fnExactWeakestFreeSpec : ChangeSpec := { name := "fnExactWeakestFree", fn := fun _ => fun
  | [d1, d2] => { results := [.lit (.bool true)], args := [d1, d2] }
  | _ => none }
def fnExactWeakestFreeRow : OpenClaim := { program := "ytcbdbbcipnmjoaa", sum := "6a44f3b8e06aa489fb65102dbfe89e3a68578b1b95dcb487d33046efe2a50985", func := "loop.example/productprograms/laws.FnExactWeakestFree", spec := "fnExactWeakestFree", inPlace := ["internal/bytealg.IndexByteString", "internal/bytealg.IndexString"], unfollowed := true, recurses := true, named := ["internal/bytealg.MaxLen"], plainKeys := false, apart := false }
def FnExactWeakestFreeSaid : Prop := fnExactWeakestFreeRow.holds Try.pinned (OpenSpec.ofChange fnExactWeakestFreeSpec)

/-- ITS FALSE NEIGHBOUR: 'it returns false'. Refute it at one input. -/
def fnExactWeakestFreeWrong : ChangeSpec := { name := "fnExactWeakestFree", fn := fun _ => fun
  | [d1, d2] => { results := [.lit (.bool false)], args := [d1, d2] }
  | _ => none }
def FnExactWeakestFreeWrongFalsely : Prop := fnExactWeakestFreeRow.holds Try.pinned (OpenSpec.ofChange fnExactWeakestFreeWrong)

/-- 'laws.FnExactTripleHolds': WHATEVER THE INPUT: true; the input reads as it did. -/
def fnExactTripleHoldsSpec : ChangeSpec := { name := "fnExactTripleHolds", fn := fun _ => fun
  | [d1, d2, d3] => { results := [.lit (.bool true)], args := [d1, d2, d3] }
  | _ => none }
def fnExactTripleHoldsRow : OpenClaim := { program := "ytcbdbbcipnmjoaa", sum := "6a44f3b8e06aa489fb65102dbfe89e3a68578b1b95dcb487d33046efe2a50985", func := "loop.example/productprograms/laws.FnExactTripleHolds", spec := "fnExactTripleHolds", inPlace := ["internal/bytealg.IndexByteString", "internal/bytealg.IndexString"], unfollowed := true, recurses := true, named := ["internal/bytealg.MaxLen"], plainKeys := false, apart := false }
def FnExactTripleHoldsSaid : Prop := fnExactTripleHoldsRow.holds Try.pinned (OpenSpec.ofChange fnExactTripleHoldsSpec)

/-- ITS FALSE NEIGHBOUR: 'it returns false'. Refute it at one input. -/
def fnExactTripleHoldsWrong : ChangeSpec := { name := "fnExactTripleHolds", fn := fun _ => fun
  | [d1, d2, d3] => { results := [.lit (.bool false)], args := [d1, d2, d3] }
  | _ => none }
def FnExactTripleHoldsWrongFalsely : Prop := fnExactTripleHoldsRow.holds Try.pinned (OpenSpec.ofChange fnExactTripleHoldsWrong)

/-- 'laws.FnExactLoopKeeps': WHATEVER THE INPUT: true; the input reads as it did. -/
def fnExactLoopKeepsSpec : ChangeSpec := { name := "fnExactLoopKeeps", fn := fun _ => fun
  | [d1, d2, d3] => { results := [.lit (.bool true)], args := [d1, d2, d3] }
  | _ => none }
def fnExactLoopKeepsRow : OpenClaim := { program := "ytcbdbbcipnmjoaa", sum := "6a44f3b8e06aa489fb65102dbfe89e3a68578b1b95dcb487d33046efe2a50985", func := "loop.example/productprograms/laws.FnExactLoopKeeps", spec := "fnExactLoopKeeps", inPlace := ["internal/bytealg.IndexByteString", "internal/bytealg.IndexString"], unfollowed := true, recurses := true, named := ["internal/bytealg.MaxLen"], plainKeys := false, apart := false }
def FnExactLoopKeepsSaid : Prop := fnExactLoopKeepsRow.holds Try.pinned (OpenSpec.ofChange fnExactLoopKeepsSpec)

/-- ITS FALSE NEIGHBOUR: 'it returns false'. Refute it at one input. -/
def fnExactLoopKeepsWrong : ChangeSpec := { name := "fnExactLoopKeeps", fn := fun _ => fun
  | [d1, d2, d3] => { results := [.lit (.bool false)], args := [d1, d2, d3] }
  | _ => none }
def FnExactLoopKeepsWrongFalsely : Prop := fnExactLoopKeepsRow.holds Try.pinned (OpenSpec.ofChange fnExactLoopKeepsWrong)

/-- 'laws.FnExactProvesLoop': WHATEVER THE INPUT: true; the input reads as it did. -/
def fnExactProvesLoopSpec : ChangeSpec := { name := "fnExactProvesLoop", fn := fun _ => fun
  | [d1, d2, d3, d4, d5] => { results := [.lit (.bool true)], args := [d1, d2, d3, d4, d5] }
  | _ => none }
def fnExactProvesLoopRow : OpenClaim := { program := "ytcbdbbcipnmjoaa", sum := "6a44f3b8e06aa489fb65102dbfe89e3a68578b1b95dcb487d33046efe2a50985", func := "loop.example/productprograms/laws.FnExactProvesLoop", spec := "fnExactProvesLoop", inPlace := ["internal/bytealg.IndexByteString", "internal/bytealg.IndexString"], unfollowed := true, recurses := true, named := ["internal/bytealg.MaxLen"], plainKeys := false, apart := false }
def FnExactProvesLoopSaid : Prop := fnExactProvesLoopRow.holds Try.pinned (OpenSpec.ofChange fnExactProvesLoopSpec)

/-- ITS FALSE NEIGHBOUR: 'it returns false'. Refute it at one input. -/
def fnExactProvesLoopWrong : ChangeSpec := { name := "fnExactProvesLoop", fn := fun _ => fun
  | [d1, d2, d3, d4, d5] => { results := [.lit (.bool false)], args := [d1, d2, d3, d4, d5] }
  | _ => none }
def FnExactProvesLoopWrongFalsely : Prop := fnExactProvesLoopRow.holds Try.pinned (OpenSpec.ofChange fnExactProvesLoopWrong)

/-- 'laws.FnExactStrongestInvariant': WHATEVER THE INPUT: true; the input reads as it did. -/
def fnExactStrongestInvariantSpec : ChangeSpec := { name := "fnExactStrongestInvariant", fn := fun _ => fun
  | [d1, d2, d3] => { results := [.lit (.bool true)], args := [d1, d2, d3] }
  | _ => none }
def fnExactStrongestInvariantRow : OpenClaim := { program := "ytcbdbbcipnmjoaa", sum := "6a44f3b8e06aa489fb65102dbfe89e3a68578b1b95dcb487d33046efe2a50985", func := "loop.example/productprograms/laws.FnExactStrongestInvariant", spec := "fnExactStrongestInvariant", inPlace := ["internal/bytealg.IndexByteString", "internal/bytealg.IndexString"], unfollowed := true, recurses := true, named := ["internal/bytealg.MaxLen"], plainKeys := false, apart := false }
def FnExactStrongestInvariantSaid : Prop := fnExactStrongestInvariantRow.holds Try.pinned (OpenSpec.ofChange fnExactStrongestInvariantSpec)

/-- ITS FALSE NEIGHBOUR: 'it returns false'. Refute it at one input. -/
def fnExactStrongestInvariantWrong : ChangeSpec := { name := "fnExactStrongestInvariant", fn := fun _ => fun
  | [d1, d2, d3] => { results := [.lit (.bool false)], args := [d1, d2, d3] }
  | _ => none }
def FnExactStrongestInvariantWrongFalsely : Prop := fnExactStrongestInvariantRow.holds Try.pinned (OpenSpec.ofChange fnExactStrongestInvariantWrong)

/-- 'laws.FnExactWeakestInvariant': WHATEVER THE INPUT: true; the input reads as it did. -/
def fnExactWeakestInvariantSpec : ChangeSpec := { name := "fnExactWeakestInvariant", fn := fun _ => fun
  | [d1, d2, d3] => { results := [.lit (.bool true)], args := [d1, d2, d3] }
  | _ => none }
def fnExactWeakestInvariantRow : OpenClaim := { program := "ytcbdbbcipnmjoaa", sum := "6a44f3b8e06aa489fb65102dbfe89e3a68578b1b95dcb487d33046efe2a50985", func := "loop.example/productprograms/laws.FnExactWeakestInvariant", spec := "fnExactWeakestInvariant", inPlace := ["internal/bytealg.IndexByteString", "internal/bytealg.IndexString"], unfollowed := true, recurses := true, named := ["internal/bytealg.MaxLen"], plainKeys := false, apart := false }
def FnExactWeakestInvariantSaid : Prop := fnExactWeakestInvariantRow.holds Try.pinned (OpenSpec.ofChange fnExactWeakestInvariantSpec)

/-- ITS FALSE NEIGHBOUR: 'it returns false'. Refute it at one input. -/
def fnExactWeakestInvariantWrong : ChangeSpec := { name := "fnExactWeakestInvariant", fn := fun _ => fun
  | [d1, d2, d3] => { results := [.lit (.bool false)], args := [d1, d2, d3] }
  | _ => none }
def FnExactWeakestInvariantWrongFalsely : Prop := fnExactWeakestInvariantRow.holds Try.pinned (OpenSpec.ofChange fnExactWeakestInvariantWrong)

/- THE SECOND FORM. 'bulk': how many values and letters a reading holds, each counted each time it is reached (what is shared counts as often as it is met; a slice's spare places count too). A statement '..UptoSaid' is the law's where the arguments, and the package variables that the reading takes, are together of bulk at most 1048576: NARROWER than '..Said'. Prove '..Said' where nothing that the law and all that it calls make is longer than what came in: it says more and counts as full. Else prove '..UptoSaid'. A law counts once. -/
mutual
def uptoBulk {H : Type} : DataW H → Nat
  | .lit (.string bytes) => bytes.length + 1
  | .lit _ => 1
  | .nil => 1
  | .ptr d => uptoBulk d + 1
  | .slice elems spare => uptoBulkAll elems + uptoBulkAll spare + 1
  | .agg parts => uptoBulkAll parts + 1
  | .iface _ d => uptoBulk d + 1
  | .map entries => uptoBulkEntries entries + 1
  | .held _ => 1
def uptoBulkAll {H : Type} : List (DataW H) → Nat
  | [] => 0
  | d :: r => uptoBulk d + uptoBulkAll r
def uptoBulkEntries {H : Type} : List (Lit × DataW H) → Nat
  | [] => 0
  | x :: r => uptoBulkEntry x + uptoBulkEntries r
def uptoBulkEntry {H : Type} : Lit × DataW H → Nat
  | (.string bytes, d) => bytes.length + uptoBulk d + 1
  | (_, d) => uptoBulk d + 1
 end
def uptoSmall : (H : Type) → List (DataW H) → Bool := fun _ ds => decide (uptoBulkAll ds ≤ 1048576)
def OpenSpec.upto (s : _root_.Go.ChangeSpec) : _root_.Go.OpenSpec := { _root_.Go.OpenSpec.ofChange s with cond := some uptoSmall }

/-- 'laws.FnExactRunsFrom', WHERE WHAT IT READS IS OF BULK AT MOST 1048576: true; the input reads as it did. -/
def fnExactRunsFromUptoRow : OpenClaim := { program := "ytcbdbbcipnmjoaa", sum := "6a44f3b8e06aa489fb65102dbfe89e3a68578b1b95dcb487d33046efe2a50985", func := "loop.example/productprograms/laws.FnExactRunsFrom", spec := "fnExactRunsFrom", inPlace := ["internal/bytealg.IndexByteString", "internal/bytealg.IndexString"], unfollowed := true, recurses := true, named := ["internal/bytealg.MaxLen"], plainKeys := false, apart := false, narrowed := true }
def FnExactRunsFromUptoSaid : Prop := fnExactRunsFromUptoRow.holds Try.pinned (OpenSpec.upto fnExactRunsFromSpec)

/-- 'laws.FnExactHeadStates', WHERE WHAT IT READS IS OF BULK AT MOST 1048576: true; the input reads as it did. -/
def fnExactHeadStatesUptoRow : OpenClaim := { program := "ytcbdbbcipnmjoaa", sum := "6a44f3b8e06aa489fb65102dbfe89e3a68578b1b95dcb487d33046efe2a50985", func := "loop.example/productprograms/laws.FnExactHeadStates", spec := "fnExactHeadStates", inPlace := ["internal/bytealg.IndexByteString", "internal/bytealg.IndexString"], unfollowed := true, recurses := true, named := ["internal/bytealg.MaxLen"], plainKeys := false, apart := false, narrowed := true }
def FnExactHeadStatesUptoSaid : Prop := fnExactHeadStatesUptoRow.holds Try.pinned (OpenSpec.upto fnExactHeadStatesSpec)

/-- 'laws.FnExactPicksTo', WHERE WHAT IT READS IS OF BULK AT MOST 1048576: true; the input reads as it did. -/
def fnExactPicksToUptoRow : OpenClaim := { program := "ytcbdbbcipnmjoaa", sum := "6a44f3b8e06aa489fb65102dbfe89e3a68578b1b95dcb487d33046efe2a50985", func := "loop.example/productprograms/laws.FnExactPicksTo", spec := "fnExactPicksTo", inPlace := ["internal/bytealg.IndexByteString", "internal/bytealg.IndexString"], unfollowed := true, recurses := true, named := ["internal/bytealg.MaxLen"], plainKeys := false, apart := false, narrowed := true }
def FnExactPicksToUptoSaid : Prop := fnExactPicksToUptoRow.holds Try.pinned (OpenSpec.upto fnExactPicksToSpec)

/-- 'laws.FnExactWeakestFree', WHERE WHAT IT READS IS OF BULK AT MOST 1048576: true; the input reads as it did. -/
def fnExactWeakestFreeUptoRow : OpenClaim := { program := "ytcbdbbcipnmjoaa", sum := "6a44f3b8e06aa489fb65102dbfe89e3a68578b1b95dcb487d33046efe2a50985", func := "loop.example/productprograms/laws.FnExactWeakestFree", spec := "fnExactWeakestFree", inPlace := ["internal/bytealg.IndexByteString", "internal/bytealg.IndexString"], unfollowed := true, recurses := true, named := ["internal/bytealg.MaxLen"], plainKeys := false, apart := false, narrowed := true }
def FnExactWeakestFreeUptoSaid : Prop := fnExactWeakestFreeUptoRow.holds Try.pinned (OpenSpec.upto fnExactWeakestFreeSpec)

/-- 'laws.FnExactTripleHolds', WHERE WHAT IT READS IS OF BULK AT MOST 1048576: true; the input reads as it did. -/
def fnExactTripleHoldsUptoRow : OpenClaim := { program := "ytcbdbbcipnmjoaa", sum := "6a44f3b8e06aa489fb65102dbfe89e3a68578b1b95dcb487d33046efe2a50985", func := "loop.example/productprograms/laws.FnExactTripleHolds", spec := "fnExactTripleHolds", inPlace := ["internal/bytealg.IndexByteString", "internal/bytealg.IndexString"], unfollowed := true, recurses := true, named := ["internal/bytealg.MaxLen"], plainKeys := false, apart := false, narrowed := true }
def FnExactTripleHoldsUptoSaid : Prop := fnExactTripleHoldsUptoRow.holds Try.pinned (OpenSpec.upto fnExactTripleHoldsSpec)

/-- 'laws.FnExactLoopKeeps', WHERE WHAT IT READS IS OF BULK AT MOST 1048576: true; the input reads as it did. -/
def fnExactLoopKeepsUptoRow : OpenClaim := { program := "ytcbdbbcipnmjoaa", sum := "6a44f3b8e06aa489fb65102dbfe89e3a68578b1b95dcb487d33046efe2a50985", func := "loop.example/productprograms/laws.FnExactLoopKeeps", spec := "fnExactLoopKeeps", inPlace := ["internal/bytealg.IndexByteString", "internal/bytealg.IndexString"], unfollowed := true, recurses := true, named := ["internal/bytealg.MaxLen"], plainKeys := false, apart := false, narrowed := true }
def FnExactLoopKeepsUptoSaid : Prop := fnExactLoopKeepsUptoRow.holds Try.pinned (OpenSpec.upto fnExactLoopKeepsSpec)

/-- 'laws.FnExactProvesLoop', WHERE WHAT IT READS IS OF BULK AT MOST 1048576: true; the input reads as it did. -/
def fnExactProvesLoopUptoRow : OpenClaim := { program := "ytcbdbbcipnmjoaa", sum := "6a44f3b8e06aa489fb65102dbfe89e3a68578b1b95dcb487d33046efe2a50985", func := "loop.example/productprograms/laws.FnExactProvesLoop", spec := "fnExactProvesLoop", inPlace := ["internal/bytealg.IndexByteString", "internal/bytealg.IndexString"], unfollowed := true, recurses := true, named := ["internal/bytealg.MaxLen"], plainKeys := false, apart := false, narrowed := true }
def FnExactProvesLoopUptoSaid : Prop := fnExactProvesLoopUptoRow.holds Try.pinned (OpenSpec.upto fnExactProvesLoopSpec)

/-- 'laws.FnExactStrongestInvariant', WHERE WHAT IT READS IS OF BULK AT MOST 1048576: true; the input reads as it did. -/
def fnExactStrongestInvariantUptoRow : OpenClaim := { program := "ytcbdbbcipnmjoaa", sum := "6a44f3b8e06aa489fb65102dbfe89e3a68578b1b95dcb487d33046efe2a50985", func := "loop.example/productprograms/laws.FnExactStrongestInvariant", spec := "fnExactStrongestInvariant", inPlace := ["internal/bytealg.IndexByteString", "internal/bytealg.IndexString"], unfollowed := true, recurses := true, named := ["internal/bytealg.MaxLen"], plainKeys := false, apart := false, narrowed := true }
def FnExactStrongestInvariantUptoSaid : Prop := fnExactStrongestInvariantUptoRow.holds Try.pinned (OpenSpec.upto fnExactStrongestInvariantSpec)

/-- 'laws.FnExactWeakestInvariant', WHERE WHAT IT READS IS OF BULK AT MOST 1048576: true; the input reads as it did. -/
def fnExactWeakestInvariantUptoRow : OpenClaim := { program := "ytcbdbbcipnmjoaa", sum := "6a44f3b8e06aa489fb65102dbfe89e3a68578b1b95dcb487d33046efe2a50985", func := "loop.example/productprograms/laws.FnExactWeakestInvariant", spec := "fnExactWeakestInvariant", inPlace := ["internal/bytealg.IndexByteString", "internal/bytealg.IndexString"], unfollowed := true, recurses := true, named := ["internal/bytealg.MaxLen"], plainKeys := false, apart := false, narrowed := true }
def FnExactWeakestInvariantUptoSaid : Prop := fnExactWeakestInvariantUptoRow.holds Try.pinned (OpenSpec.upto fnExactWeakestInvariantSpec)

end Rows
end Go.Proofs.Ytcbdbbcipnmjoaa
