/-
  No cell of these rows narrows 'for every input' (looked for: loops, veiled, ifaces, maps, wideKeys, modest, calm, conditions, laid).
  DERIVED. THE GIVEN ROWS OF THIS SEAT. 5 by the template 'for every input the law returns true; each argument reads behind the call as it read before'; 0 by the template 'total and deterministic' (their statements: YtonhimbfibjlcaaTotals.lean).
  GIVEN WITH THE SEED: the statements are not yours to turn. If you find one false, say at which input.
  Laid BY PROGRAM, IN A SANDBOX (cutbox-rows.mjs): the forced cells as the released guide's own fill.sh prints them over the translation 834c467c13bad8ad… (all of the seat's roots in one cut). By AI agents, Wed Nov 11 2026. No macro, syntax, notation, axiom, sorry.
-/
import Derived.Test.YtonhimbfibjlcaaChecked
import GoSem.Claim
import GoSem.ClaimJoined
import GoSem.ClaimMapViews
import Derived.JoinedTies
import Derived.KernelRfl
namespace Go.Proofs.Ytonhimbfibjlcaa
/- THE CELL 'sum', in the pinned program and in every row, IS THE sha256 OF THE DUMP (.gsa) THAT YtonhimbfibjlcaaProg.lean LOADS. Nothing in Lean hashes anything: it is a label: what it is worth is what the hold of that sum in a sandbox is worth. -/
noncomputable def Try.pinned : Pinned := { name := "ytonhimbfibjlcaa", sum := "834c467c13bad8ada154b7889385f7e5c6779fd1403137841a31d1eabac4d0fc", checked := Try.checked }
namespace Rows
def none {H : Type} : Left H := { results := [], args := [] }

/-- 'laws.FnRelSets': WHATEVER THE INPUT: true; the input reads as it did. -/
def fnRelSetsSpec : ChangeSpec := { name := "fnRelSets", fn := fun _ => fun
  | [d] => { results := [.lit (.bool true)], args := [d] }
  | _ => none }
def fnRelSetsRow : OpenClaim := { program := "ytonhimbfibjlcaa", sum := "834c467c13bad8ada154b7889385f7e5c6779fd1403137841a31d1eabac4d0fc", func := "loop.example/productprograms/laws.FnRelSets", spec := "fnRelSets", recurses := true, apart := false }
def FnRelSetsSaid : Prop := fnRelSetsRow.holds Try.pinned (OpenSpec.ofChange fnRelSetsSpec)

/-- ITS FALSE NEIGHBOUR: 'it returns false'. Refute it at one input. -/
def fnRelSetsWrong : ChangeSpec := { name := "fnRelSets", fn := fun _ => fun
  | [d] => { results := [.lit (.bool false)], args := [d] }
  | _ => none }
def FnRelSetsWrongFalsely : Prop := fnRelSetsRow.holds Try.pinned (OpenSpec.ofChange fnRelSetsWrong)

/-- 'laws.FnNotRel': WHATEVER THE INPUT: true; the input reads as it did. -/
def fnNotRelSpec : ChangeSpec := { name := "fnNotRel", fn := fun _ => fun
  | [d] => { results := [.lit (.bool true)], args := [d] }
  | _ => none }
def fnNotRelRow : OpenClaim := { program := "ytonhimbfibjlcaa", sum := "834c467c13bad8ada154b7889385f7e5c6779fd1403137841a31d1eabac4d0fc", func := "loop.example/productprograms/laws.FnNotRel", spec := "fnNotRel", recurses := true, apart := false }
def FnNotRelSaid : Prop := fnNotRelRow.holds Try.pinned (OpenSpec.ofChange fnNotRelSpec)

/-- ITS FALSE NEIGHBOUR: 'it returns false'. Refute it at one input. -/
def fnNotRelWrong : ChangeSpec := { name := "fnNotRel", fn := fun _ => fun
  | [d] => { results := [.lit (.bool false)], args := [d] }
  | _ => none }
def FnNotRelWrongFalsely : Prop := fnNotRelRow.holds Try.pinned (OpenSpec.ofChange fnNotRelWrong)

/-- 'laws.FnRelWithin': WHATEVER THE INPUT: true; the input reads as it did. -/
def fnRelWithinSpec : ChangeSpec := { name := "fnRelWithin", fn := fun _ => fun
  | [d] => { results := [.lit (.bool true)], args := [d] }
  | _ => none }
def fnRelWithinRow : OpenClaim := { program := "ytonhimbfibjlcaa", sum := "834c467c13bad8ada154b7889385f7e5c6779fd1403137841a31d1eabac4d0fc", func := "loop.example/productprograms/laws.FnRelWithin", spec := "fnRelWithin", recurses := true, apart := false }
def FnRelWithinSaid : Prop := fnRelWithinRow.holds Try.pinned (OpenSpec.ofChange fnRelWithinSpec)

/-- ITS FALSE NEIGHBOUR: 'it returns false'. Refute it at one input. -/
def fnRelWithinWrong : ChangeSpec := { name := "fnRelWithin", fn := fun _ => fun
  | [d] => { results := [.lit (.bool false)], args := [d] }
  | _ => none }
def FnRelWithinWrongFalsely : Prop := fnRelWithinRow.holds Try.pinned (OpenSpec.ofChange fnRelWithinWrong)

/-- 'laws.FnExactCloseRel': WHATEVER THE INPUT: true; the input reads as it did. -/
def fnExactCloseRelSpec : ChangeSpec := { name := "fnExactCloseRel", fn := fun _ => fun
  | [d] => { results := [.lit (.bool true)], args := [d] }
  | _ => none }
def fnExactCloseRelRow : OpenClaim := { program := "ytonhimbfibjlcaa", sum := "834c467c13bad8ada154b7889385f7e5c6779fd1403137841a31d1eabac4d0fc", func := "loop.example/productprograms/laws.FnExactCloseRel", spec := "fnExactCloseRel", inPlace := ["internal/bytealg.IndexByteString", "internal/bytealg.IndexString"], unfollowed := true, recurses := true, named := ["internal/bytealg.MaxLen"], apart := false }
def FnExactCloseRelSaid : Prop := fnExactCloseRelRow.holds Try.pinned (OpenSpec.ofChange fnExactCloseRelSpec)

/-- ITS FALSE NEIGHBOUR: 'it returns false'. Refute it at one input. -/
def fnExactCloseRelWrong : ChangeSpec := { name := "fnExactCloseRel", fn := fun _ => fun
  | [d] => { results := [.lit (.bool false)], args := [d] }
  | _ => none }
def FnExactCloseRelWrongFalsely : Prop := fnExactCloseRelRow.holds Try.pinned (OpenSpec.ofChange fnExactCloseRelWrong)

/-- 'laws.FnExactIsEquivalence': WHATEVER THE INPUT: true; the input reads as it did. -/
def fnExactIsEquivalenceSpec : ChangeSpec := { name := "fnExactIsEquivalence", fn := fun _ => fun
  | [d] => { results := [.lit (.bool true)], args := [d] }
  | _ => none }
def fnExactIsEquivalenceRow : OpenClaim := { program := "ytonhimbfibjlcaa", sum := "834c467c13bad8ada154b7889385f7e5c6779fd1403137841a31d1eabac4d0fc", func := "loop.example/productprograms/laws.FnExactIsEquivalence", spec := "fnExactIsEquivalence", inPlace := ["internal/bytealg.IndexByteString", "internal/bytealg.IndexString"], unfollowed := true, recurses := true, named := ["internal/bytealg.MaxLen"], apart := false }
def FnExactIsEquivalenceSaid : Prop := fnExactIsEquivalenceRow.holds Try.pinned (OpenSpec.ofChange fnExactIsEquivalenceSpec)

/-- ITS FALSE NEIGHBOUR: 'it returns false'. Refute it at one input. -/
def fnExactIsEquivalenceWrong : ChangeSpec := { name := "fnExactIsEquivalence", fn := fun _ => fun
  | [d] => { results := [.lit (.bool false)], args := [d] }
  | _ => none }
def FnExactIsEquivalenceWrongFalsely : Prop := fnExactIsEquivalenceRow.holds Try.pinned (OpenSpec.ofChange fnExactIsEquivalenceWrong)

/- THE SECOND FORM. 'bulk': how many values and letters a reading holds, each counted each time it is reached (what is shared counts as often as it is met; a slice's spare places count too). A statement '..UptoSaid' is the law's where the arguments, and the package variables that the reading takes, are together of bulk at most 1048576: NARROWER than '..Said'. Prove '..Said' where nothing that the law and all that it calls make is longer than what came in: it says more and counts as full. Else prove '..UptoSaid'. A law counts once. -/
mutual
def uptoBulk {H : Type} : DataW H → Nat
  | .lit (.string bytes) => bytes.length + 1
  | .lit _ => 1
  | .nil => 1
  | .ptr d => uptoBulk d + 1
  | .slice elems spare => uptoBulkAll elems + uptoBulkAll spare + 1
  | .agg parts => uptoBulkAll parts + 1
  | .iface _ d => uptoBulk d + 1
  | .map entries => uptoBulkEntries entries + 1
  | .held _ => 1
def uptoBulkAll {H : Type} : List (DataW H) → Nat
  | [] => 0
  | d :: r => uptoBulk d + uptoBulkAll r
def uptoBulkEntries {H : Type} : List (Lit × DataW H) → Nat
  | [] => 0
  | x :: r => uptoBulkEntry x + uptoBulkEntries r
def uptoBulkEntry {H : Type} : Lit × DataW H → Nat
  | (.string bytes, d) => bytes.length + uptoBulk d + 1
  | (_, d) => uptoBulk d + 1
 end
def uptoSmall : (H : Type) → List (DataW H) → Bool := fun _ ds => decide (uptoBulkAll ds ≤ 1048576)
def OpenSpec.upto (s : _root_.Go.ChangeSpec) : _root_.Go.OpenSpec := { _root_.Go.OpenSpec.ofChange s with cond := some uptoSmall }

/-- 'laws.FnRelSets', WHERE WHAT IT READS IS OF BULK AT MOST 1048576: true; the input reads as it did. -/
def fnRelSetsUptoRow : OpenClaim := { program := "ytonhimbfibjlcaa", sum := "834c467c13bad8ada154b7889385f7e5c6779fd1403137841a31d1eabac4d0fc", func := "loop.example/productprograms/laws.FnRelSets", spec := "fnRelSets", recurses := true, apart := false, narrowed := true }
def FnRelSetsUptoSaid : Prop := fnRelSetsUptoRow.holds Try.pinned (OpenSpec.upto fnRelSetsSpec)

/-- 'laws.FnNotRel', WHERE WHAT IT READS IS OF BULK AT MOST 1048576: true; the input reads as it did. -/
def fnNotRelUptoRow : OpenClaim := { program := "ytonhimbfibjlcaa", sum := "834c467c13bad8ada154b7889385f7e5c6779fd1403137841a31d1eabac4d0fc", func := "loop.example/productprograms/laws.FnNotRel", spec := "fnNotRel", recurses := true, apart := false, narrowed := true }
def FnNotRelUptoSaid : Prop := fnNotRelUptoRow.holds Try.pinned (OpenSpec.upto fnNotRelSpec)

/-- 'laws.FnRelWithin', WHERE WHAT IT READS IS OF BULK AT MOST 1048576: true; the input reads as it did. -/
def fnRelWithinUptoRow : OpenClaim := { program := "ytonhimbfibjlcaa", sum := "834c467c13bad8ada154b7889385f7e5c6779fd1403137841a31d1eabac4d0fc", func := "loop.example/productprograms/laws.FnRelWithin", spec := "fnRelWithin", recurses := true, apart := false, narrowed := true }
def FnRelWithinUptoSaid : Prop := fnRelWithinUptoRow.holds Try.pinned (OpenSpec.upto fnRelWithinSpec)

/-- 'laws.FnExactCloseRel', WHERE WHAT IT READS IS OF BULK AT MOST 1048576: true; the input reads as it did. -/
def fnExactCloseRelUptoRow : OpenClaim := { program := "ytonhimbfibjlcaa", sum := "834c467c13bad8ada154b7889385f7e5c6779fd1403137841a31d1eabac4d0fc", func := "loop.example/productprograms/laws.FnExactCloseRel", spec := "fnExactCloseRel", inPlace := ["internal/bytealg.IndexByteString", "internal/bytealg.IndexString"], unfollowed := true, recurses := true, named := ["internal/bytealg.MaxLen"], apart := false, narrowed := true }
def FnExactCloseRelUptoSaid : Prop := fnExactCloseRelUptoRow.holds Try.pinned (OpenSpec.upto fnExactCloseRelSpec)

/-- 'laws.FnExactIsEquivalence', WHERE WHAT IT READS IS OF BULK AT MOST 1048576: true; the input reads as it did. -/
def fnExactIsEquivalenceUptoRow : OpenClaim := { program := "ytonhimbfibjlcaa", sum := "834c467c13bad8ada154b7889385f7e5c6779fd1403137841a31d1eabac4d0fc", func := "loop.example/productprograms/laws.FnExactIsEquivalence", spec := "fnExactIsEquivalence", inPlace := ["internal/bytealg.IndexByteString", "internal/bytealg.IndexString"], unfollowed := true, recurses := true, named := ["internal/bytealg.MaxLen"], apart := false, narrowed := true }
def FnExactIsEquivalenceUptoSaid : Prop := fnExactIsEquivalenceUptoRow.holds Try.pinned (OpenSpec.upto fnExactIsEquivalenceSpec)

end Rows
end Go.Proofs.Ytonhimbfibjlcaa
