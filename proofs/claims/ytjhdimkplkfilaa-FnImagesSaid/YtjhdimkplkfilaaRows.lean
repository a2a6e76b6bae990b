/-
  No cell of these rows narrows 'for every input' (looked for: loops, veiled, ifaces, maps, wideKeys, modest, calm, conditions, laid).
  DERIVED. THE GIVEN ROWS OF THIS SEAT. 7 by the template 'for every input the law returns true; each argument reads behind the call as it read before'; 0 by the template 'total and deterministic' (their statements: YtjhdimkplkfilaaTotals.lean).
  GIVEN WITH THE SEED: the statements are not yours to turn. If you find one false, say at which input.
  Laid BY PROGRAM, IN A SANDBOX (cutbox-rows.mjs): the forced cells as the released guide's own fill.sh prints them over the translation 8f2fca71ba601201… (all of the seat's roots in one cut). By AI agents, Wed Nov 11 2026. No macro, syntax, notation, axiom, sorry.
-/
import Derived.Test.YtjhdimkplkfilaaChecked
import GoSem.Claim
import GoSem.ClaimJoined
import GoSem.ClaimMapViews
import Derived.JoinedTies
import Derived.KernelRfl
namespace Go.Proofs.Ytjhdimkplkfilaa
/- THE CELL 'sum', in the pinned program and in every row, IS THE sha256 OF THE DUMP (.gsa) THAT YtjhdimkplkfilaaProg.lean LOADS. Nothing in Lean hashes anything: it is a label: what it is worth is what the hold of that sum in a sandbox is worth. -/
noncomputable def Try.pinned : Pinned := { name := "ytjhdimkplkfilaa", sum := "8f2fca71ba601201c7cf0a8e439fc9c760634114ab8341fd016d27b87ae3576d", checked := Try.checked }
namespace Rows
def none {H : Type} : Left H := { results := [], args := [] }

/-- 'laws.FnRelSets': WHATEVER THE INPUT: true; the input reads as it did. -/
def fnRelSetsSpec : ChangeSpec := { name := "fnRelSets", fn := fun _ => fun
  | [d] => { results := [.lit (.bool true)], args := [d] }
  | _ => none }
def fnRelSetsRow : OpenClaim := { program := "ytjhdimkplkfilaa", sum := "8f2fca71ba601201c7cf0a8e439fc9c760634114ab8341fd016d27b87ae3576d", func := "loop.example/productprograms/laws.FnRelSets", spec := "fnRelSets", recurses := true, apart := false }
def FnRelSetsSaid : Prop := fnRelSetsRow.holds Try.pinned (OpenSpec.ofChange fnRelSetsSpec)

/-- ITS FALSE NEIGHBOUR: 'it returns false'. Refute it at one input. -/
def fnRelSetsWrong : ChangeSpec := { name := "fnRelSets", fn := fun _ => fun
  | [d] => { results := [.lit (.bool false)], args := [d] }
  | _ => none }
def FnRelSetsWrongFalsely : Prop := fnRelSetsRow.holds Try.pinned (OpenSpec.ofChange fnRelSetsWrong)

/-- 'laws.FnNotRel': WHATEVER THE INPUT: true; the input reads as it did. -/
def fnNotRelSpec : ChangeSpec := { name := "fnNotRel", fn := fun _ => fun
  | [d] => { results := [.lit (.bool true)], args := [d] }
  | _ => none }
def fnNotRelRow : OpenClaim := { program := "ytjhdimkplkfilaa", sum := "8f2fca71ba601201c7cf0a8e439fc9c760634114ab8341fd016d27b87ae3576d", func := "loop.example/productprograms/laws.FnNotRel", spec := "fnNotRel", recurses := true, apart := false }
def FnNotRelSaid : Prop := fnNotRelRow.holds Try.pinned (OpenSpec.ofChange fnNotRelSpec)

/-- ITS FALSE NEIGHBOUR: 'it returns false'. Refute it at one input. -/
def fnNotRelWrong : ChangeSpec := { name := "fnNotRel", fn := fun _ => fun
  | [d] => { results := [.lit (.bool false)], args := [d] }
  | _ => none }
def FnNotRelWrongFalsely : Prop := fnNotRelRow.holds Try.pinned (OpenSpec.ofChange fnNotRelWrong)

/-- 'laws.FnRelWithin': WHATEVER THE INPUT: true; the input reads as it did. -/
def fnRelWithinSpec : ChangeSpec := { name := "fnRelWithin", fn := fun _ => fun
  | [d] => { results := [.lit (.bool true)], args := [d] }
  | _ => none }
def fnRelWithinRow : OpenClaim := { program := "ytjhdimkplkfilaa", sum := "8f2fca71ba601201c7cf0a8e439fc9c760634114ab8341fd016d27b87ae3576d", func := "loop.example/productprograms/laws.FnRelWithin", spec := "fnRelWithin", recurses := true, apart := false }
def FnRelWithinSaid : Prop := fnRelWithinRow.holds Try.pinned (OpenSpec.ofChange fnRelWithinSpec)

/-- ITS FALSE NEIGHBOUR: 'it returns false'. Refute it at one input. -/
def fnRelWithinWrong : ChangeSpec := { name := "fnRelWithin", fn := fun _ => fun
  | [d] => { results := [.lit (.bool false)], args := [d] }
  | _ => none }
def FnRelWithinWrongFalsely : Prop := fnRelWithinRow.holds Try.pinned (OpenSpec.ofChange fnRelWithinWrong)

/-- 'laws.FnImages': WHATEVER THE INPUT: true; the input reads as it did. -/
def fnImagesSpec : ChangeSpec := { name := "fnImages", fn := fun _ => fun
  | [d1, d2] => { results := [.lit (.bool true)], args := [d1, d2] }
  | _ => none }
def fnImagesRow : OpenClaim := { program := "ytjhdimkplkfilaa", sum := "8f2fca71ba601201c7cf0a8e439fc9c760634114ab8341fd016d27b87ae3576d", func := "loop.example/productprograms/laws.FnImages", spec := "fnImages", recurses := true, apart := false }
def FnImagesSaid : Prop := fnImagesRow.holds Try.pinned (OpenSpec.ofChange fnImagesSpec)

/-- ITS FALSE NEIGHBOUR: 'it returns false'. Refute it at one input. -/
def fnImagesWrong : ChangeSpec := { name := "fnImages", fn := fun _ => fun
  | [d1, d2] => { results := [.lit (.bool false)], args := [d1, d2] }
  | _ => none }
def FnImagesWrongFalsely : Prop := fnImagesRow.holds Try.pinned (OpenSpec.ofChange fnImagesWrong)

/-- 'laws.FnEquivalence': WHATEVER THE INPUT: true; the input reads as it did. -/
def fnEquivalenceSpec : ChangeSpec := { name := "fnEquivalence", fn := fun _ => fun
  | [d] => { results := [.lit (.bool true)], args := [d] }
  | _ => none }
def fnEquivalenceRow : OpenClaim := { program := "ytjhdimkplkfilaa", sum := "8f2fca71ba601201c7cf0a8e439fc9c760634114ab8341fd016d27b87ae3576d", func := "loop.example/productprograms/laws.FnEquivalence", spec := "fnEquivalence", inPlace := ["internal/bytealg.IndexByteString", "internal/bytealg.IndexString"], unfollowed := true, recurses := true, named := ["internal/bytealg.MaxLen"], apart := false }
def FnEquivalenceSaid : Prop := fnEquivalenceRow.holds Try.pinned (OpenSpec.ofChange fnEquivalenceSpec)

/-- ITS FALSE NEIGHBOUR: 'it returns false'. Refute it at one input. -/
def fnEquivalenceWrong : ChangeSpec := { name := "fnEquivalence", fn := fun _ => fun
  | [d] => { results := [.lit (.bool false)], args := [d] }
  | _ => none }
def FnEquivalenceWrongFalsely : Prop := fnEquivalenceRow.holds Try.pinned (OpenSpec.ofChange fnEquivalenceWrong)

/-- 'laws.FnCompose': WHATEVER THE INPUT: true; the input reads as it did. -/
def fnComposeSpec : ChangeSpec := { name := "fnCompose", fn := fun _ => fun
  | [d1, d2] => { results := [.lit (.bool true)], args := [d1, d2] }
  | _ => none }
def fnComposeRow : OpenClaim := { program := "ytjhdimkplkfilaa", sum := "8f2fca71ba601201c7cf0a8e439fc9c760634114ab8341fd016d27b87ae3576d", func := "loop.example/productprograms/laws.FnCompose", spec := "fnCompose", recurses := true, apart := false }
def FnComposeSaid : Prop := fnComposeRow.holds Try.pinned (OpenSpec.ofChange fnComposeSpec)

/-- ITS FALSE NEIGHBOUR: 'it returns false'. Refute it at one input. -/
def fnComposeWrong : ChangeSpec := { name := "fnCompose", fn := fun _ => fun
  | [d1, d2] => { results := [.lit (.bool false)], args := [d1, d2] }
  | _ => none }
def FnComposeWrongFalsely : Prop := fnComposeRow.holds Try.pinned (OpenSpec.ofChange fnComposeWrong)

/-- 'laws.FnExactAgreeOn': WHATEVER THE INPUT: true; the input reads as it did. -/
def fnExactAgreeOnSpec : ChangeSpec := { name := "fnExactAgreeOn", fn := fun _ => fun
  | [d] => { results := [.lit (.bool true)], args := [d] }
  | _ => none }
def fnExactAgreeOnRow : OpenClaim := { program := "ytjhdimkplkfilaa", sum := "8f2fca71ba601201c7cf0a8e439fc9c760634114ab8341fd016d27b87ae3576d", func := "loop.example/productprograms/laws.FnExactAgreeOn", spec := "fnExactAgreeOn", inPlace := ["internal/bytealg.IndexByteString", "internal/bytealg.IndexString"], unfollowed := true, recurses := true, named := ["internal/bytealg.MaxLen"], apart := false }
def FnExactAgreeOnSaid : Prop := fnExactAgreeOnRow.holds Try.pinned (OpenSpec.ofChange fnExactAgreeOnSpec)

/-- ITS FALSE NEIGHBOUR: 'it returns false'. Refute it at one input. -/
def fnExactAgreeOnWrong : ChangeSpec := { name := "fnExactAgreeOn", fn := fun _ => fun
  | [d] => { results := [.lit (.bool false)], args := [d] }
  | _ => none }
def FnExactAgreeOnWrongFalsely : Prop := fnExactAgreeOnRow.holds Try.pinned (OpenSpec.ofChange fnExactAgreeOnWrong)

/- THE SECOND FORM. 'bulk': how many values and letters a reading holds, each counted each time it is reached (what is shared counts as often as it is met; a slice's spare places count too). A statement '..UptoSaid' is the law's where the arguments, and the package variables that the reading takes, are together of bulk at most 1048576: NARROWER than '..Said'. Prove '..Said' where nothing that the law and all that it calls make is longer than what came in: it says more and counts as full. Else prove '..UptoSaid'. A law counts once. -/
mutual
def uptoBulk {H : Type} : DataW H → Nat
  | .lit (.string bytes) => bytes.length + 1
  | .lit _ => 1
  | .nil => 1
  | .ptr d => uptoBulk d + 1
  | .slice elems spare => uptoBulkAll elems + uptoBulkAll spare + 1
  | .agg parts => uptoBulkAll parts + 1
  | .iface _ d => uptoBulk d + 1
  | .map entries => uptoBulkEntries entries + 1
  | .held _ => 1
def uptoBulkAll {H : Type} : List (DataW H) → Nat
  | [] => 0
  | d :: r => uptoBulk d + uptoBulkAll r
def uptoBulkEntries {H : Type} : List (Lit × DataW H) → Nat
  | [] => 0
  | x :: r => uptoBulkEntry x + uptoBulkEntries r
def uptoBulkEntry {H : Type} : Lit × DataW H → Nat
  | (.string bytes, d) => bytes.length + uptoBulk d + 1
  | (_, d) => uptoBulk d + 1
 end
def uptoSmall : (H : Type) → List (DataW H) → Bool := fun _ ds => decide (uptoBulkAll ds ≤ 1048576)
def OpenSpec.upto (s : _root_.Go.ChangeSpec) : _root_.Go.OpenSpec := { _root_.Go.OpenSpec.ofChange s with cond := some uptoSmall }

/-- 'laws.FnRelSets', WHERE WHAT IT READS IS OF BULK AT MOST 1048576: true; the input reads as it did. -/
def fnRelSetsUptoRow : OpenClaim := { program := "ytjhdimkplkfilaa", sum := "8f2fca71ba601201c7cf0a8e439fc9c760634114ab8341fd016d27b87ae3576d", func := "loop.example/productprograms/laws.FnRelSets", spec := "fnRelSets", recurses := true, apart := false, narrowed := true }
def FnRelSetsUptoSaid : Prop := fnRelSetsUptoRow.holds Try.pinned (OpenSpec.upto fnRelSetsSpec)

/-- 'laws.FnNotRel', WHERE WHAT IT READS IS OF BULK AT MOST 1048576: true; the input reads as it did. -/
def fnNotRelUptoRow : OpenClaim := { program := "ytjhdimkplkfilaa", sum := "8f2fca71ba601201c7cf0a8e439fc9c760634114ab8341fd016d27b87ae3576d", func := "loop.example/productprograms/laws.FnNotRel", spec := "fnNotRel", recurses := true, apart := false, narrowed := true }
def FnNotRelUptoSaid : Prop := fnNotRelUptoRow.holds Try.pinned (OpenSpec.upto fnNotRelSpec)

/-- 'laws.FnRelWithin', WHERE WHAT IT READS IS OF BULK AT MOST 1048576: true; the input reads as it did. -/
def fnRelWithinUptoRow : OpenClaim := { program := "ytjhdimkplkfilaa", sum := "8f2fca71ba601201c7cf0a8e439fc9c760634114ab8341fd016d27b87ae3576d", func := "loop.example/productprograms/laws.FnRelWithin", spec := "fnRelWithin", recurses := true, apart := false, narrowed := true }
def FnRelWithinUptoSaid : Prop := fnRelWithinUptoRow.holds Try.pinned (OpenSpec.upto fnRelWithinSpec)

/-- 'laws.FnImages', WHERE WHAT IT READS IS OF BULK AT MOST 1048576: true; the input reads as it did. -/
def fnImagesUptoRow : OpenClaim := { program := "ytjhdimkplkfilaa", sum := "8f2fca71ba601201c7cf0a8e439fc9c760634114ab8341fd016d27b87ae3576d", func := "loop.example/productprograms/laws.FnImages", spec := "fnImages", recurses := true, apart := false, narrowed := true }
def FnImagesUptoSaid : Prop := fnImagesUptoRow.holds Try.pinned (OpenSpec.upto fnImagesSpec)

/-- 'laws.FnEquivalence', WHERE WHAT IT READS IS OF BULK AT MOST 1048576: true; the input reads as it did. -/
def fnEquivalenceUptoRow : OpenClaim := { program := "ytjhdimkplkfilaa", sum := "8f2fca71ba601201c7cf0a8e439fc9c760634114ab8341fd016d27b87ae3576d", func := "loop.example/productprograms/laws.FnEquivalence", spec := "fnEquivalence", inPlace := ["internal/bytealg.IndexByteString", "internal/bytealg.IndexString"], unfollowed := true, recurses := true, named := ["internal/bytealg.MaxLen"], apart := false, narrowed := true }
def FnEquivalenceUptoSaid : Prop := fnEquivalenceUptoRow.holds Try.pinned (OpenSpec.upto fnEquivalenceSpec)

/-- 'laws.FnCompose', WHERE WHAT IT READS IS OF BULK AT MOST 1048576: true; the input reads as it did. -/
def fnComposeUptoRow : OpenClaim := { program := "ytjhdimkplkfilaa", sum := "8f2fca71ba601201c7cf0a8e439fc9c760634114ab8341fd016d27b87ae3576d", func := "loop.example/productprograms/laws.FnCompose", spec := "fnCompose", recurses := true, apart := false, narrowed := true }
def FnComposeUptoSaid : Prop := fnComposeUptoRow.holds Try.pinned (OpenSpec.upto fnComposeSpec)

/-- 'laws.FnExactAgreeOn', WHERE WHAT IT READS IS OF BULK AT MOST 1048576: true; the input reads as it did. -/
def fnExactAgreeOnUptoRow : OpenClaim := { program := "ytjhdimkplkfilaa", sum := "8f2fca71ba601201c7cf0a8e439fc9c760634114ab8341fd016d27b87ae3576d", func := "loop.example/productprograms/laws.FnExactAgreeOn", spec := "fnExactAgreeOn", inPlace := ["internal/bytealg.IndexByteString", "internal/bytealg.IndexString"], unfollowed := true, recurses := true, named := ["internal/bytealg.MaxLen"], apart := false, narrowed := true }
def FnExactAgreeOnUptoSaid : Prop := fnExactAgreeOnUptoRow.holds Try.pinned (OpenSpec.upto fnExactAgreeOnSpec)

end Rows
end Go.Proofs.Ytjhdimkplkfilaa
