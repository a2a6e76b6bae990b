/-
  No cell of these rows narrows 'for every input' (looked for: loops, veiled, ifaces, maps, wideKeys, modest, calm, conditions, laid).
  DERIVED. THE GIVEN ROWS OF THIS SEAT. 10 by the template 'for every input the law returns true; each argument reads behind the call as it read before'; 0 by the template 'total and deterministic' (their statements: YthmghadepimcnaaGreatTotals.lean).
  GIVEN WITH THE SEED: the statements are not yours to turn. If you find one false, say at which input.
  Laid BY PROGRAM, IN A SANDBOX (cutbox-rows.mjs): the forced cells as the released guide's own fill.sh prints them over the translation 0ef90d6ae4d7dc66… (all of the seat's roots in one cut). By AI agents, Wed Nov 11 2026. No macro, syntax, notation, axiom, sorry.
-/
import Derived.Test.YthmghadepimcnaaGreatChecked
import GoSem.Claim
import GoSem.ClaimJoined
import GoSem.ClaimMapViews
import Derived.JoinedTies
import Derived.KernelRfl
namespace Go.Proofs.YthmghadepimcnaaGreat
/- THE CELL 'sum', in the pinned program and in every row, IS THE sha256 OF THE DUMP (.gsa) THAT YthmghadepimcnaaGreatProg.lean LOADS. Nothing in Lean hashes anything: it is a label: what it is worth is what the hold of that sum in a sandbox is worth. -/
noncomputable def Tryz.pinned : Pinned := { name := "ythmghadepimcnaagreat", sum := "0ef90d6ae4d7dc66b44bf088c3d32e91364a4079961824854acd2533ae913cf2", checked := Tryz.checked }
namespace Rows
def none {H : Type} : Left H := { results := [], args := [] }

/-- 'laws.FnWeakestTotal': WHATEVER THE INPUT: true; the input reads as it did. -/
def fnWeakestTotalSpec : ChangeSpec := { name := "fnWeakestTotal", fn := fun _ => fun
  | [d] => { results := [.lit (.bool true)], args := [d] }
  | _ => none }
def fnWeakestTotalRow : OpenClaim := { program := "ythmghadepimcnaagreat", sum := "0ef90d6ae4d7dc66b44bf088c3d32e91364a4079961824854acd2533ae913cf2", func := "loop.example/productprograms/laws.FnWeakestTotal", spec := "fnWeakestTotal", inPlace := ["internal/bytealg.IndexByteString", "internal/bytealg.IndexString"], unfollowed := true, recurses := true, named := ["internal/bytealg.MaxLen"], plainKeys := false, apart := false }
def FnWeakestTotalSaid : Prop := fnWeakestTotalRow.holds Tryz.pinned (OpenSpec.ofChange fnWeakestTotalSpec)

/-- ITS FALSE NEIGHBOUR: 'it returns false'. Refute it at one input. -/
def fnWeakestTotalWrong : ChangeSpec := { name := "fnWeakestTotal", fn := fun _ => fun
  | [d] => { results := [.lit (.bool false)], args := [d] }
  | _ => none }
def FnWeakestTotalWrongFalsely : Prop := fnWeakestTotalRow.holds Tryz.pinned (OpenSpec.ofChange fnWeakestTotalWrong)

/-- 'laws.FnTotal': WHATEVER THE INPUT: true; the input reads as it did. -/
def fnTotalSpec : ChangeSpec := { name := "fnTotal", fn := fun _ => fun
  | [d] => { results := [.lit (.bool true)], args := [d] }
  | _ => none }
def fnTotalRow : OpenClaim := { program := "ythmghadepimcnaagreat", sum := "0ef90d6ae4d7dc66b44bf088c3d32e91364a4079961824854acd2533ae913cf2", func := "loop.example/productprograms/laws.FnTotal", spec := "fnTotal", inPlace := ["internal/bytealg.IndexByteString", "internal/bytealg.IndexString"], unfollowed := true, recurses := true, named := ["internal/bytealg.MaxLen"], plainKeys := false, apart := false }
def FnTotalSaid : Prop := fnTotalRow.holds Tryz.pinned (OpenSpec.ofChange fnTotalSpec)

/-- ITS FALSE NEIGHBOUR: 'it returns false'. Refute it at one input. -/
def fnTotalWrong : ChangeSpec := { name := "fnTotal", fn := fun _ => fun
  | [d] => { results := [.lit (.bool false)], args := [d] }
  | _ => none }
def FnTotalWrongFalsely : Prop := fnTotalRow.holds Tryz.pinned (OpenSpec.ofChange fnTotalWrong)

/-- 'laws.FnConjunctive': WHATEVER THE INPUT: true; the input reads as it did. -/
def fnConjunctiveSpec : ChangeSpec := { name := "fnConjunctive", fn := fun _ => fun
  | [d1, d2] => { results := [.lit (.bool true)], args := [d1, d2] }
  | _ => none }
def fnConjunctiveRow : OpenClaim := { program := "ythmghadepimcnaagreat", sum := "0ef90d6ae4d7dc66b44bf088c3d32e91364a4079961824854acd2533ae913cf2", func := "loop.example/productprograms/laws.FnConjunctive", spec := "fnConjunctive", inPlace := ["internal/bytealg.IndexByteString", "internal/bytealg.IndexString"], unfollowed := true, recurses := true, named := ["internal/bytealg.MaxLen"], plainKeys := false, apart := false }
def FnConjunctiveSaid : Prop := fnConjunctiveRow.holds Tryz.pinned (OpenSpec.ofChange fnConjunctiveSpec)

/-- ITS FALSE NEIGHBOUR: 'it returns false'. Refute it at one input. -/
def fnConjunctiveWrong : ChangeSpec := { name := "fnConjunctive", fn := fun _ => fun
  | [d1, d2] => { results := [.lit (.bool false)], args := [d1, d2] }
  | _ => none }
def FnConjunctiveWrongFalsely : Prop := fnConjunctiveRow.holds Tryz.pinned (OpenSpec.ofChange fnConjunctiveWrong)

/-- 'laws.FnWeakest': WHATEVER THE INPUT: true; the input reads as it did. -/
def fnWeakestSpec : ChangeSpec := { name := "fnWeakest", fn := fun _ => fun
  | [d] => { results := [.lit (.bool true)], args := [d] }
  | _ => none }
def fnWeakestRow : OpenClaim := { program := "ythmghadepimcnaagreat", sum := "0ef90d6ae4d7dc66b44bf088c3d32e91364a4079961824854acd2533ae913cf2", func := "loop.example/productprograms/laws.FnWeakest", spec := "fnWeakest", inPlace := ["internal/bytealg.IndexByteString", "internal/bytealg.IndexString"], unfollowed := true, recurses := true, named := ["internal/bytealg.MaxLen"], plainKeys := false, apart := false }
def FnWeakestSaid : Prop := fnWeakestRow.holds Tryz.pinned (OpenSpec.ofChange fnWeakestSpec)

/-- ITS FALSE NEIGHBOUR: 'it returns false'. Refute it at one input. -/
def fnWeakestWrong : ChangeSpec := { name := "fnWeakest", fn := fun _ => fun
  | [d] => { results := [.lit (.bool false)], args := [d] }
  | _ => none }
def FnWeakestWrongFalsely : Prop := fnWeakestRow.holds Tryz.pinned (OpenSpec.ofChange fnWeakestWrong)

/-- 'laws.FnInvariants': WHATEVER THE INPUT: true; the input reads as it did. -/
def fnInvariantsSpec : ChangeSpec := { name := "fnInvariants", fn := fun _ => fun
  | [d] => { results := [.lit (.bool true)], args := [d] }
  | _ => none }
def fnInvariantsRow : OpenClaim := { program := "ythmghadepimcnaagreat", sum := "0ef90d6ae4d7dc66b44bf088c3d32e91364a4079961824854acd2533ae913cf2", func := "loop.example/productprograms/laws.FnInvariants", spec := "fnInvariants", inPlace := ["internal/bytealg.IndexByteString", "internal/bytealg.IndexString"], unfollowed := true, recurses := true, named := ["internal/bytealg.MaxLen"], plainKeys := false, apart := false }
def FnInvariantsSaid : Prop := fnInvariantsRow.holds Tryz.pinned (OpenSpec.ofChange fnInvariantsSpec)

/-- ITS FALSE NEIGHBOUR: 'it returns false'. Refute it at one input. -/
def fnInvariantsWrong : ChangeSpec := { name := "fnInvariants", fn := fun _ => fun
  | [d] => { results := [.lit (.bool false)], args := [d] }
  | _ => none }
def FnInvariantsWrongFalsely : Prop := fnInvariantsRow.holds Tryz.pinned (OpenSpec.ofChange fnInvariantsWrong)

/-- 'laws.FnStrongest': WHATEVER THE INPUT: true; the input reads as it did. -/
def fnStrongestSpec : ChangeSpec := { name := "fnStrongest", fn := fun _ => fun
  | [d] => { results := [.lit (.bool true)], args := [d] }
  | _ => none }
def fnStrongestRow : OpenClaim := { program := "ythmghadepimcnaagreat", sum := "0ef90d6ae4d7dc66b44bf088c3d32e91364a4079961824854acd2533ae913cf2", func := "loop.example/productprograms/laws.FnStrongest", spec := "fnStrongest", inPlace := ["internal/bytealg.IndexByteString", "internal/bytealg.IndexString"], unfollowed := true, recurses := true, named := ["internal/bytealg.MaxLen"], plainKeys := false, apart := false }
def FnStrongestSaid : Prop := fnStrongestRow.holds Tryz.pinned (OpenSpec.ofChange fnStrongestSpec)

/-- ITS FALSE NEIGHBOUR: 'it returns false'. Refute it at one input. -/
def fnStrongestWrong : ChangeSpec := { name := "fnStrongest", fn := fun _ => fun
  | [d] => { results := [.lit (.bool false)], args := [d] }
  | _ => none }
def FnStrongestWrongFalsely : Prop := fnStrongestRow.holds Tryz.pinned (OpenSpec.ofChange fnStrongestWrong)

/-- 'laws.FnLoopKeeps': WHATEVER THE INPUT: true; the input reads as it did. -/
def fnLoopKeepsSpec : ChangeSpec := { name := "fnLoopKeeps", fn := fun _ => fun
  | [d] => { results := [.lit (.bool true)], args := [d] }
  | _ => none }
def fnLoopKeepsRow : OpenClaim := { program := "ythmghadepimcnaagreat", sum := "0ef90d6ae4d7dc66b44bf088c3d32e91364a4079961824854acd2533ae913cf2", func := "loop.example/productprograms/laws.FnLoopKeeps", spec := "fnLoopKeeps", inPlace := ["internal/bytealg.IndexByteString", "internal/bytealg.IndexString"], unfollowed := true, recurses := true, named := ["internal/bytealg.MaxLen"], plainKeys := false, apart := false }
def FnLoopKeepsSaid : Prop := fnLoopKeepsRow.holds Tryz.pinned (OpenSpec.ofChange fnLoopKeepsSpec)

/-- ITS FALSE NEIGHBOUR: 'it returns false'. Refute it at one input. -/
def fnLoopKeepsWrong : ChangeSpec := { name := "fnLoopKeeps", fn := fun _ => fun
  | [d] => { results := [.lit (.bool false)], args := [d] }
  | _ => none }
def FnLoopKeepsWrongFalsely : Prop := fnLoopKeepsRow.holds Tryz.pinned (OpenSpec.ofChange fnLoopKeepsWrong)

/-- 'laws.FnTripleRules': WHATEVER THE INPUT: true; the input reads as it did. -/
def fnTripleRulesSpec : ChangeSpec := { name := "fnTripleRules", fn := fun _ => fun
  | [d] => { results := [.lit (.bool true)], args := [d] }
  | _ => none }
def fnTripleRulesRow : OpenClaim := { program := "ythmghadepimcnaagreat", sum := "0ef90d6ae4d7dc66b44bf088c3d32e91364a4079961824854acd2533ae913cf2", func := "loop.example/productprograms/laws.FnTripleRules", spec := "fnTripleRules", inPlace := ["internal/bytealg.IndexByteString", "internal/bytealg.IndexString"], unfollowed := true, recurses := true, named := ["internal/bytealg.MaxLen"], plainKeys := false, apart := false }
def FnTripleRulesSaid : Prop := fnTripleRulesRow.holds Tryz.pinned (OpenSpec.ofChange fnTripleRulesSpec)

/-- ITS FALSE NEIGHBOUR: 'it returns false'. Refute it at one input. -/
def fnTripleRulesWrong : ChangeSpec := { name := "fnTripleRules", fn := fun _ => fun
  | [d] => { results := [.lit (.bool false)], args := [d] }
  | _ => none }
def FnTripleRulesWrongFalsely : Prop := fnTripleRulesRow.holds Tryz.pinned (OpenSpec.ofChange fnTripleRulesWrong)

/-- 'laws.FnWeakestFree': WHATEVER THE INPUT: true; the input reads as it did. -/
def fnWeakestFreeSpec : ChangeSpec := { name := "fnWeakestFree", fn := fun _ => fun
  | [d1, d2] => { results := [.lit (.bool true)], args := [d1, d2] }
  | _ => none }
def fnWeakestFreeRow : OpenClaim := { program := "ythmghadepimcnaagreat", sum := "0ef90d6ae4d7dc66b44bf088c3d32e91364a4079961824854acd2533ae913cf2", func := "loop.example/productprograms/laws.FnWeakestFree", spec := "fnWeakestFree", inPlace := ["internal/bytealg.IndexByteString", "internal/bytealg.IndexString"], unfollowed := true, recurses := true, named := ["internal/bytealg.MaxLen"], plainKeys := false, apart := false }
def FnWeakestFreeSaid : Prop := fnWeakestFreeRow.holds Tryz.pinned (OpenSpec.ofChange fnWeakestFreeSpec)

/-- ITS FALSE NEIGHBOUR: 'it returns false'. Refute it at one input. -/
def fnWeakestFreeWrong : ChangeSpec := { name := "fnWeakestFree", fn := fun _ => fun
  | [d1, d2] => { results := [.lit (.bool false)], args := [d1, d2] }
  | _ => none }
def FnWeakestFreeWrongFalsely : Prop := fnWeakestFreeRow.holds Tryz.pinned (OpenSpec.ofChange fnWeakestFreeWrong)

/-- 'laws.FnPostUnion': WHATEVER THE INPUT: true; the input reads as it did. -/
def fnPostUnionSpec : ChangeSpec := { name := "fnPostUnion", fn := fun _ => fun
  | [d1, d2] => { results := [.lit (.bool true)], args := [d1, d2] }
  | _ => none }
def fnPostUnionRow : OpenClaim := { program := "ythmghadepimcnaagreat", sum := "0ef90d6ae4d7dc66b44bf088c3d32e91364a4079961824854acd2533ae913cf2", func := "loop.example/productprograms/laws.FnPostUnion", spec := "fnPostUnion", inPlace := ["internal/bytealg.IndexByteString", "internal/bytealg.IndexString"], unfollowed := true, recurses := true, named := ["internal/bytealg.MaxLen"], plainKeys := false, apart := false }
def FnPostUnionSaid : Prop := fnPostUnionRow.holds Tryz.pinned (OpenSpec.ofChange fnPostUnionSpec)

/-- ITS FALSE NEIGHBOUR: 'it returns false'. Refute it at one input. -/
def fnPostUnionWrong : ChangeSpec := { name := "fnPostUnion", fn := fun _ => fun
  | [d1, d2] => { results := [.lit (.bool false)], args := [d1, d2] }
  | _ => none }
def FnPostUnionWrongFalsely : Prop := fnPostUnionRow.holds Tryz.pinned (OpenSpec.ofChange fnPostUnionWrong)

/- THE SECOND FORM. 'bulk': how many values and letters a reading holds, each counted each time it is reached (what is shared counts as often as it is met; a slice's spare places count too). A statement '..UptoSaid' is the law's where the arguments, and the package variables that the reading takes, are together of bulk at most 1048576: NARROWER than '..Said'. Prove '..Said' where nothing that the law and all that it calls make is longer than what came in: it says more and counts as full. Else prove '..UptoSaid'. A law counts once. -/
mutual
def uptoBulk {H : Type} : DataW H → Nat
  | .lit (.string bytes) => bytes.length + 1
  | .lit _ => 1
  | .nil => 1
  | .ptr d => uptoBulk d + 1
  | .slice elems spare => uptoBulkAll elems + uptoBulkAll spare + 1
  | .agg parts => uptoBulkAll parts + 1
  | .iface _ d => uptoBulk d + 1
  | .map entries => uptoBulkEntries entries + 1
  | .held _ => 1
def uptoBulkAll {H : Type} : List (DataW H) → Nat
  | [] => 0
  | d :: r => uptoBulk d + uptoBulkAll r
def uptoBulkEntries {H : Type} : List (Lit × DataW H) → Nat
  | [] => 0
  | x :: r => uptoBulkEntry x + uptoBulkEntries r
def uptoBulkEntry {H : Type} : Lit × DataW H → Nat
  | (.string bytes, d) => bytes.length + uptoBulk d + 1
  | (_, d) => uptoBulk d + 1
 end
def uptoSmall : (H : Type) → List (DataW H) → Bool := fun _ ds => decide (uptoBulkAll ds ≤ 1048576)
def OpenSpec.upto (s : _root_.Go.ChangeSpec) : _root_.Go.OpenSpec := { _root_.Go.OpenSpec.ofChange s with cond := some uptoSmall }

/-- 'laws.FnWeakestTotal', WHERE WHAT IT READS IS OF BULK AT MOST 1048576: true; the input reads as it did. -/
def fnWeakestTotalUptoRow : OpenClaim := { program := "ythmghadepimcnaagreat", sum := "0ef90d6ae4d7dc66b44bf088c3d32e91364a4079961824854acd2533ae913cf2", func := "loop.example/productprograms/laws.FnWeakestTotal", spec := "fnWeakestTotal", inPlace := ["internal/bytealg.IndexByteString", "internal/bytealg.IndexString"], unfollowed := true, recurses := true, named := ["internal/bytealg.MaxLen"], plainKeys := false, apart := false, narrowed := true }
def FnWeakestTotalUptoSaid : Prop := fnWeakestTotalUptoRow.holds Tryz.pinned (OpenSpec.upto fnWeakestTotalSpec)

/-- 'laws.FnTotal', WHERE WHAT IT READS IS OF BULK AT MOST 1048576: true; the input reads as it did. -/
def fnTotalUptoRow : OpenClaim := { program := "ythmghadepimcnaagreat", sum := "0ef90d6ae4d7dc66b44bf088c3d32e91364a4079961824854acd2533ae913cf2", func := "loop.example/productprograms/laws.FnTotal", spec := "fnTotal", inPlace := ["internal/bytealg.IndexByteString", "internal/bytealg.IndexString"], unfollowed := true, recurses := true, named := ["internal/bytealg.MaxLen"], plainKeys := false, apart := false, narrowed := true }
def FnTotalUptoSaid : Prop := fnTotalUptoRow.holds Tryz.pinned (OpenSpec.upto fnTotalSpec)

/-- 'laws.FnConjunctive', WHERE WHAT IT READS IS OF BULK AT MOST 1048576: true; the input reads as it did. -/
def fnConjunctiveUptoRow : OpenClaim := { program := "ythmghadepimcnaagreat", sum := "0ef90d6ae4d7dc66b44bf088c3d32e91364a4079961824854acd2533ae913cf2", func := "loop.example/productprograms/laws.FnConjunctive", spec := "fnConjunctive", inPlace := ["internal/bytealg.IndexByteString", "internal/bytealg.IndexString"], unfollowed := true, recurses := true, named := ["internal/bytealg.MaxLen"], plainKeys := false, apart := false, narrowed := true }
def FnConjunctiveUptoSaid : Prop := fnConjunctiveUptoRow.holds Tryz.pinned (OpenSpec.upto fnConjunctiveSpec)

/-- 'laws.FnWeakest', WHERE WHAT IT READS IS OF BULK AT MOST 1048576: true; the input reads as it did. -/
def fnWeakestUptoRow : OpenClaim := { program := "ythmghadepimcnaagreat", sum := "0ef90d6ae4d7dc66b44bf088c3d32e91364a4079961824854acd2533ae913cf2", func := "loop.example/productprograms/laws.FnWeakest", spec := "fnWeakest", inPlace := ["internal/bytealg.IndexByteString", "internal/bytealg.IndexString"], unfollowed := true, recurses := true, named := ["internal/bytealg.MaxLen"], plainKeys := false, apart := false, narrowed := true }
def FnWeakestUptoSaid : Prop := fnWeakestUptoRow.holds Tryz.pinned (OpenSpec.upto fnWeakestSpec)

/-- 'laws.FnInvariants', WHERE WHAT IT READS IS OF BULK AT MOST 1048576: true; the input reads as it did. -/
def fnInvariantsUptoRow : OpenClaim := { program := "ythmghadepimcnaagreat", sum := "0ef90d6ae4d7dc66b44bf088c3d32e91364a4079961824854acd2533ae913cf2", func := "loop.example/productprograms/laws.FnInvariants", spec := "fnInvariants", inPlace := ["internal/bytealg.IndexByteString", "internal/bytealg.IndexString"], unfollowed := true, recurses := true, named := ["internal/bytealg.MaxLen"], plainKeys := false, apart := false, narrowed := true }
def FnInvariantsUptoSaid : Prop := fnInvariantsUptoRow.holds Tryz.pinned (OpenSpec.upto fnInvariantsSpec)

/-- 'laws.FnStrongest', WHERE WHAT IT READS IS OF BULK AT MOST 1048576: true; the input reads as it did. -/
def fnStrongestUptoRow : OpenClaim := { program := "ythmghadepimcnaagreat", sum := "0ef90d6ae4d7dc66b44bf088c3d32e91364a4079961824854acd2533ae913cf2", func := "loop.example/productprograms/laws.FnStrongest", spec := "fnStrongest", inPlace := ["internal/bytealg.IndexByteString", "internal/bytealg.IndexString"], unfollowed := true, recurses := true, named := ["internal/bytealg.MaxLen"], plainKeys := false, apart := false, narrowed := true }
def FnStrongestUptoSaid : Prop := fnStrongestUptoRow.holds Tryz.pinned (OpenSpec.upto fnStrongestSpec)

/-- 'laws.FnLoopKeeps', WHERE WHAT IT READS IS OF BULK AT MOST 1048576: true; the input reads as it did. -/
def fnLoopKeepsUptoRow : OpenClaim := { program := "ythmghadepimcnaagreat", sum := "0ef90d6ae4d7dc66b44bf088c3d32e91364a4079961824854acd2533ae913cf2", func := "loop.example/productprograms/laws.FnLoopKeeps", spec := "fnLoopKeeps", inPlace := ["internal/bytealg.IndexByteString", "internal/bytealg.IndexString"], unfollowed := true, recurses := true, named := ["internal/bytealg.MaxLen"], plainKeys := false, apart := false, narrowed := true }
def FnLoopKeepsUptoSaid : Prop := fnLoopKeepsUptoRow.holds Tryz.pinned (OpenSpec.upto fnLoopKeepsSpec)

/-- 'laws.FnTripleRules', WHERE WHAT IT READS IS OF BULK AT MOST 1048576: true; the input reads as it did. -/
def fnTripleRulesUptoRow : OpenClaim := { program := "ythmghadepimcnaagreat", sum := "0ef90d6ae4d7dc66b44bf088c3d32e91364a4079961824854acd2533ae913cf2", func := "loop.example/productprograms/laws.FnTripleRules", spec := "fnTripleRules", inPlace := ["internal/bytealg.IndexByteString", "internal/bytealg.IndexString"], unfollowed := true, recurses := true, named := ["internal/bytealg.MaxLen"], plainKeys := false, apart := false, narrowed := true }
def FnTripleRulesUptoSaid : Prop := fnTripleRulesUptoRow.holds Tryz.pinned (OpenSpec.upto fnTripleRulesSpec)

/-- 'laws.FnWeakestFree', WHERE WHAT IT READS IS OF BULK AT MOST 1048576: true; the input reads as it did. -/
def fnWeakestFreeUptoRow : OpenClaim := { program := "ythmghadepimcnaagreat", sum := "0ef90d6ae4d7dc66b44bf088c3d32e91364a4079961824854acd2533ae913cf2", func := "loop.example/productprograms/laws.FnWeakestFree", spec := "fnWeakestFree", inPlace := ["internal/bytealg.IndexByteString", "internal/bytealg.IndexString"], unfollowed := true, recurses := true, named := ["internal/bytealg.MaxLen"], plainKeys := false, apart := false, narrowed := true }
def FnWeakestFreeUptoSaid : Prop := fnWeakestFreeUptoRow.holds Tryz.pinned (OpenSpec.upto fnWeakestFreeSpec)

/-- 'laws.FnPostUnion', WHERE WHAT IT READS IS OF BULK AT MOST 1048576: true; the input reads as it did. -/
def fnPostUnionUptoRow : OpenClaim := { program := "ythmghadepimcnaagreat", sum := "0ef90d6ae4d7dc66b44bf088c3d32e91364a4079961824854acd2533ae913cf2", func := "loop.example/productprograms/laws.FnPostUnion", spec := "fnPostUnion", inPlace := ["internal/bytealg.IndexByteString", "internal/bytealg.IndexString"], unfollowed := true, recurses := true, named := ["internal/bytealg.MaxLen"], plainKeys := false, apart := false, narrowed := true }
def FnPostUnionUptoSaid : Prop := fnPostUnionUptoRow.holds Tryz.pinned (OpenSpec.upto fnPostUnionSpec)

end Rows
end Go.Proofs.YthmghadepimcnaaGreat
