/-
  No cell of these rows narrows 'for every input' (looked for: loops, veiled, ifaces, maps, wideKeys, modest, calm, conditions, laid).
  DERIVED. THE GIVEN ROWS OF THIS SEAT. 13 by the template 'for every input the law returns true; each argument reads behind the call as it read before'; 0 by the template 'total and deterministic' (their statements: YtpodlkmdjighmaaTotals.lean).
  GIVEN WITH THE SEED: the statements are not yours to turn. If you find one false, say at which input.
  Laid BY PROGRAM, IN A SANDBOX (cutbox-rows.mjs): the forced cells as the released guide's own fill.sh prints them over the translation e0912d81b1183477… (all of the seat's roots in one cut). By AI agents, Wed Nov 11 2026. No macro, syntax, notation, axiom, sorry.
-/
import Derived.Test.YtpodlkmdjighmaaChecked
import GoSem.Claim
import GoSem.ClaimJoined
import GoSem.ClaimMapViews
import Derived.JoinedTies
import Derived.KernelRfl
namespace Go.Proofs.Ytpodlkmdjighmaa
/- THE CELL 'sum', in the pinned program and in every row, IS THE sha256 OF THE DUMP (.gsa) THAT YtpodlkmdjighmaaProg.lean LOADS. Nothing in Lean hashes anything: it is a label: what it is worth is what the hold of that sum in a sandbox is worth. -/
noncomputable def Try.pinned : Pinned := { name := "ytpodlkmdjighmaa", sum := "e0912d81b11834772e4fb7492de4c501f5124f5a6c216dcc68957201880b4c10", checked := Try.checked }
namespace Rows
def none {H : Type} : Left H := { results := [], args := [] }

/-- 'laws.FnExactRelValid': WHATEVER THE INPUT: true; the input reads as it did. -/
def fnExactRelValidSpec : ChangeSpec := { name := "fnExactRelValid", fn := fun _ => fun
  | [d] => { results := [.lit (.bool true)], args := [d] }
  | _ => none }
def fnExactRelValidRow : OpenClaim := { program := "ytpodlkmdjighmaa", sum := "e0912d81b11834772e4fb7492de4c501f5124f5a6c216dcc68957201880b4c10", func := "loop.example/productprograms/laws.FnExactRelValid", spec := "fnExactRelValid", apart := false }
def FnExactRelValidSaid : Prop := fnExactRelValidRow.holds Try.pinned (OpenSpec.ofChange fnExactRelValidSpec)

/-- ITS FALSE NEIGHBOUR: 'it returns false'. Refute it at one input. -/
def fnExactRelValidWrong : ChangeSpec := { name := "fnExactRelValid", fn := fun _ => fun
  | [d] => { results := [.lit (.bool false)], args := [d] }
  | _ => none }
def FnExactRelValidWrongFalsely : Prop := fnExactRelValidRow.holds Try.pinned (OpenSpec.ofChange fnExactRelValidWrong)

/-- 'laws.FnExactHasPair': WHATEVER THE INPUT: true; the input reads as it did. -/
def fnExactHasPairSpec : ChangeSpec := { name := "fnExactHasPair", fn := fun _ => fun
  | [d1, d2, d3] => { results := [.lit (.bool true)], args := [d1, d2, d3] }
  | _ => none }
def fnExactHasPairRow : OpenClaim := { program := "ytpodlkmdjighmaa", sum := "e0912d81b11834772e4fb7492de4c501f5124f5a6c216dcc68957201880b4c10", func := "loop.example/productprograms/laws.FnExactHasPair", spec := "fnExactHasPair", apart := false }
def FnExactHasPairSaid : Prop := fnExactHasPairRow.holds Try.pinned (OpenSpec.ofChange fnExactHasPairSpec)

/-- ITS FALSE NEIGHBOUR: 'it returns false'. Refute it at one input. -/
def fnExactHasPairWrong : ChangeSpec := { name := "fnExactHasPair", fn := fun _ => fun
  | [d1, d2, d3] => { results := [.lit (.bool false)], args := [d1, d2, d3] }
  | _ => none }
def FnExactHasPairWrongFalsely : Prop := fnExactHasPairRow.holds Try.pinned (OpenSpec.ofChange fnExactHasPairWrong)

/-- 'laws.FnExactCountRel': WHATEVER THE INPUT: true; the input reads as it did. -/
def fnExactCountRelSpec : ChangeSpec := { name := "fnExactCountRel", fn := fun _ => fun
  | [d] => { results := [.lit (.bool true)], args := [d] }
  | _ => none }
def fnExactCountRelRow : OpenClaim := { program := "ytpodlkmdjighmaa", sum := "e0912d81b11834772e4fb7492de4c501f5124f5a6c216dcc68957201880b4c10", func := "loop.example/productprograms/laws.FnExactCountRel", spec := "fnExactCountRel", apart := false }
def FnExactCountRelSaid : Prop := fnExactCountRelRow.holds Try.pinned (OpenSpec.ofChange fnExactCountRelSpec)

/-- ITS FALSE NEIGHBOUR: 'it returns false'. Refute it at one input. -/
def fnExactCountRelWrong : ChangeSpec := { name := "fnExactCountRel", fn := fun _ => fun
  | [d] => { results := [.lit (.bool false)], args := [d] }
  | _ => none }
def FnExactCountRelWrongFalsely : Prop := fnExactCountRelRow.holds Try.pinned (OpenSpec.ofChange fnExactCountRelWrong)

/-- 'laws.FnExactAndRel': WHATEVER THE INPUT: true; the input reads as it did. -/
def fnExactAndRelSpec : ChangeSpec := { name := "fnExactAndRel", fn := fun _ => fun
  | [d1, d2] => { results := [.lit (.bool true)], args := [d1, d2] }
  | _ => none }
def fnExactAndRelRow : OpenClaim := { program := "ytpodlkmdjighmaa", sum := "e0912d81b11834772e4fb7492de4c501f5124f5a6c216dcc68957201880b4c10", func := "loop.example/productprograms/laws.FnExactAndRel", spec := "fnExactAndRel", apart := false }
def FnExactAndRelSaid : Prop := fnExactAndRelRow.holds Try.pinned (OpenSpec.ofChange fnExactAndRelSpec)

/-- ITS FALSE NEIGHBOUR: 'it returns false'. Refute it at one input. -/
def fnExactAndRelWrong : ChangeSpec := { name := "fnExactAndRel", fn := fun _ => fun
  | [d1, d2] => { results := [.lit (.bool false)], args := [d1, d2] }
  | _ => none }
def FnExactAndRelWrongFalsely : Prop := fnExactAndRelRow.holds Try.pinned (OpenSpec.ofChange fnExactAndRelWrong)

/-- 'laws.FnExactOrRel': WHATEVER THE INPUT: true; the input reads as it did. -/
def fnExactOrRelSpec : ChangeSpec := { name := "fnExactOrRel", fn := fun _ => fun
  | [d1, d2] => { results := [.lit (.bool true)], args := [d1, d2] }
  | _ => none }
def fnExactOrRelRow : OpenClaim := { program := "ytpodlkmdjighmaa", sum := "e0912d81b11834772e4fb7492de4c501f5124f5a6c216dcc68957201880b4c10", func := "loop.example/productprograms/laws.FnExactOrRel", spec := "fnExactOrRel", apart := false }
def FnExactOrRelSaid : Prop := fnExactOrRelRow.holds Try.pinned (OpenSpec.ofChange fnExactOrRelSpec)

/-- ITS FALSE NEIGHBOUR: 'it returns false'. Refute it at one input. -/
def fnExactOrRelWrong : ChangeSpec := { name := "fnExactOrRel", fn := fun _ => fun
  | [d1, d2] => { results := [.lit (.bool false)], args := [d1, d2] }
  | _ => none }
def FnExactOrRelWrongFalsely : Prop := fnExactOrRelRow.holds Try.pinned (OpenSpec.ofChange fnExactOrRelWrong)

/-- 'laws.FnExactNotRel': WHATEVER THE INPUT: true; the input reads as it did. -/
def fnExactNotRelSpec : ChangeSpec := { name := "fnExactNotRel", fn := fun _ => fun
  | [d] => { results := [.lit (.bool true)], args := [d] }
  | _ => none }
def fnExactNotRelRow : OpenClaim := { program := "ytpodlkmdjighmaa", sum := "e0912d81b11834772e4fb7492de4c501f5124f5a6c216dcc68957201880b4c10", func := "loop.example/productprograms/laws.FnExactNotRel", spec := "fnExactNotRel", apart := false }
def FnExactNotRelSaid : Prop := fnExactNotRelRow.holds Try.pinned (OpenSpec.ofChange fnExactNotRelSpec)

/-- ITS FALSE NEIGHBOUR: 'it returns false'. Refute it at one input. -/
def fnExactNotRelWrong : ChangeSpec := { name := "fnExactNotRel", fn := fun _ => fun
  | [d] => { results := [.lit (.bool false)], args := [d] }
  | _ => none }
def FnExactNotRelWrongFalsely : Prop := fnExactNotRelRow.holds Try.pinned (OpenSpec.ofChange fnExactNotRelWrong)

/-- 'laws.FnExactRelWithin': WHATEVER THE INPUT: true; the input reads as it did. -/
def fnExactRelWithinSpec : ChangeSpec := { name := "fnExactRelWithin", fn := fun _ => fun
  | [d1, d2] => { results := [.lit (.bool true)], args := [d1, d2] }
  | _ => none }
def fnExactRelWithinRow : OpenClaim := { program := "ytpodlkmdjighmaa", sum := "e0912d81b11834772e4fb7492de4c501f5124f5a6c216dcc68957201880b4c10", func := "loop.example/productprograms/laws.FnExactRelWithin", spec := "fnExactRelWithin", apart := false }
def FnExactRelWithinSaid : Prop := fnExactRelWithinRow.holds Try.pinned (OpenSpec.ofChange fnExactRelWithinSpec)

/-- ITS FALSE NEIGHBOUR: 'it returns false'. Refute it at one input. -/
def fnExactRelWithinWrong : ChangeSpec := { name := "fnExactRelWithin", fn := fun _ => fun
  | [d1, d2] => { results := [.lit (.bool false)], args := [d1, d2] }
  | _ => none }
def FnExactRelWithinWrongFalsely : Prop := fnExactRelWithinRow.holds Try.pinned (OpenSpec.ofChange fnExactRelWithinWrong)

/-- 'laws.FnExactTurnRel': WHATEVER THE INPUT: true; the input reads as it did. -/
def fnExactTurnRelSpec : ChangeSpec := { name := "fnExactTurnRel", fn := fun _ => fun
  | [d] => { results := [.lit (.bool true)], args := [d] }
  | _ => none }
def fnExactTurnRelRow : OpenClaim := { program := "ytpodlkmdjighmaa", sum := "e0912d81b11834772e4fb7492de4c501f5124f5a6c216dcc68957201880b4c10", func := "loop.example/productprograms/laws.FnExactTurnRel", spec := "fnExactTurnRel", apart := false }
def FnExactTurnRelSaid : Prop := fnExactTurnRelRow.holds Try.pinned (OpenSpec.ofChange fnExactTurnRelSpec)

/-- ITS FALSE NEIGHBOUR: 'it returns false'. Refute it at one input. -/
def fnExactTurnRelWrong : ChangeSpec := { name := "fnExactTurnRel", fn := fun _ => fun
  | [d] => { results := [.lit (.bool false)], args := [d] }
  | _ => none }
def FnExactTurnRelWrongFalsely : Prop := fnExactTurnRelRow.holds Try.pinned (OpenSpec.ofChange fnExactTurnRelWrong)

/-- 'laws.FnExactComposeRel': WHATEVER THE INPUT: true; the input reads as it did. -/
def fnExactComposeRelSpec : ChangeSpec := { name := "fnExactComposeRel", fn := fun _ => fun
  | [d1, d2] => { results := [.lit (.bool true)], args := [d1, d2] }
  | _ => none }
def fnExactComposeRelRow : OpenClaim := { program := "ytpodlkmdjighmaa", sum := "e0912d81b11834772e4fb7492de4c501f5124f5a6c216dcc68957201880b4c10", func := "loop.example/productprograms/laws.FnExactComposeRel", spec := "fnExactComposeRel", apart := false }
def FnExactComposeRelSaid : Prop := fnExactComposeRelRow.holds Try.pinned (OpenSpec.ofChange fnExactComposeRelSpec)

/-- ITS FALSE NEIGHBOUR: 'it returns false'. Refute it at one input. -/
def fnExactComposeRelWrong : ChangeSpec := { name := "fnExactComposeRel", fn := fun _ => fun
  | [d1, d2] => { results := [.lit (.bool false)], args := [d1, d2] }
  | _ => none }
def FnExactComposeRelWrongFalsely : Prop := fnExactComposeRelRow.holds Try.pinned (OpenSpec.ofChange fnExactComposeRelWrong)

/-- 'laws.FnExactImageOf': WHATEVER THE INPUT: true; the input reads as it did. -/
def fnExactImageOfSpec : ChangeSpec := { name := "fnExactImageOf", fn := fun _ => fun
  | [d1, d2] => { results := [.lit (.bool true)], args := [d1, d2] }
  | _ => none }
def fnExactImageOfRow : OpenClaim := { program := "ytpodlkmdjighmaa", sum := "e0912d81b11834772e4fb7492de4c501f5124f5a6c216dcc68957201880b4c10", func := "loop.example/productprograms/laws.FnExactImageOf", spec := "fnExactImageOf", apart := false }
def FnExactImageOfSaid : Prop := fnExactImageOfRow.holds Try.pinned (OpenSpec.ofChange fnExactImageOfSpec)

/-- ITS FALSE NEIGHBOUR: 'it returns false'. Refute it at one input. -/
def fnExactImageOfWrong : ChangeSpec := { name := "fnExactImageOf", fn := fun _ => fun
  | [d1, d2] => { results := [.lit (.bool false)], args := [d1, d2] }
  | _ => none }
def FnExactImageOfWrongFalsely : Prop := fnExactImageOfRow.holds Try.pinned (OpenSpec.ofChange fnExactImageOfWrong)

/-- 'laws.FnExactShadowOf': WHATEVER THE INPUT: true; the input reads as it did. -/
def fnExactShadowOfSpec : ChangeSpec := { name := "fnExactShadowOf", fn := fun _ => fun
  | [d1, d2] => { results := [.lit (.bool true)], args := [d1, d2] }
  | _ => none }
def fnExactShadowOfRow : OpenClaim := { program := "ytpodlkmdjighmaa", sum := "e0912d81b11834772e4fb7492de4c501f5124f5a6c216dcc68957201880b4c10", func := "loop.example/productprograms/laws.FnExactShadowOf", spec := "fnExactShadowOf", apart := false }
def FnExactShadowOfSaid : Prop := fnExactShadowOfRow.holds Try.pinned (OpenSpec.ofChange fnExactShadowOfSpec)

/-- ITS FALSE NEIGHBOUR: 'it returns false'. Refute it at one input. -/
def fnExactShadowOfWrong : ChangeSpec := { name := "fnExactShadowOf", fn := fun _ => fun
  | [d1, d2] => { results := [.lit (.bool false)], args := [d1, d2] }
  | _ => none }
def FnExactShadowOfWrongFalsely : Prop := fnExactShadowOfRow.holds Try.pinned (OpenSpec.ofChange fnExactShadowOfWrong)

/-- 'laws.FnExactCloseRel': WHATEVER THE INPUT: true; the input reads as it did. -/
def fnExactCloseRelSpec : ChangeSpec := { name := "fnExactCloseRel", fn := fun _ => fun
  | [d] => { results := [.lit (.bool true)], args := [d] }
  | _ => none }
def fnExactCloseRelRow : OpenClaim := { program := "ytpodlkmdjighmaa", sum := "e0912d81b11834772e4fb7492de4c501f5124f5a6c216dcc68957201880b4c10", func := "loop.example/productprograms/laws.FnExactCloseRel", spec := "fnExactCloseRel", inPlace := ["internal/bytealg.IndexByteString", "internal/bytealg.IndexString"], unfollowed := true, recurses := true, named := ["internal/bytealg.MaxLen"], apart := false }
def FnExactCloseRelSaid : Prop := fnExactCloseRelRow.holds Try.pinned (OpenSpec.ofChange fnExactCloseRelSpec)

/-- ITS FALSE NEIGHBOUR: 'it returns false'. Refute it at one input. -/
def fnExactCloseRelWrong : ChangeSpec := { name := "fnExactCloseRel", fn := fun _ => fun
  | [d] => { results := [.lit (.bool false)], args := [d] }
  | _ => none }
def FnExactCloseRelWrongFalsely : Prop := fnExactCloseRelRow.holds Try.pinned (OpenSpec.ofChange fnExactCloseRelWrong)

/-- 'laws.FnExactIsEquivalence': WHATEVER THE INPUT: true; the input reads as it did. -/
def fnExactIsEquivalenceSpec : ChangeSpec := { name := "fnExactIsEquivalence", fn := fun _ => fun
  | [d] => { results := [.lit (.bool true)], args := [d] }
  | _ => none }
def fnExactIsEquivalenceRow : OpenClaim := { program := "ytpodlkmdjighmaa", sum := "e0912d81b11834772e4fb7492de4c501f5124f5a6c216dcc68957201880b4c10", func := "loop.example/productprograms/laws.FnExactIsEquivalence", spec := "fnExactIsEquivalence", inPlace := ["internal/bytealg.IndexByteString", "internal/bytealg.IndexString"], unfollowed := true, recurses := true, named := ["internal/bytealg.MaxLen"], apart := false }
def FnExactIsEquivalenceSaid : Prop := fnExactIsEquivalenceRow.holds Try.pinned (OpenSpec.ofChange fnExactIsEquivalenceSpec)

/-- ITS FALSE NEIGHBOUR: 'it returns false'. Refute it at one input. -/
def fnExactIsEquivalenceWrong : ChangeSpec := { name := "fnExactIsEquivalence", fn := fun _ => fun
  | [d] => { results := [.lit (.bool false)], args := [d] }
  | _ => none }
def FnExactIsEquivalenceWrongFalsely : Prop := fnExactIsEquivalenceRow.holds Try.pinned (OpenSpec.ofChange fnExactIsEquivalenceWrong)

/- THE SECOND FORM. 'bulk': how many values and letters a reading holds, each counted each time it is reached (what is shared counts as often as it is met; a slice's spare places count too). A statement '..UptoSaid' is the law's where the arguments, and the package variables that the reading takes, are together of bulk at most 1048576: NARROWER than '..Said'. Prove '..Said' where nothing that the law and all that it calls make is longer than what came in: it says more and counts as full. Else prove '..UptoSaid'. A law counts once. -/
mutual
def uptoBulk {H : Type} : DataW H → Nat
  | .lit (.string bytes) => bytes.length + 1
  | .lit _ => 1
  | .nil => 1
  | .ptr d => uptoBulk d + 1
  | .slice elems spare => uptoBulkAll elems + uptoBulkAll spare + 1
  | .agg parts => uptoBulkAll parts + 1
  | .iface _ d => uptoBulk d + 1
  | .map entries => uptoBulkEntries entries + 1
  | .held _ => 1
def uptoBulkAll {H : Type} : List (DataW H) → Nat
  | [] => 0
  | d :: r => uptoBulk d + uptoBulkAll r
def uptoBulkEntries {H : Type} : List (Lit × DataW H) → Nat
  | [] => 0
  | x :: r => uptoBulkEntry x + uptoBulkEntries r
def uptoBulkEntry {H : Type} : Lit × DataW H → Nat
  | (.string bytes, d) => bytes.length + uptoBulk d + 1
  | (_, d) => uptoBulk d + 1
 end
def uptoSmall : (H : Type) → List (DataW H) → Bool := fun _ ds => decide (uptoBulkAll ds ≤ 1048576)
def OpenSpec.upto (s : _root_.Go.ChangeSpec) : _root_.Go.OpenSpec := { _root_.Go.OpenSpec.ofChange s with cond := some uptoSmall }

/-- 'laws.FnExactRelValid', WHERE WHAT IT READS IS OF BULK AT MOST 1048576: true; the input reads as it did. -/
def fnExactRelValidUptoRow : OpenClaim := { program := "ytpodlkmdjighmaa", sum := "e0912d81b11834772e4fb7492de4c501f5124f5a6c216dcc68957201880b4c10", func := "loop.example/productprograms/laws.FnExactRelValid", spec := "fnExactRelValid", apart := false, narrowed := true }
def FnExactRelValidUptoSaid : Prop := fnExactRelValidUptoRow.holds Try.pinned (OpenSpec.upto fnExactRelValidSpec)

/-- 'laws.FnExactHasPair', WHERE WHAT IT READS IS OF BULK AT MOST 1048576: true; the input reads as it did. -/
def fnExactHasPairUptoRow : OpenClaim := { program := "ytpodlkmdjighmaa", sum := "e0912d81b11834772e4fb7492de4c501f5124f5a6c216dcc68957201880b4c10", func := "loop.example/productprograms/laws.FnExactHasPair", spec := "fnExactHasPair", apart := false, narrowed := true }
def FnExactHasPairUptoSaid : Prop := fnExactHasPairUptoRow.holds Try.pinned (OpenSpec.upto fnExactHasPairSpec)

/-- 'laws.FnExactCountRel', WHERE WHAT IT READS IS OF BULK AT MOST 1048576: true; the input reads as it did. -/
def fnExactCountRelUptoRow : OpenClaim := { program := "ytpodlkmdjighmaa", sum := "e0912d81b11834772e4fb7492de4c501f5124f5a6c216dcc68957201880b4c10", func := "loop.example/productprograms/laws.FnExactCountRel", spec := "fnExactCountRel", apart := false, narrowed := true }
def FnExactCountRelUptoSaid : Prop := fnExactCountRelUptoRow.holds Try.pinned (OpenSpec.upto fnExactCountRelSpec)

/-- 'laws.FnExactAndRel', WHERE WHAT IT READS IS OF BULK AT MOST 1048576: true; the input reads as it did. -/
def fnExactAndRelUptoRow : OpenClaim := { program := "ytpodlkmdjighmaa", sum := "e0912d81b11834772e4fb7492de4c501f5124f5a6c216dcc68957201880b4c10", func := "loop.example/productprograms/laws.FnExactAndRel", spec := "fnExactAndRel", apart := false, narrowed := true }
def FnExactAndRelUptoSaid : Prop := fnExactAndRelUptoRow.holds Try.pinned (OpenSpec.upto fnExactAndRelSpec)

/-- 'laws.FnExactOrRel', WHERE WHAT IT READS IS OF BULK AT MOST 1048576: true; the input reads as it did. -/
def fnExactOrRelUptoRow : OpenClaim := { program := "ytpodlkmdjighmaa", sum := "e0912d81b11834772e4fb7492de4c501f5124f5a6c216dcc68957201880b4c10", func := "loop.example/productprograms/laws.FnExactOrRel", spec := "fnExactOrRel", apart := false, narrowed := true }
def FnExactOrRelUptoSaid : Prop := fnExactOrRelUptoRow.holds Try.pinned (OpenSpec.upto fnExactOrRelSpec)

/-- 'laws.FnExactNotRel', WHERE WHAT IT READS IS OF BULK AT MOST 1048576: true; the input reads as it did. -/
def fnExactNotRelUptoRow : OpenClaim := { program := "ytpodlkmdjighmaa", sum := "e0912d81b11834772e4fb7492de4c501f5124f5a6c216dcc68957201880b4c10", func := "loop.example/productprograms/laws.FnExactNotRel", spec := "fnExactNotRel", apart := false, narrowed := true }
def FnExactNotRelUptoSaid : Prop := fnExactNotRelUptoRow.holds Try.pinned (OpenSpec.upto fnExactNotRelSpec)

/-- 'laws.FnExactRelWithin', WHERE WHAT IT READS IS OF BULK AT MOST 1048576: true; the input reads as it did. -/
def fnExactRelWithinUptoRow : OpenClaim := { program := "ytpodlkmdjighmaa", sum := "e0912d81b11834772e4fb7492de4c501f5124f5a6c216dcc68957201880b4c10", func := "loop.example/productprograms/laws.FnExactRelWithin", spec := "fnExactRelWithin", apart := false, narrowed := true }
def FnExactRelWithinUptoSaid : Prop := fnExactRelWithinUptoRow.holds Try.pinned (OpenSpec.upto fnExactRelWithinSpec)

/-- 'laws.FnExactTurnRel', WHERE WHAT IT READS IS OF BULK AT MOST 1048576: true; the input reads as it did. -/
def fnExactTurnRelUptoRow : OpenClaim := { program := "ytpodlkmdjighmaa", sum := "e0912d81b11834772e4fb7492de4c501f5124f5a6c216dcc68957201880b4c10", func := "loop.example/productprograms/laws.FnExactTurnRel", spec := "fnExactTurnRel", apart := false, narrowed := true }
def FnExactTurnRelUptoSaid : Prop := fnExactTurnRelUptoRow.holds Try.pinned (OpenSpec.upto fnExactTurnRelSpec)

/-- 'laws.FnExactComposeRel', WHERE WHAT IT READS IS OF BULK AT MOST 1048576: true; the input reads as it did. -/
def fnExactComposeRelUptoRow : OpenClaim := { program := "ytpodlkmdjighmaa", sum := "e0912d81b11834772e4fb7492de4c501f5124f5a6c216dcc68957201880b4c10", func := "loop.example/productprograms/laws.FnExactComposeRel", spec := "fnExactComposeRel", apart := false, narrowed := true }
def FnExactComposeRelUptoSaid : Prop := fnExactComposeRelUptoRow.holds Try.pinned (OpenSpec.upto fnExactComposeRelSpec)

/-- 'laws.FnExactImageOf', WHERE WHAT IT READS IS OF BULK AT MOST 1048576: true; the input reads as it did. -/
def fnExactImageOfUptoRow : OpenClaim := { program := "ytpodlkmdjighmaa", sum := "e0912d81b11834772e4fb7492de4c501f5124f5a6c216dcc68957201880b4c10", func := "loop.example/productprograms/laws.FnExactImageOf", spec := "fnExactImageOf", apart := false, narrowed := true }
def FnExactImageOfUptoSaid : Prop := fnExactImageOfUptoRow.holds Try.pinned (OpenSpec.upto fnExactImageOfSpec)

/-- 'laws.FnExactShadowOf', WHERE WHAT IT READS IS OF BULK AT MOST 1048576: true; the input reads as it did. -/
def fnExactShadowOfUptoRow : OpenClaim := { program := "ytpodlkmdjighmaa", sum := "e0912d81b11834772e4fb7492de4c501f5124f5a6c216dcc68957201880b4c10", func := "loop.example/productprograms/laws.FnExactShadowOf", spec := "fnExactShadowOf", apart := false, narrowed := true }
def FnExactShadowOfUptoSaid : Prop := fnExactShadowOfUptoRow.holds Try.pinned (OpenSpec.upto fnExactShadowOfSpec)

/-- 'laws.FnExactCloseRel', WHERE WHAT IT READS IS OF BULK AT MOST 1048576: true; the input reads as it did. -/
def fnExactCloseRelUptoRow : OpenClaim := { program := "ytpodlkmdjighmaa", sum := "e0912d81b11834772e4fb7492de4c501f5124f5a6c216dcc68957201880b4c10", func := "loop.example/productprograms/laws.FnExactCloseRel", spec := "fnExactCloseRel", inPlace := ["internal/bytealg.IndexByteString", "internal/bytealg.IndexString"], unfollowed := true, recurses := true, named := ["internal/bytealg.MaxLen"], apart := false, narrowed := true }
def FnExactCloseRelUptoSaid : Prop := fnExactCloseRelUptoRow.holds Try.pinned (OpenSpec.upto fnExactCloseRelSpec)

/-- 'laws.FnExactIsEquivalence', WHERE WHAT IT READS IS OF BULK AT MOST 1048576: true; the input reads as it did. -/
def fnExactIsEquivalenceUptoRow : OpenClaim := { program := "ytpodlkmdjighmaa", sum := "e0912d81b11834772e4fb7492de4c501f5124f5a6c216dcc68957201880b4c10", func := "loop.example/productprograms/laws.FnExactIsEquivalence", spec := "fnExactIsEquivalence", inPlace := ["internal/bytealg.IndexByteString", "internal/bytealg.IndexString"], unfollowed := true, recurses := true, named := ["internal/bytealg.MaxLen"], apart := false, narrowed := true }
def FnExactIsEquivalenceUptoSaid : Prop := fnExactIsEquivalenceUptoRow.holds Try.pinned (OpenSpec.upto fnExactIsEquivalenceSpec)

end Rows
end Go.Proofs.Ytpodlkmdjighmaa
