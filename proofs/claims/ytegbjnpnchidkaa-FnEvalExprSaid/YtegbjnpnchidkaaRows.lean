/-
  No cell of these rows narrows 'for every input' (looked for: loops, veiled, ifaces, maps, wideKeys, modest, calm, conditions, laid).
  DERIVED. THE GIVEN ROWS OF THIS SEAT. 5 by the template 'for every input the law returns true; each argument reads behind the call as it read before'; 0 by the template 'total and deterministic' (their statements: YtegbjnpnchidkaaTotals.lean).
  GIVEN WITH THE SEED: the statements are not yours to turn. If you find one false, say at which input.
  Laid BY PROGRAM, IN A SANDBOX (cutbox-rows.mjs): the forced cells as the released guide's own fill.sh prints them over the translation 83fc6c1e215bef6c… (all of the seat's roots in one cut). By AI agents, Wed Nov 11 2026. No macro, syntax, notation, axiom, sorry.
-/
import Derived.Test.YtegbjnpnchidkaaChecked
import GoSem.Claim
import GoSem.ClaimJoined
import GoSem.ClaimMapViews
import Derived.JoinedTies
import Derived.KernelRfl
namespace Go.Proofs.Ytegbjnpnchidkaa
/- THE CELL 'sum', in the pinned program and in every row, IS THE sha256 OF THE DUMP (.gsa) THAT YtegbjnpnchidkaaProg.lean LOADS. Nothing in Lean hashes anything: it is a label: what it is worth is what the hold of that sum in a sandbox is worth. -/
noncomputable def Try.pinned : Pinned := { name := "ytegbjnpnchidkaa", sum := "83fc6c1e215bef6c2840991497e2b800e0a13e4831fa13f6610755a8fc91a7e8", checked := Try.checked }
namespace Rows
def none {H : Type} : Left H := { results := [], args := [] }

/-- 'laws.FnEvalExpr': WHATEVER THE INPUT: true; the input reads as it did. -/
def fnEvalExprSpec : ChangeSpec := { name := "fnEvalExpr", fn := fun _ => fun
  | [d] => { results := [.lit (.bool true)], args := [d] }
  | _ => none }
def fnEvalExprRow : OpenClaim := { program := "ytegbjnpnchidkaa", sum := "83fc6c1e215bef6c2840991497e2b800e0a13e4831fa13f6610755a8fc91a7e8", func := "loop.example/productprograms/laws.FnEvalExpr", spec := "fnEvalExpr", inPlace := ["internal/bytealg.IndexByteString", "internal/bytealg.IndexString"], unfollowed := true, recurses := true, named := ["internal/bytealg.MaxLen"], apart := false }
def FnEvalExprSaid : Prop := fnEvalExprRow.holds Try.pinned (OpenSpec.ofChange fnEvalExprSpec)

/-- ITS FALSE NEIGHBOUR: 'it returns false'. Refute it at one input. -/
def fnEvalExprWrong : ChangeSpec := { name := "fnEvalExpr", fn := fun _ => fun
  | [d] => { results := [.lit (.bool false)], args := [d] }
  | _ => none }
def FnEvalExprWrongFalsely : Prop := fnEvalExprRow.holds Try.pinned (OpenSpec.ofChange fnEvalExprWrong)

/-- 'laws.FnEvalTest': WHATEVER THE INPUT: true; the input reads as it did. -/
def fnEvalTestSpec : ChangeSpec := { name := "fnEvalTest", fn := fun _ => fun
  | [d] => { results := [.lit (.bool true)], args := [d] }
  | _ => none }
def fnEvalTestRow : OpenClaim := { program := "ytegbjnpnchidkaa", sum := "83fc6c1e215bef6c2840991497e2b800e0a13e4831fa13f6610755a8fc91a7e8", func := "loop.example/productprograms/laws.FnEvalTest", spec := "fnEvalTest", inPlace := ["internal/bytealg.IndexByteString", "internal/bytealg.IndexString"], unfollowed := true, recurses := true, named := ["internal/bytealg.MaxLen"], apart := false }
def FnEvalTestSaid : Prop := fnEvalTestRow.holds Try.pinned (OpenSpec.ofChange fnEvalTestSpec)

/-- ITS FALSE NEIGHBOUR: 'it returns false'. Refute it at one input. -/
def fnEvalTestWrong : ChangeSpec := { name := "fnEvalTest", fn := fun _ => fun
  | [d] => { results := [.lit (.bool false)], args := [d] }
  | _ => none }
def FnEvalTestWrongFalsely : Prop := fnEvalTestRow.holds Try.pinned (OpenSpec.ofChange fnEvalTestWrong)

/-- 'laws.FnFoldExpr': WHATEVER THE INPUT: true; the input reads as it did. -/
def fnFoldExprSpec : ChangeSpec := { name := "fnFoldExpr", fn := fun _ => fun
  | [d] => { results := [.lit (.bool true)], args := [d] }
  | _ => none }
def fnFoldExprRow : OpenClaim := { program := "ytegbjnpnchidkaa", sum := "83fc6c1e215bef6c2840991497e2b800e0a13e4831fa13f6610755a8fc91a7e8", func := "loop.example/productprograms/laws.FnFoldExpr", spec := "fnFoldExpr", inPlace := ["internal/bytealg.IndexByteString", "internal/bytealg.IndexString"], unfollowed := true, recurses := true, named := ["internal/bytealg.MaxLen"], apart := false }
def FnFoldExprSaid : Prop := fnFoldExprRow.holds Try.pinned (OpenSpec.ofChange fnFoldExprSpec)

/-- ITS FALSE NEIGHBOUR: 'it returns false'. Refute it at one input. -/
def fnFoldExprWrong : ChangeSpec := { name := "fnFoldExpr", fn := fun _ => fun
  | [d] => { results := [.lit (.bool false)], args := [d] }
  | _ => none }
def FnFoldExprWrongFalsely : Prop := fnFoldExprRow.holds Try.pinned (OpenSpec.ofChange fnFoldExprWrong)

/-- 'laws.FnShow': WHATEVER THE INPUT: true; the input reads as it did. -/
def fnShowSpec : ChangeSpec := { name := "fnShow", fn := fun _ => fun
  | [d1, d2] => { results := [.lit (.bool true)], args := [d1, d2] }
  | _ => none }
def fnShowRow : OpenClaim := { program := "ytegbjnpnchidkaa", sum := "83fc6c1e215bef6c2840991497e2b800e0a13e4831fa13f6610755a8fc91a7e8", func := "loop.example/productprograms/laws.FnShow", spec := "fnShow", unfollowed := true, recurses := true, apart := false }
def FnShowSaid : Prop := fnShowRow.holds Try.pinned (OpenSpec.ofChange fnShowSpec)

/-- ITS FALSE NEIGHBOUR: 'it returns false'. Refute it at one input. -/
def fnShowWrong : ChangeSpec := { name := "fnShow", fn := fun _ => fun
  | [d1, d2] => { results := [.lit (.bool false)], args := [d1, d2] }
  | _ => none }
def FnShowWrongFalsely : Prop := fnShowRow.holds Try.pinned (OpenSpec.ofChange fnShowWrong)

/-- 'laws.FnSetVar': WHATEVER THE INPUT: true; the input reads as it did. -/
def fnSetVarSpec : ChangeSpec := { name := "fnSetVar", fn := fun _ => fun
  | [d] => { results := [.lit (.bool true)], args := [d] }
  | _ => none }
def fnSetVarRow : OpenClaim := { program := "ytegbjnpnchidkaa", sum := "83fc6c1e215bef6c2840991497e2b800e0a13e4831fa13f6610755a8fc91a7e8", func := "loop.example/productprograms/laws.FnSetVar", spec := "fnSetVar", inPlace := ["internal/bytealg.IndexByteString", "internal/bytealg.IndexString"], unfollowed := true, recurses := true, named := ["internal/bytealg.MaxLen"], apart := false }
def FnSetVarSaid : Prop := fnSetVarRow.holds Try.pinned (OpenSpec.ofChange fnSetVarSpec)

/-- ITS FALSE NEIGHBOUR: 'it returns false'. Refute it at one input. -/
def fnSetVarWrong : ChangeSpec := { name := "fnSetVar", fn := fun _ => fun
  | [d] => { results := [.lit (.bool false)], args := [d] }
  | _ => none }
def FnSetVarWrongFalsely : Prop := fnSetVarRow.holds Try.pinned (OpenSpec.ofChange fnSetVarWrong)

/- THE SECOND FORM. 'bulk': how many values and letters a reading holds, each counted each time it is reached (what is shared counts as often as it is met; a slice's spare places count too). A statement '..UptoSaid' is the law's where the arguments, and the package variables that the reading takes, are together of bulk at most 1048576: NARROWER than '..Said'. Prove '..Said' where nothing that the law and all that it calls make is longer than what came in: it says more and counts as full. Else prove '..UptoSaid'. A law counts once. -/
mutual
def uptoBulk {H : Type} : DataW H → Nat
  | .lit (.string bytes) => bytes.length + 1
  | .lit _ => 1
  | .nil => 1
  | .ptr d => uptoBulk d + 1
  | .slice elems spare => uptoBulkAll elems + uptoBulkAll spare + 1
  | .agg parts => uptoBulkAll parts + 1
  | .iface _ d => uptoBulk d + 1
  | .map entries => uptoBulkEntries entries + 1
  | .held _ => 1
def uptoBulkAll {H : Type} : List (DataW H) → Nat
  | [] => 0
  | d :: r => uptoBulk d + uptoBulkAll r
def uptoBulkEntries {H : Type} : List (Lit × DataW H) → Nat
  | [] => 0
  | x :: r => uptoBulkEntry x + uptoBulkEntries r
def uptoBulkEntry {H : Type} : Lit × DataW H → Nat
  | (.string bytes, d) => bytes.length + uptoBulk d + 1
  | (_, d) => uptoBulk d + 1
 end
def uptoSmall : (H : Type) → List (DataW H) → Bool := fun _ ds => decide (uptoBulkAll ds ≤ 1048576)
def OpenSpec.upto (s : _root_.Go.ChangeSpec) : _root_.Go.OpenSpec := { _root_.Go.OpenSpec.ofChange s with cond := some uptoSmall }

/-- 'laws.FnEvalExpr', WHERE WHAT IT READS IS OF BULK AT MOST 1048576: true; the input reads as it did. -/
def fnEvalExprUptoRow : OpenClaim := { program := "ytegbjnpnchidkaa", sum := "83fc6c1e215bef6c2840991497e2b800e0a13e4831fa13f6610755a8fc91a7e8", func := "loop.example/productprograms/laws.FnEvalExpr", spec := "fnEvalExpr", inPlace := ["internal/bytealg.IndexByteString", "internal/bytealg.IndexString"], unfollowed := true, recurses := true, named := ["internal/bytealg.MaxLen"], apart := false, narrowed := true }
def FnEvalExprUptoSaid : Prop := fnEvalExprUptoRow.holds Try.pinned (OpenSpec.upto fnEvalExprSpec)

/-- 'laws.FnEvalTest', WHERE WHAT IT READS IS OF BULK AT MOST 1048576: true; the input reads as it did. -/
def fnEvalTestUptoRow : OpenClaim := { program := "ytegbjnpnchidkaa", sum := "83fc6c1e215bef6c2840991497e2b800e0a13e4831fa13f6610755a8fc91a7e8", func := "loop.example/productprograms/laws.FnEvalTest", spec := "fnEvalTest", inPlace := ["internal/bytealg.IndexByteString", "internal/bytealg.IndexString"], unfollowed := true, recurses := true, named := ["internal/bytealg.MaxLen"], apart := false, narrowed := true }
def FnEvalTestUptoSaid : Prop := fnEvalTestUptoRow.holds Try.pinned (OpenSpec.upto fnEvalTestSpec)

/-- 'laws.FnFoldExpr', WHERE WHAT IT READS IS OF BULK AT MOST 1048576: true; the input reads as it did. -/
def fnFoldExprUptoRow : OpenClaim := { program := "ytegbjnpnchidkaa", sum := "83fc6c1e215bef6c2840991497e2b800e0a13e4831fa13f6610755a8fc91a7e8", func := "loop.example/productprograms/laws.FnFoldExpr", spec := "fnFoldExpr", inPlace := ["internal/bytealg.IndexByteString", "internal/bytealg.IndexString"], unfollowed := true, recurses := true, named := ["internal/bytealg.MaxLen"], apart := false, narrowed := true }
def FnFoldExprUptoSaid : Prop := fnFoldExprUptoRow.holds Try.pinned (OpenSpec.upto fnFoldExprSpec)

/-- 'laws.FnShow', WHERE WHAT IT READS IS OF BULK AT MOST 1048576: true; the input reads as it did. -/
def fnShowUptoRow : OpenClaim := { program := "ytegbjnpnchidkaa", sum := "83fc6c1e215bef6c2840991497e2b800e0a13e4831fa13f6610755a8fc91a7e8", func := "loop.example/productprograms/laws.FnShow", spec := "fnShow", unfollowed := true, recurses := true, apart := false, narrowed := true }
def FnShowUptoSaid : Prop := fnShowUptoRow.holds Try.pinned (OpenSpec.upto fnShowSpec)

/-- 'laws.FnSetVar', WHERE WHAT IT READS IS OF BULK AT MOST 1048576: true; the input reads as it did. -/
def fnSetVarUptoRow : OpenClaim := { program := "ytegbjnpnchidkaa", sum := "83fc6c1e215bef6c2840991497e2b800e0a13e4831fa13f6610755a8fc91a7e8", func := "loop.example/productprograms/laws.FnSetVar", spec := "fnSetVar", inPlace := ["internal/bytealg.IndexByteString", "internal/bytealg.IndexString"], unfollowed := true, recurses := true, named := ["internal/bytealg.MaxLen"], apart := false, narrowed := true }
def FnSetVarUptoSaid : Prop := fnSetVarUptoRow.holds Try.pinned (OpenSpec.upto fnSetVarSpec)

end Rows
end Go.Proofs.Ytegbjnpnchidkaa
