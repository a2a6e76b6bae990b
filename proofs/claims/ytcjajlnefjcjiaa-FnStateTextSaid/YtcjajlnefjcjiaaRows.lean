/-
  No cell of these rows narrows 'for every input' (looked for: loops, veiled, ifaces, maps, wideKeys, modest, calm, conditions, laid).
  DERIVED. THE GIVEN ROWS OF THIS SEAT. 3 by the template 'for every input the law returns true; each argument reads behind the call as it read before'; 0 by the template 'total and deterministic' (their statements: YtcjajlnefjcjiaaTotals.lean).
  GIVEN WITH THE SEED: the statements are not yours to turn. If you find one false, say at which input.
  Laid BY PROGRAM, IN A SANDBOX (cutbox-rows.mjs): the forced cells as the released guide's own fill.sh prints them over the translation bcb81826e727dd5f… (all of the seat's roots in one cut). By AI agents, Wed Nov 11 2026. No macro, syntax, notation, axiom, sorry.
-/
import Derived.Test.YtcjajlnefjcjiaaChecked
import GoSem.Claim
import GoSem.ClaimJoined
import GoSem.ClaimMapViews
import Derived.JoinedTies
import Derived.KernelRfl
namespace Go.Proofs.Ytcjajlnefjcjiaa
/- THE CELL 'sum', in the pinned program and in every row, IS THE sha256 OF THE DUMP (.gsa) THAT YtcjajlnefjcjiaaProg.lean LOADS. Nothing in Lean hashes anything: it is a label: what it is worth is what the hold of that sum in a sandbox is worth. -/
noncomputable def Try.pinned : Pinned := { name := "ytcjajlnefjcjiaa", sum := "bcb81826e727dd5fddc4670a230bd047f44c18c859a55caf33448772977c7f53", checked := Try.checked }
namespace Rows
def none {H : Type} : Left H := { results := [], args := [] }

/-- 'laws.FnSetVar': WHATEVER THE INPUT: true; the input reads as it did. -/
def fnSetVarSpec : ChangeSpec := { name := "fnSetVar", fn := fun _ => fun
  | [d] => { results := [.lit (.bool true)], args := [d] }
  | _ => none }
def fnSetVarRow : OpenClaim := { program := "ytcjajlnefjcjiaa", sum := "bcb81826e727dd5fddc4670a230bd047f44c18c859a55caf33448772977c7f53", func := "loop.example/productprograms/laws.FnSetVar", spec := "fnSetVar", inPlace := ["internal/bytealg.IndexByteString", "internal/bytealg.IndexString"], unfollowed := true, recurses := true, named := ["internal/bytealg.MaxLen"], apart := false }
def FnSetVarSaid : Prop := fnSetVarRow.holds Try.pinned (OpenSpec.ofChange fnSetVarSpec)

/-- ITS FALSE NEIGHBOUR: 'it returns false'. Refute it at one input. -/
def fnSetVarWrong : ChangeSpec := { name := "fnSetVar", fn := fun _ => fun
  | [d] => { results := [.lit (.bool false)], args := [d] }
  | _ => none }
def FnSetVarWrongFalsely : Prop := fnSetVarRow.holds Try.pinned (OpenSpec.ofChange fnSetVarWrong)

/-- 'laws.FnStateNumber': WHATEVER THE INPUT: true; the input reads as it did. -/
def fnStateNumberSpec : ChangeSpec := { name := "fnStateNumber", fn := fun _ => fun
  | [d] => { results := [.lit (.bool true)], args := [d] }
  | _ => none }
def fnStateNumberRow : OpenClaim := { program := "ytcjajlnefjcjiaa", sum := "bcb81826e727dd5fddc4670a230bd047f44c18c859a55caf33448772977c7f53", func := "loop.example/productprograms/laws.FnStateNumber", spec := "fnStateNumber", recurses := true, apart := false }
def FnStateNumberSaid : Prop := fnStateNumberRow.holds Try.pinned (OpenSpec.ofChange fnStateNumberSpec)

/-- ITS FALSE NEIGHBOUR: 'it returns false'. Refute it at one input. -/
def fnStateNumberWrong : ChangeSpec := { name := "fnStateNumber", fn := fun _ => fun
  | [d] => { results := [.lit (.bool false)], args := [d] }
  | _ => none }
def FnStateNumberWrongFalsely : Prop := fnStateNumberRow.holds Try.pinned (OpenSpec.ofChange fnStateNumberWrong)

/-- 'laws.FnStateText': WHATEVER THE INPUT: true; the input reads as it did. -/
def fnStateTextSpec : ChangeSpec := { name := "fnStateText", fn := fun _ => fun
  | [d1, d2] => { results := [.lit (.bool true)], args := [d1, d2] }
  | _ => none }
def fnStateTextRow : OpenClaim := { program := "ytcjajlnefjcjiaa", sum := "bcb81826e727dd5fddc4670a230bd047f44c18c859a55caf33448772977c7f53", func := "loop.example/productprograms/laws.FnStateText", spec := "fnStateText", recurses := true, apart := false }
def FnStateTextSaid : Prop := fnStateTextRow.holds Try.pinned (OpenSpec.ofChange fnStateTextSpec)

/-- ITS FALSE NEIGHBOUR: 'it returns false'. Refute it at one input. -/
def fnStateTextWrong : ChangeSpec := { name := "fnStateText", fn := fun _ => fun
  | [d1, d2] => { results := [.lit (.bool false)], args := [d1, d2] }
  | _ => none }
def FnStateTextWrongFalsely : Prop := fnStateTextRow.holds Try.pinned (OpenSpec.ofChange fnStateTextWrong)

/- THE SECOND FORM. 'bulk': how many values and letters a reading holds, each counted each time it is reached (what is shared counts as often as it is met; a slice's spare places count too). A statement '..UptoSaid' is the law's where the arguments, and the package variables that the reading takes, are together of bulk at most 1048576: NARROWER than '..Said'. Prove '..Said' where nothing that the law and all that it calls make is longer than what came in: it says more and counts as full. Else prove '..UptoSaid'. A law counts once. -/
mutual
def uptoBulk {H : Type} : DataW H → Nat
  | .lit (.string bytes) => bytes.length + 1
  | .lit _ => 1
  | .nil => 1
  | .ptr d => uptoBulk d + 1
  | .slice elems spare => uptoBulkAll elems + uptoBulkAll spare + 1
  | .agg parts => uptoBulkAll parts + 1
  | .iface _ d => uptoBulk d + 1
  | .map entries => uptoBulkEntries entries + 1
  | .held _ => 1
def uptoBulkAll {H : Type} : List (DataW H) → Nat
  | [] => 0
  | d :: r => uptoBulk d + uptoBulkAll r
def uptoBulkEntries {H : Type} : List (Lit × DataW H) → Nat
  | [] => 0
  | x :: r => uptoBulkEntry x + uptoBulkEntries r
def uptoBulkEntry {H : Type} : Lit × DataW H → Nat
  | (.string bytes, d) => bytes.length + uptoBulk d + 1
  | (_, d) => uptoBulk d + 1
 end
def uptoSmall : (H : Type) → List (DataW H) → Bool := fun _ ds => decide (uptoBulkAll ds ≤ 1048576)
def OpenSpec.upto (s : _root_.Go.ChangeSpec) : _root_.Go.OpenSpec := { _root_.Go.OpenSpec.ofChange s with cond := some uptoSmall }

/-- 'laws.FnSetVar', WHERE WHAT IT READS IS OF BULK AT MOST 1048576: true; the input reads as it did. -/
def fnSetVarUptoRow : OpenClaim := { program := "ytcjajlnefjcjiaa", sum := "bcb81826e727dd5fddc4670a230bd047f44c18c859a55caf33448772977c7f53", func := "loop.example/productprograms/laws.FnSetVar", spec := "fnSetVar", inPlace := ["internal/bytealg.IndexByteString", "internal/bytealg.IndexString"], unfollowed := true, recurses := true, named := ["internal/bytealg.MaxLen"], apart := false, narrowed := true }
def FnSetVarUptoSaid : Prop := fnSetVarUptoRow.holds Try.pinned (OpenSpec.upto fnSetVarSpec)

/-- 'laws.FnStateNumber', WHERE WHAT IT READS IS OF BULK AT MOST 1048576: true; the input reads as it did. -/
def fnStateNumberUptoRow : OpenClaim := { program := "ytcjajlnefjcjiaa", sum := "bcb81826e727dd5fddc4670a230bd047f44c18c859a55caf33448772977c7f53", func := "loop.example/productprograms/laws.FnStateNumber", spec := "fnStateNumber", recurses := true, apart := false, narrowed := true }
def FnStateNumberUptoSaid : Prop := fnStateNumberUptoRow.holds Try.pinned (OpenSpec.upto fnStateNumberSpec)

/-- 'laws.FnStateText', WHERE WHAT IT READS IS OF BULK AT MOST 1048576: true; the input reads as it did. -/
def fnStateTextUptoRow : OpenClaim := { program := "ytcjajlnefjcjiaa", sum := "bcb81826e727dd5fddc4670a230bd047f44c18c859a55caf33448772977c7f53", func := "loop.example/productprograms/laws.FnStateText", spec := "fnStateText", recurses := true, apart := false, narrowed := true }
def FnStateTextUptoSaid : Prop := fnStateTextUptoRow.holds Try.pinned (OpenSpec.upto fnStateTextSpec)

end Rows
end Go.Proofs.Ytcjajlnefjcjiaa
