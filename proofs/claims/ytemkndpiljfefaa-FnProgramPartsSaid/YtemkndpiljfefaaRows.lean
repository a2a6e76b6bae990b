/-
  No cell of these rows narrows 'for every input' (looked for: loops, veiled, ifaces, maps, wideKeys, modest, calm, conditions, laid).
  DERIVED. THE GIVEN ROWS OF THIS SEAT. 4 by the template 'for every input the law returns true; each argument reads behind the call as it read before'; 0 by the template 'total and deterministic' (their statements: YtemkndpiljfefaaTotals.lean).
  GIVEN WITH THE SEED: the statements are not yours to turn. If you find one false, say at which input.
  Laid BY PROGRAM, IN A SANDBOX (cutbox-rows.mjs): the forced cells as the released guide's own fill.sh prints them over the translation 38503388c484846d… (all of the seat's roots in one cut). By AI agents, Wed Nov 11 2026. No macro, syntax, notation, axiom, sorry.
-/
import Derived.Test.YtemkndpiljfefaaChecked
import GoSem.Claim
import GoSem.ClaimJoined
import GoSem.ClaimMapViews
import Derived.JoinedTies
import Derived.KernelRfl
namespace Go.Proofs.Ytemkndpiljfefaa
/- THE CELL 'sum', in the pinned program and in every row, IS THE sha256 OF THE DUMP (.gsa) THAT YtemkndpiljfefaaProg.lean LOADS. Nothing in Lean hashes anything: it is a label: what it is worth is what the hold of that sum in a sandbox is worth. -/
noncomputable def Try.pinned : Pinned := { name := "ytemkndpiljfefaa", sum := "38503388c484846d784f3d3ae7134ed17539865389b87331a5cbf867ff6c4ae1", checked := Try.checked }
namespace Rows
def none {H : Type} : Left H := { results := [], args := [] }

/-- 'laws.FnProgramParts': WHATEVER THE INPUT: true; the input reads as it did. -/
def fnProgramPartsSpec : ChangeSpec := { name := "fnProgramParts", fn := fun _ => fun
  | [d] => { results := [.lit (.bool true)], args := [d] }
  | _ => none }
def fnProgramPartsRow : OpenClaim := { program := "ytemkndpiljfefaa", sum := "38503388c484846d784f3d3ae7134ed17539865389b87331a5cbf867ff6c4ae1", func := "loop.example/productprograms/laws.FnProgramParts", spec := "fnProgramParts", unfollowed := true, recurses := true, apart := false }
def FnProgramPartsSaid : Prop := fnProgramPartsRow.holds Try.pinned (OpenSpec.ofChange fnProgramPartsSpec)

/-- ITS FALSE NEIGHBOUR: 'it returns false'. Refute it at one input. -/
def fnProgramPartsWrong : ChangeSpec := { name := "fnProgramParts", fn := fun _ => fun
  | [d] => { results := [.lit (.bool false)], args := [d] }
  | _ => none }
def FnProgramPartsWrongFalsely : Prop := fnProgramPartsRow.holds Try.pinned (OpenSpec.ofChange fnProgramPartsWrong)

/-- 'laws.FnReadsWrites': WHATEVER THE INPUT: true; the input reads as it did. -/
def fnReadsWritesSpec : ChangeSpec := { name := "fnReadsWrites", fn := fun _ => fun
  | [d] => { results := [.lit (.bool true)], args := [d] }
  | _ => none }
def fnReadsWritesRow : OpenClaim := { program := "ytemkndpiljfefaa", sum := "38503388c484846d784f3d3ae7134ed17539865389b87331a5cbf867ff6c4ae1", func := "loop.example/productprograms/laws.FnReadsWrites", spec := "fnReadsWrites", inPlace := ["internal/bytealg.IndexByteString", "internal/bytealg.IndexString"], unfollowed := true, recurses := true, named := ["internal/bytealg.MaxLen"], apart := false }
def FnReadsWritesSaid : Prop := fnReadsWritesRow.holds Try.pinned (OpenSpec.ofChange fnReadsWritesSpec)

/-- ITS FALSE NEIGHBOUR: 'it returns false'. Refute it at one input. -/
def fnReadsWritesWrong : ChangeSpec := { name := "fnReadsWrites", fn := fun _ => fun
  | [d] => { results := [.lit (.bool false)], args := [d] }
  | _ => none }
def FnReadsWritesWrongFalsely : Prop := fnReadsWritesRow.holds Try.pinned (OpenSpec.ofChange fnReadsWritesWrong)

/-- 'laws.FnShowProgram': WHATEVER THE INPUT: true; the input reads as it did. -/
def fnShowProgramSpec : ChangeSpec := { name := "fnShowProgram", fn := fun _ => fun
  | [d] => { results := [.lit (.bool true)], args := [d] }
  | _ => none }
def fnShowProgramRow : OpenClaim := { program := "ytemkndpiljfefaa", sum := "38503388c484846d784f3d3ae7134ed17539865389b87331a5cbf867ff6c4ae1", func := "loop.example/productprograms/laws.FnShowProgram", spec := "fnShowProgram", unfollowed := true, recurses := true, apart := false }
def FnShowProgramSaid : Prop := fnShowProgramRow.holds Try.pinned (OpenSpec.ofChange fnShowProgramSpec)

/-- ITS FALSE NEIGHBOUR: 'it returns false'. Refute it at one input. -/
def fnShowProgramWrong : ChangeSpec := { name := "fnShowProgram", fn := fun _ => fun
  | [d] => { results := [.lit (.bool false)], args := [d] }
  | _ => none }
def FnShowProgramWrongFalsely : Prop := fnShowProgramRow.holds Try.pinned (OpenSpec.ofChange fnShowProgramWrong)

/-- 'laws.FnSwapProgram': WHATEVER THE INPUT: true; the input reads as it did. -/
def fnSwapProgramSpec : ChangeSpec := { name := "fnSwapProgram", fn := fun _ => fun
  | [d] => { results := [.lit (.bool true)], args := [d] }
  | _ => none }
def fnSwapProgramRow : OpenClaim := { program := "ytemkndpiljfefaa", sum := "38503388c484846d784f3d3ae7134ed17539865389b87331a5cbf867ff6c4ae1", func := "loop.example/productprograms/laws.FnSwapProgram", spec := "fnSwapProgram", inPlace := ["internal/bytealg.IndexByteString", "internal/bytealg.IndexString"], unfollowed := true, recurses := true, named := ["internal/bytealg.MaxLen"], apart := false }
def FnSwapProgramSaid : Prop := fnSwapProgramRow.holds Try.pinned (OpenSpec.ofChange fnSwapProgramSpec)

/-- ITS FALSE NEIGHBOUR: 'it returns false'. Refute it at one input. -/
def fnSwapProgramWrong : ChangeSpec := { name := "fnSwapProgram", fn := fun _ => fun
  | [d] => { results := [.lit (.bool false)], args := [d] }
  | _ => none }
def FnSwapProgramWrongFalsely : Prop := fnSwapProgramRow.holds Try.pinned (OpenSpec.ofChange fnSwapProgramWrong)

/- THE SECOND FORM. 'bulk': how many values and letters a reading holds, each counted each time it is reached (what is shared counts as often as it is met; a slice's spare places count too). A statement '..UptoSaid' is the law's where the arguments, and the package variables that the reading takes, are together of bulk at most 1048576: NARROWER than '..Said'. Prove '..Said' where nothing that the law and all that it calls make is longer than what came in: it says more and counts as full. Else prove '..UptoSaid'. A law counts once. -/
mutual
def uptoBulk {H : Type} : DataW H → Nat
  | .lit (.string bytes) => bytes.length + 1
  | .lit _ => 1
  | .nil => 1
  | .ptr d => uptoBulk d + 1
  | .slice elems spare => uptoBulkAll elems + uptoBulkAll spare + 1
  | .agg parts => uptoBulkAll parts + 1
  | .iface _ d => uptoBulk d + 1
  | .map entries => uptoBulkEntries entries + 1
  | .held _ => 1
def uptoBulkAll {H : Type} : List (DataW H) → Nat
  | [] => 0
  | d :: r => uptoBulk d + uptoBulkAll r
def uptoBulkEntries {H : Type} : List (Lit × DataW H) → Nat
  | [] => 0
  | x :: r => uptoBulkEntry x + uptoBulkEntries r
def uptoBulkEntry {H : Type} : Lit × DataW H → Nat
  | (.string bytes, d) => bytes.length + uptoBulk d + 1
  | (_, d) => uptoBulk d + 1
 end
def uptoSmall : (H : Type) → List (DataW H) → Bool := fun _ ds => decide (uptoBulkAll ds ≤ 1048576)
def OpenSpec.upto (s : _root_.Go.ChangeSpec) : _root_.Go.OpenSpec := { _root_.Go.OpenSpec.ofChange s with cond := some uptoSmall }

/-- 'laws.FnProgramParts', WHERE WHAT IT READS IS OF BULK AT MOST 1048576: true; the input reads as it did. -/
def fnProgramPartsUptoRow : OpenClaim := { program := "ytemkndpiljfefaa", sum := "38503388c484846d784f3d3ae7134ed17539865389b87331a5cbf867ff6c4ae1", func := "loop.example/productprograms/laws.FnProgramParts", spec := "fnProgramParts", unfollowed := true, recurses := true, apart := false, narrowed := true }
def FnProgramPartsUptoSaid : Prop := fnProgramPartsUptoRow.holds Try.pinned (OpenSpec.upto fnProgramPartsSpec)

/-- 'laws.FnReadsWrites', WHERE WHAT IT READS IS OF BULK AT MOST 1048576: true; the input reads as it did. -/
def fnReadsWritesUptoRow : OpenClaim := { program := "ytemkndpiljfefaa", sum := "38503388c484846d784f3d3ae7134ed17539865389b87331a5cbf867ff6c4ae1", func := "loop.example/productprograms/laws.FnReadsWrites", spec := "fnReadsWrites", inPlace := ["internal/bytealg.IndexByteString", "internal/bytealg.IndexString"], unfollowed := true, recurses := true, named := ["internal/bytealg.MaxLen"], apart := false, narrowed := true }
def FnReadsWritesUptoSaid : Prop := fnReadsWritesUptoRow.holds Try.pinned (OpenSpec.upto fnReadsWritesSpec)

/-- 'laws.FnShowProgram', WHERE WHAT IT READS IS OF BULK AT MOST 1048576: true; the input reads as it did. -/
def fnShowProgramUptoRow : OpenClaim := { program := "ytemkndpiljfefaa", sum := "38503388c484846d784f3d3ae7134ed17539865389b87331a5cbf867ff6c4ae1", func := "loop.example/productprograms/laws.FnShowProgram", spec := "fnShowProgram", unfollowed := true, recurses := true, apart := false, narrowed := true }
def FnShowProgramUptoSaid : Prop := fnShowProgramUptoRow.holds Try.pinned (OpenSpec.upto fnShowProgramSpec)

/-- 'laws.FnSwapProgram', WHERE WHAT IT READS IS OF BULK AT MOST 1048576: true; the input reads as it did. -/
def fnSwapProgramUptoRow : OpenClaim := { program := "ytemkndpiljfefaa", sum := "38503388c484846d784f3d3ae7134ed17539865389b87331a5cbf867ff6c4ae1", func := "loop.example/productprograms/laws.FnSwapProgram", spec := "fnSwapProgram", inPlace := ["internal/bytealg.IndexByteString", "internal/bytealg.IndexString"], unfollowed := true, recurses := true, named := ["internal/bytealg.MaxLen"], apart := false, narrowed := true }
def FnSwapProgramUptoSaid : Prop := fnSwapProgramUptoRow.holds Try.pinned (OpenSpec.upto fnSwapProgramSpec)

end Rows
end Go.Proofs.Ytemkndpiljfefaa
