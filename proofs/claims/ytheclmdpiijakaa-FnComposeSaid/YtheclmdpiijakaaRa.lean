/-
  The states to which a relation of the model leads from a set: l4Post.
-/
import Derived.Test.YtheclmdpiijakaaTopM
import Derived.Test.YtheclmdpiijakaaTopG
import Derived.Test.YtheclmdpiijakaaRs
import Derived.Test.YtheclmdpiijakaaRe
namespace Go.Proofs.Ytheclmdpiijakaa
open Go.RowKit Go.Great

set_option maxRecDepth 100000 in
set_option maxHeartbeats 4000000 in
theorem built_to (T : Nat → Nat → Bool) : Try.prog.built 97 [(0, .agg (relC .i64 T))] = some (allC T noS noS) := by
  unfold allC relC
  rw [nb_zero 27 (F := noS) fun _ _ => rfl]
  simp only [List.range, List.range.loop, List.map_cons, List.map_nil]
  generalize nb 27 (T 0) = a0
  generalize nb 27 (T 1) = a1
  generalize nb 27 (T 2) = a2
  generalize nb 27 (T 3) = a3
  generalize nb 27 (T 4) = a4
  generalize nb 27 (T 5) = a5
  generalize nb 27 (T 6) = a6
  generalize nb 27 (T 7) = a7
  generalize nb 27 (T 8) = a8
  generalize nb 27 (T 9) = a9
  generalize nb 27 (T 10) = a10
  generalize nb 27 (T 11) = a11
  generalize nb 27 (T 12) = a12
  generalize nb 27 (T 13) = a13
  generalize nb 27 (T 14) = a14
  generalize nb 27 (T 15) = a15
  generalize nb 27 (T 16) = a16
  generalize nb 27 (T 17) = a17
  generalize nb 27 (T 18) = a18
  generalize nb 27 (T 19) = a19
  generalize nb 27 (T 20) = a20
  generalize nb 27 (T 21) = a21
  generalize nb 27 (T 22) = a22
  generalize nb 27 (T 23) = a23
  generalize nb 27 (T 24) = a24
  generalize nb 27 (T 25) = a25
  generalize nb 27 (T 26) = a26
  kernel_rfl
end Go.Proofs.Ytheclmdpiijakaa
