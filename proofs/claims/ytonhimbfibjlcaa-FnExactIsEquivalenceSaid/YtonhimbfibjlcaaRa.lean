/-
  The states to which a relation of the model leads from a set: l4Post.
-/
import Derived.Test.YtonhimbfibjlcaaRm
import Derived.Test.YtonhimbfibjlcaaRs
import Derived.Test.YtonhimbfibjlcaaRe
namespace Go.Proofs.Ytonhimbfibjlcaa
open Go.RowKit Go.Great

def allC (T : Nat → Nat → Bool) (L K : Nat → Bool) : Array Value := ((List.range 27).map (fun i => Value.int .i64 (nb 27 (T i))) ++ [Value.int .i64 (nb 27 L), Value.int .i64 (nb 27 K)]).toArray
theorem allC_size (T : Nat → Nat → Bool) (L K : Nat → Bool) : (allC T L K).size = 29 := by simp [allC]
theorem allC_get (T : Nat → Nat → Bool) (L K : Nat → Bool) {i : Nat} (h : i < 27) : (allC T L K)[i]? = some (.int .i64 (nb 27 (T i))) := by
  unfold allC
  rw [List.getElem?_toArray, List.getElem?_append_left (by simpa using h)]
  simp [h]
def noT : Nat → Nat → Bool := fun _ _ => false
def noS : Nat → Bool := fun _ => false
theorem infoAll : (Try.prog.info? 75).map (·.size) = some 29 := by kernel_rfl
theorem infoAll' (T : Nat → Nat → Bool) (L K : Nat → Bool) : (Try.prog.info? 75).map (·.size) = some (allC T L K).size := by rw [allC_size]; exact infoAll
set_option maxRecDepth 100000 in
set_option maxHeartbeats 4000000 in
theorem built_to (T : Nat → Nat → Bool) : Try.prog.built 75 [(0, .agg (relC .i64 T))] = some (allC T noS noS) := by
  unfold allC relC
  rw [nb_zero 27 (F := noS) fun _ _ => rfl]
  simp only [List.range, List.range.loop, List.map_cons, List.map_nil]
  generalize nb 27 (T 0) = a0
  generalize nb 27 (T 1) = a1
  generalize nb 27 (T 2) = a2
  generalize nb 27 (T 3) = a3
  generalize nb 27 (T 4) = a4
  generalize nb 27 (T 5) = a5
  generalize nb 27 (T 6) = a6
  generalize nb 27 (T 7) = a7
  generalize nb 27 (T 8) = a8
  generalize nb 27 (T 9) = a9
  generalize nb 27 (T 10) = a10
  generalize nb 27 (T 11) = a11
  generalize nb 27 (T 12) = a12
  generalize nb 27 (T 13) = a13
  generalize nb 27 (T 14) = a14
  generalize nb 27 (T 15) = a15
  generalize nb 27 (T 16) = a16
  generalize nb 27 (T 17) = a17
  generalize nb 27 (T 18) = a18
  generalize nb 27 (T 19) = a19
  generalize nb 27 (T 20) = a20
  generalize nb 27 (T 21) = a21
  generalize nb 27 (T 22) = a22
  generalize nb 27 (T 23) = a23
  generalize nb 27 (T 24) = a24
  generalize nb 27 (T 25) = a25
  generalize nb 27 (T 26) = a26
  kernel_rfl
end Go.Proofs.Ytonhimbfibjlcaa
