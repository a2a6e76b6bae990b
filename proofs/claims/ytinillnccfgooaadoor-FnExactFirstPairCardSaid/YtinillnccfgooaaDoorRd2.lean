/-
  Reading two relations, or a relation and a set.
-/
import Derived.Test.YtinillnccfgooaaDoorRd
namespace Go.Proofs.YtinillnccfgooaaDoor
open Go.RowKit Go.Great

def ReadsPost (A B : Nat → Nat → Bool) (ok : Bool) (w : World) (e : Ending) (w' : World) : Prop := e = .returned (.tuple #[.agg (relC .u32 A), .agg (relC .u32 B), .bool ok]) ∧ Below w.heap.size w w'
def RelatedPost (A : Nat → Nat → Bool) (F : Nat → Bool) (ok : Bool) (w : World) (e : Ending) (w' : World) : Prop := e = .returned (.tuple #[.agg (relC .u32 A), .int .u32 (nb 27 F), .bool ok]) ∧ Below w.heap.size w w'
theorem Blk.rowKeep {w : World} {b g : Nat} {cs : Array Value} {t : TypeId} (h : Blk w b cs t) (hg : w.heap.size ≤ g) (cs' : Array Value) : Blk (w.setRow g cs') b cs t := h.rowOther (by have := h.lt; omega) cs'
theorem push_blk (w : World) (A B : Array Value) (t : TypeId) : Blk ((w.alloc (.cells A t)).setRow w.heap.size B) w.heap.size B t ∧ Below w.heap.size w ((w.alloc (.cells A t)).setRow w.heap.size B) := by
  obtain ⟨h1, h2, _⟩ := one_blk w A t
  exact ⟨h1.row B, Below.setRow h2 (Nat.le_refl _) B⟩

theorem put_rel {w : World} {g : Nat} {c : Array Value} {t : TypeId} (h : Blk w g c t) (hs : c.size = 27) (K : IntKind) (A : Nat → Nat → Bool) : (storeCells ⟨g, 0, none⟩ (relC K A).toList).run Tryd.prog w = .ok () (w.setRow g (relC K A)) := by
  have := run_storeCells_from (P := Tryd.prog) g t (relC K A).toList 0 c w h (by have := relC_size K A; simp; omega) (fun v hv => (Array.all_eq_true_iff_forall_mem.1 (relC_one K A)) v (by simpa using hv))
  simpa using this
end Go.Proofs.YtinillnccfgooaaDoor
