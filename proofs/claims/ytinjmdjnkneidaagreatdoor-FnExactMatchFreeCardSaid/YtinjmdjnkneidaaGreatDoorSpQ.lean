/-
  The model's words on all statements of a valid program: l3Size, l3Depth, l3Heads, l3Plain; SizeOf, DepthOf, HeadOf, LoopCount, IsPlain, JoinPrograms.
-/
import Derived.Test.YtinjmdjnkneidaaGreatDoorSpP
namespace Go.Proofs.YtinjmdjnkneidaaGreatDoor
open Go.RowKit Tm

theorem bs_list (l : List UInt8) : (bs l).data.toList = l := by simp [bs]
theorem Pg.all_eq (p : Pg) : p.all = p :: p.pks.flatMap Pg.all := by cases p <;> simp [Pg.all, Pg.pks]
theorem Pg.dep_eq (p : Pg) : p.dep = (p.pks.map Pg.dep).foldl max 0 + 1 := by cases p <;> simp [Pg.dep, Pg.pks]
theorem mem_len {p q : Pg} (h : q ∈ p.pks) : q.ser.length < p.ser.length := by
  cases p <;> simp [Pg.pks] at h
  · rcases h with rfl | rfl <;> (simp [Pg.ser]; omega)
  · rcases h with rfl | rfl <;> (simp [Pg.ser]; omega)
  · subst h; simp [Pg.ser]; omega
  · rcases h with rfl | rfl <;> (simp [Pg.ser]; omega)
theorem pks_le (p : Pg) : p.pks.length ≤ 2 := by cases p <;> simp [Pg.pks]


/-- The parts' row, as the loops read it. -/
theorem strs_at {w : World} {B : Nat} {T : TypeId} {v : Value} {ps : List Pg} (h : Row w B T v (strs (ps.map Pg.ser))) : ∃ a cap, v = .slice a ps.length cap ∧ ∀ (m : Nat) (hm : m < ps.length), ∃ g, a = some ⟨g, 0, none⟩ ∧ B ≤ g ∧ w.cell? ⟨g, m, none⟩ = some (.string (bs ps[m].ser)) := by
  have hl : (strs (ps.map Pg.ser)).length = ps.length := by simp [strs]
  rcases h.cases with ⟨h1, h2⟩ | ⟨g, cap, h1, hb, _, h3⟩
  · have : ps = [] := by
      rw [h2] at hl
      exact List.eq_nil_of_length_eq_zero hl.symm
    subst this
    exact ⟨_, _, h1, fun m hm => by simp at hm⟩
  · rw [hl] at h1
    exact ⟨_, _, h1, fun m hm => ⟨g, rfl, hb, h3 m _ (by simp [strs, List.getElem?_eq_getElem hm])⟩⟩

theorem foldl_max (l : List Nat) (a : Nat) : a ≤ l.foldl max a := by
  induction l generalizing a with
  | nil => simp
  | cons x l ih => simp only [List.foldl_cons]; have := ih (max a x); omega
/-- The heads of all statements, and their letters. -/
def HeadsPost (p : Pg) (w : World) (e : Ending) (w' : World) : Prop := ∃ sl, e = .returned (.tuple #[sl, .string (bs (p.all.map Pg.letter))]) ∧ Row w' w.heap.size 9 sl (strs (p.all.map Pg.hd)) ∧ Below w.heap.size w w'

end Go.Proofs.YtinjmdjnkneidaaGreatDoor
