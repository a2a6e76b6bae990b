/-
  The bytes of a string in a slice of the call's own.
-/
import Derived.Test.YtopbkkmplgllkaaGreatDoorTopB
namespace Go.Proofs.YtopbkkmplgllkaaGreatDoor
open Go.RowKit

/-- The first cells of a block are these bytes, and may be written. -/
structure MBlk (w : World) (b : Nat) (l : List UInt8) : Prop where
  get : ∀ i (h : i < l.length), w.cell? ⟨b, i, none⟩ = some (.int .u8 (l[i].toNat : Int))
  free : ∀ i, i < l.length → w.frozen? ⟨b, i, none⟩ = false
  lt : b < w.heap.size
theorem MBlk.kept {w w' : World} {b : Nat} {l : List UInt8} (h : MBlk w b l) (hb : Below w.heap.size w w') : MBlk w' b l :=
  ⟨fun i hi => ckeep hb (h.get i hi), fun i hi => (hb.frozen (p := ⟨b, i, none⟩) h.lt).trans (h.free i hi), Nat.lt_of_lt_of_le h.lt hb.size⟩
theorem MBlk.set {w : World} {b : Nat} {l : List UInt8} (h : MBlk w b l) (i : Nat) (hi : i < l.length) (c : UInt8) : MBlk (w.setCell ⟨b, i, none⟩ (.int .u8 c.toNat)) b (l.set i c) := by
  refine ⟨fun j hj => ?_, fun j hj => ?_, ?_⟩
  · have hj2 : j < l.length := by simpa using hj
    by_cases e : i = j
    · subst e
      have := h.get i hi
      simp [go_sem, this]
    · rw [World.cell?_setCell_other _ _ _ _ (by intro e2; injection e2; omega), h.get j hj2, List.getElem_set_ne e]
  · have hj2 : j < l.length := by simpa using hj
    have := h.free j hj2
    simpa [go_sem] using this
  · have := h.lt
    simpa [World.setCell] using this
theorem bytesOf (w : World) (l : List UInt8) : ∃ cap W', (convert 9 22 (.string (bs l))).run Tryz.prog w = .ok (.slice (some ⟨w.heap.size, 0, none⟩) l.length cap) W' ∧ MBlk W' w.heap.size l ∧ Below w.heap.size w W' := by
  have h := run_bytes_of_string (P := Tryz.prog) w 9 22 5 (bs l) Tryz.underlying9 Tryz.underlying22 Tryz.underlying5
  rw [bs_size] at h
  obtain ⟨C, hC⟩ : ∃ C, C = bytesRow (bs l) (grownCap w l.length 0 5) := ⟨_, rfl⟩
  rw [← hC] at h
  have hget : ∀ i (hi : i < l.length), C[i]? = some (.int .u8 (l[i].toNat : Int)) := fun i hi => by
    rw [hC, bytesRow, Array.getElem?_append_left (by simpa [bs] using hi)]
    simp [bs, hi]
  have hsz : l.length ≤ C.size := by rw [hC, bytesRow]; simp [bs]
  have hbl : (w.drew.alloc (.cells C 5 (C.size, C.size + 1))).heap[w.heap.size]? = some (.cells C 5 (C.size, C.size + 1)) := by
    show (w.heap.push _)[w.heap.size]? = _
    simp
  refine ⟨_, _, h, ⟨?_, ?_, ?_⟩, ?_⟩
  · intro i hi
    rw [cell_of_row _ w.heap.size i C _ _ hbl]
    exact hget i hi
  · intro i hi
    have h2 : ¬ C.size ≤ i := by omega
    generalize w.drew.alloc (.cells C 5 (C.size, C.size + 1)) = W at hbl
    simp [World.frozen?, hbl, h2]
  · simp
  · exact ((Below.refl _ _).drew).alloc (Nat.le_refl _) _

theorem toStrM {w : World} {b : Nat} {l : List UInt8} (h : MBlk w b l) (n c : Nat) (hn : n = l.length) : (convert 22 9 (.slice (some ⟨b, 0, none⟩) n c)).run Tryz.prog w = .ok (.string (bs l)) w := by
  subst hn
  rw [run_convert_bytes_string _ _ _ 5 _ _ _ Tryz.underlying22 Tryz.underlying5 Tryz.underlying9]
  rw [run_bytesToString _ _ l.length c (l.map (fun c : UInt8 => (c.toNat : Int)))]
  · rw [fold_push]
    congr 2
  · have h2 := run_loadCells_list (w := w) (P := Tryz.prog) ⟨b, 0, none⟩ (l.map bv) (fun j v hj => by
      rw [List.getElem?_map] at hj
      have hlt : j < l.length := by
        rcases Nat.lt_or_ge j l.length with h | h
        · exact h
        · rw [List.getElem?_eq_none h] at hj; cases hj
      rw [List.getElem?_eq_getElem hlt] at hj
      simp at hj
      subst hj
      have e : (⟨b, 0, none⟩ : Addr).add j = ⟨b, j, none⟩ := by
        by_cases h0 : j = 0 <;> simp [Addr.add, h0]
      rw [e]
      exact h.get j hlt)
    simp at h2
    rw [h2]
    simp [bv, List.map_map, Function.comp_def]

end Go.Proofs.YtopbkkmplgllkaaGreatDoor
