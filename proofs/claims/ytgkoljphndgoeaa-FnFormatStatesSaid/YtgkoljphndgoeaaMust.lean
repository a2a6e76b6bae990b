/-
  impl.mustRead: it returns the tree of a text of at most 200 bytes that is a text of the kind, and panics at every other text. Nothing that was there before changes.
-/
import Derived.Test.YtgkoljphndgoeaaGTree
import Derived.Test.YtgkoljphndgoeaaUp
import Derived.WalkSmall
import Derived.Deep.LoopGhost
import Derived.BigQuiet
import Derived.Deep.QuietTactic
import Derived.Deep.RegionHeld3
import Derived.Deep.AppendLies
namespace Go.Proofs.Ytgkoljphndgoeaa
open Go.RowKit

/-- How many bytes a text of a kind may have. -/
def lim (k : UInt8) : Nat := if k = 80 then 1000 else 200
theorem lim_le (k : UInt8) : lim k ≤ 1000 := by unfold lim; split <;> omega
def MustPost (k : UInt8) (s : ByteArray) (w : World) (e : Ending) (w' : World) : Prop :=
  Below w.heap.size w w' ∧ ((∃ c kids x y, FOk false (.nd c kids .nil) [k] ∧ s.data.toList = (Fo.nd c kids .nil).ser ∧ s.size ≤ lim k ∧ e = .returned (.agg #[x, y]) ∧ RepN w' (w.heap.size + 1) c kids x y) ∨
    (¬ (GValid false k s.data.toList ∧ s.size ≤ lim k) ∧ ∃ v, e = .panicked [{ v := .iface 9 v, recovered := false }]))

theorem heap_at_new {w : World} {o : Obj} {k : Nat} (h : k = w.heap.size) : (w.alloc o).heap[k]? = some o := by subst h; exact heap_alloc_new w o
theorem heap_at_old {w : World} {o x : Obj} {k : Nat} (h : w.heap[k]? = some x) : (w.alloc o).heap[k]? = some x := (Below.heap_alloc w o k (Array.getElem?_eq_some_iff.1 h).1).trans h

theorem drop_cons (s : ByteArray) (pos : Nat) (h : pos < s.size) : s.data.toList.drop pos = s[pos] :: s.data.toList.drop (pos + 1) := by
  rw [List.drop_eq_getElem_cons (by simpa using h)]; rfl
theorem take_snoc (s : ByteArray) (k : Nat) (h : k < s.size) : s.data.toList.take (k + 1) = s.data.toList.take k ++ [s[k]] := by
  rw [List.take_succ_eq_append_getElem (by simpa using h)]; rfl

theorem post_bad {k : UInt8} {s : ByteArray} {w w' : World} {e : Ending} (hb : Below w.heap.size w w') (hm : gmach false [k] s.data.toList = false) (he : ∃ v, e = .panicked [{ v := .iface 9 v, recovered := false }]) : MustPost k s w e w' :=
  ⟨hb, .inr ⟨fun h => (by rw [gmach_iff.2 h.1] at hm; cases hm), he⟩⟩

theorem own_kept {w w' : World} {base : Nat} {e : TypeId} {size : Nat} {v : Value} {n : Nat} {xs : List Value} (h : w.ownsRow base e size v n xs) (hb : Below w.heap.size w w') : w'.ownsRow base e size v n xs := by
  obtain ⟨h1, h2⟩ := h
  refine ⟨h1, ?_⟩
  rcases h2 with h2 | ⟨g, cap, cur, a, b, c, d⟩
  · exact .inl h2
  · exact .inr ⟨g, cap, cur, a, b, (hb.block g (Array.getElem?_eq_some_iff.1 c).1).trans c, d⟩
theorem ckm {w w' : World} {b o : Nat} {v : Value} (hb : Below w.heap.size w w') (h : w.cell? ⟨b, o, none⟩ = some v) : w'.cell? ⟨b, o, none⟩ = some v := (hb.cell (p := ⟨b, o, none⟩) (cell_lt h)).trans h
theorem own_row {w : World} {base : Nat} {e : TypeId} {size g n cap m : Nat} {xs : List Value} (h : w.ownsRow base e size (.slice (some ⟨g, 0, none⟩) n cap) m xs) : ∃ cur, w.heap[g]? = some (.cells cur e (0, 0)) := by
  rcases h.2 with ⟨h0, _⟩ | ⟨g', cap', cur, hv, _, hh, _⟩
  · cases h0
  · cases hv; exact ⟨cur, hh⟩

theorem gstr_size (l : List UInt8) : (gstr l).size = l.length := by simp [gstr, ByteArray.size]

theorem ownsRow_iterAt' {w : World} {base : Nat} {e : TypeId} {size : Nat} {v : Value} {n : Nat} {xs : List Value} (h : w.ownsRow base e size v n xs) {k : Nat} {s : ByteArray} {p0 : Nat} (hk : w.heap[k]? = some (.stringIter s p0)) (p : Nat) : (w.iterAt k s p).ownsRow base e size v n xs := by
  obtain ⟨h1, h2⟩ := h
  refine ⟨h1, ?_⟩
  rcases h2 with h2 | ⟨g, cap, cur, a, b, c, d⟩
  · exact .inl h2
  · exact .inr ⟨g, cap, cur, a, b, by rw [Lib.iterAt_other _ _ _ _ _ (by rintro rfl; rw [hk] at c; cases c)]; exact c, d⟩

/-- A rune at which no term of the kind begins. -/
theorem rune_bad {k : UInt8} {s : ByteArray} {pos : Nat} (hp : pos < s.size) (h : gopk false k s[pos] = none) : ∀ c : UInt8, (c.toNat : Int) = ((Utf8.decode s pos).1 : Int) → gopk false k c = none := by
  intro c hc
  by_cases ha : (s[pos]).toNat < 128
  · rw [decode_ascii s pos hp ha] at hc
    have : c = s[pos] := UInt8.toNat_inj.1 (by simp only [Int.natCast_inj] at hc; exact hc)
    rw [this]; exact h
  · have h2 := (decode_high s pos hp (by omega)).1
    cases ho : gopk false k c with
    | none => rfl
    | some l => have := gopk_ascii ho; omega

end Go.Proofs.Ytgkoljphndgoeaa
