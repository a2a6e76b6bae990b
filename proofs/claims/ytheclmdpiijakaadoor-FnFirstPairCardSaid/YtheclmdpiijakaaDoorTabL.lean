/-
  What a table that the card ties reads as: its cells.
-/
import Derived.Test.YtheclmdpiijakaaDoorCards
import Derived.Test.YtheclmdpiijakaaDoorTz
import Derived.OpenShut
import Derived.LaidHandle
import Derived.MakeChecks
namespace Go.Proofs.YtheclmdpiijakaaDoor
open Go.RowKit

theorem tabName : Tryd.prog.globalNamed "math/bits.deBruijn32tab" = some 0 := by kernel_rfl
theorem tabType : (Tryd.prog.globals[0]?).map (·.type) = some 177 := by kernel_rfl
theorem tabCells : Tryd.prog.cellsOf 177 = 32 := by kernel_rfl
theorem u8Cells : Tryd.prog.cellsOf 5 = 1 := by kernel_rfl

theorem mapM_some {α β : Type} {f : α → Option β} : ∀ {l : List α} {xs : List β}, l.mapM f = some xs → xs.length = l.length ∧ ∀ j (h : j < l.length) (h2 : j < xs.length), f l[j] = some xs[j] := by
  intro l
  induction l with
  | nil => intro xs h; simp at h; subst h; exact ⟨rfl, fun j h => by simp at h⟩
  | cons a l ih =>
    intro xs h
    rw [List.mapM_cons] at h
    simp only [Option.bind_eq_bind, Option.bind_eq_some_iff, Option.pure_def, Option.some.injEq] at h
    obtain ⟨y, hy, ys, hys, rfl⟩ := h
    obtain ⟨h1, h2⟩ := ih hys
    refine ⟨by simp [h1], fun j hj hj2 => ?_⟩
    cases j with
    | zero => exact hy
    | succ j => exact h2 j (by simpa using hj) (by simpa using hj2)
theorem u8_of_trod {H : Type} {enc : TypeId × Value → H} {w : World} {base : Nat} {sp : Nat → Bool} {held : Bool} {fuel : Nat} {c : Value} {y : DataW H × List MemPlace}
    (h : DataW.trod enc Tryd.prog w base sp held fuel 5 [c] = some y) : ∃ n, c = .int .u8 n ∧ y = (.lit (.int .u8 n), []) := by
  cases fuel with
  | zero => simp [DataW.trod] at h
  | succ fuel =>
    cases c <;> simp [DataW.trod, Tryd.underlying5] at h
    rename_i k' n
    obtain ⟨⟨rfl, _⟩, rfl⟩ := h
    exact ⟨n, rfl, rfl⟩

theorem tab_of_laid {W : World} (h : laidMet Tryd.prog [("math/bits.deBruijn32tab", Rows.laid_math_bits_deBruijn32tab)] W) : Tab32 W := by
  obtain ⟨ps, ⟨g, t, cs, fuel, p, q, hg, ht, hvar, hd, _, _⟩, _⟩ := h
  obtain rfl := Option.some.inj (tabName.symm.trans hg)
  obtain rfl := Option.some.inj (tabType.symm.trans ht)
  obtain ⟨l⟩ := cs
  cases fuel with
  | zero => simp [DataW.trod] at hd
  | succ fuel =>
    simp only [DataW.trod, Tryd.underlying177, tabCells, u8Cells] at hd
    split at hd
    · rename_i hl
      obtain ⟨xs, hxs, hx⟩ := Option.map_eq_some_iff.1 hd
      obtain ⟨hlen, hall⟩ := mapM_some hxs
      rw [List.length_range] at hlen
      have e0 : (Rows.laid_math_bits_deBruijn32tab : DataW Unit) = .agg (Lib.deBruijn32tab.map fun n : Nat => .lit (.int .u8 n)) := rfl
      rw [e0] at hx
      simp only [Prod.mk.injEq, DataW.agg.injEq] at hx
      intro j hj
      have hj1 : j < (List.range 32).length := by simpa using hj
      have h1 := hall j hj1 (by omega)
      have h3 : l.drop j = l[j]'(by omega) :: l.drop (j + 1) := List.drop_eq_getElem_cons (by omega)
      rw [List.getElem_range, Nat.mul_one, h3, List.take_succ_cons, List.take_zero] at h1
      obtain ⟨n, hn, hy⟩ := u8_of_trod h1
      have h4 : (xs.map fun x => x.1)[j]'(by simpa using (by omega : j < xs.length)) = .lit (.int .u8 n) := by simp [hy]
      have h5 : some (DataW.lit (H := Unit) (.int .u8 n)) = (Lib.deBruijn32tab.map fun n : Nat => DataW.lit (H := Unit) (.int .u8 n))[j]? := by
        rw [← hx.1, ← h4, List.getElem?_eq_getElem]
      have h6 : Lib.deBruijn32tab[j]? = some (Lib.deBruijn32tab.getD j 0) := by
        rw [List.getD_eq_getElem?_getD, List.getElem?_eq_getElem (show j < Lib.deBruijn32tab.length from hj)]; rfl
      rw [List.getElem?_map, h6] at h5
      simp at h5
      have hc : W.cell? ⟨0, j, none⟩ = ({ toList := l } : Array Value)[j]? := World.var?_cell hg hvar j
      rw [hc]
      show (Array.mk l)[j]? = _
      rw [Array.getElem?_eq_getElem (show j < (Array.mk l).size from by simpa using (by omega : j < l.length))]
      show some l[j] = _
      rw [hn, h5, List.getD_eq_getElem?_getD]
    · cases hd
end Go.Proofs.YtheclmdpiijakaaDoor
