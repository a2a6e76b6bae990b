/-
  PartsOf of the model, and the law of PartsOf.
-/
import Derived.Test.YtemkndpiljfefaaMark
import Derived.Test.YtemkndpiljfefaaSpP
namespace Go.Proofs.Ytemkndpiljfefaa
open Go.RowKit Tm

def RowPost2 (vs : List Value) (w : World) (e : Ending) (w' : World) : Prop := ∃ sl, e = .returned sl ∧ Row w' w.heap.size 9 sl vs ∧ Below w.heap.size w w'
set_option maxHeartbeats 1000000 in
theorem specParts_yes (s : ByteArray) (w : World) {p : Pg} (hp : p.ok false) (hs : s.data.toList = p.ser) (hl : s.size ≤ 200) :
    Calls Try.prog 9 #[.string s] w (RowPost2 (strs (p.pks.map Pg.ser)) w) := by
  have HV := fun w => Lib.hid (specPV_yes s w ⟨p, hp, hs⟩ hl)
  have HC := fun w => Lib.hid (parts_any false p hp s hs (by omega) w)
  clear hs
  go_enter Try.func9, Try.ntmps9
  go_wp2_with fail
  refine (HV _).out.mono ?_
  rintro e w1 ⟨rfl, n, rfl⟩
  go_wp2_with fail
  refine (HC _).out.mono ?_
  rintro e w2 ⟨sl, rfl, hrow, hb⟩
  have HB := Lib.hid (bnext (bdrewN (Below.refl w.heap.size w) n) hb)
  have HR : Hid (Row w2 w.heap.size 9 sl (strs (p.pks.map Pg.ser))) := by
    show Row _ _ _ _ _
    exact hrow.mono (by simp)
  clear hb hrow
  go_wp2_with fail
  go_ret
  exact ⟨_, rfl, HR.out, HB.out⟩
set_option maxHeartbeats 1000000 in
theorem specParts_no (s : ByteArray) (w : World) (h : ¬ (PValid false s.data.toList ∧ s.size ≤ 200)) :
    Calls Try.prog 9 #[.string s] w (RowPost2 (strs []) w) := by
  have HV := fun w => Lib.hid (specPV_no s w h)
  have HN := Lib.hid (fun n => Row.kept (Row.new (w.drewN n) 9 [] (by simp)) (Below.refl _ _))
  clear h
  go_enter Try.func9, Try.ntmps9
  go_wp2_with fail
  refine (HV _).out.mono ?_
  rintro e w1 ⟨rfl, n, rfl⟩
  go_wp2_with fail
  go_ret
  exact ⟨_, rfl, by have := HN.out n; show Row _ _ _ _ []; simpa using this, bput (bdrewN (Below.refl w.heap.size w) n) _⟩
end Go.Proofs.Ytemkndpiljfefaa
