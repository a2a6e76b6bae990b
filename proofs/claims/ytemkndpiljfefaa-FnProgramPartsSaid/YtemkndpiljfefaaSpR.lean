/-
  SizeOf, DepthOf, HeadOf, LoopCount, IsPlain and JoinPrograms of the model.
-/
import Derived.Test.YtemkndpiljfefaaSpQ
import Derived.Test.YtemkndpiljfefaaPln
namespace Go.Proofs.Ytemkndpiljfefaa
open Go.RowKit Tm

theorem text_eq {s : ByteArray} {p : Pg} (h : s.data.toList = p.ser) : s = bs p.ser := by
  apply ByteArray.ext
  apply Array.ext'
  exact h.trans (bs_list _).symm


set_option maxHeartbeats 1000000 in
theorem specHead_yes (s : ByteArray) (w : World) {p : Pg} (hp : p.ok false) (hs : s.data.toList = p.ser) (hl : s.size ≤ 200) :
    Calls Try.prog 11 #[.string s] w fun e w' => e = .returned (.string (bs p.hd)) ∧ Below w.heap.size w w' := by
  have HV := fun w => Lib.hid (specPV_yes s w ⟨p, hp, hs⟩ hl)
  have HC := fun w => Lib.hid (lh_any false p hp s hs (by omega) w)
  have hsz : s.size = 1 + p.hd.length + (p.pks.flatMap Pg.ser).length := by
    have := congrArg List.length hs
    rw [p.ser_eq, List.length_cons, List.length_append] at this
    have e : s.data.toList.length = s.size := by simp
    omega
  have hx1 : Hid (s.extract 1 (1 + p.hd.length) = bs p.hd) := extract_bs (r := p.pks.flatMap Pg.ser) (by rw [hs, p.ser_eq]; rfl) rfl (by omega)
  have hl1 : (1 : Int) ≤ 1 + (p.hd.length : Int) := by omega
  have hl2 : 1 + (p.hd.length : Int) ≤ (s.size : Int) := by omega
  clear hs hsz
  go_enter Try.func11, Try.ntmps11
  go_wp2_with fail
  refine (HV _).out.mono ?_
  rintro e w1 ⟨rfl, n, rfl⟩
  go_wp2_with fail
  refine (HC _).out.mono ?_
  rintro e w2 ⟨rfl, n2, rfl⟩
  go_wp2_with fail
  go_ret
  exact ⟨by rw [← hx1.out]; rfl, bdrewN (Below.refl w.heap.size w) (n + n2)⟩
set_option maxHeartbeats 1000000 in
theorem specHead_no (s : ByteArray) (w : World) (h : ¬ (PValid false s.data.toList ∧ s.size ≤ 200)) :
    Calls Try.prog 11 #[.string s] w fun e w' => e = .returned (.string (bs [])) ∧ Below w.heap.size w w' := by
  have HV := fun w => Lib.hid (specPV_no s w h)
  clear h
  go_enter Try.func11, Try.ntmps11
  go_wp2_with fail
  refine (HV _).out.mono ?_
  rintro e w1 ⟨rfl, n, rfl⟩
  go_wp2_with fail
  go_ret
  exact ⟨rfl, bdrewN (Below.refl w.heap.size w) n⟩

/-! ### Counts of letters -/

end Go.Proofs.Ytemkndpiljfefaa
