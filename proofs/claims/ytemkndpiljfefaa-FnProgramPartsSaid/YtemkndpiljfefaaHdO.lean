/-
  HeadOf, JoinPrograms, DepthOf of the program.
-/
import Derived.Test.YtemkndpiljfefaaRdP
import Derived.Test.YtemkndpiljfefaaPts
namespace Go.Proofs.Ytemkndpiljfefaa
open Go.RowKit

set_option maxHeartbeats 1000000 in
theorem implHead_yes (s : ByteArray) (w : World) {p : Pg} (hp : p.ok false) (hs : s.data.toList = p.ser) (hl : s.size ≤ 200) :
    Calls Try.prog 10 #[.string s] w fun e w' => e = .returned (.string (bs p.hd)) ∧ Below w.heap.size w w' := by
  have hsz : p.ser.length ≤ 1000 := by have := congrArg List.length hs; simp at this; omega
  have HC := fun w => Lib.hid (prog_yes s w hp hs hl)
  clear hs
  go_enter Try.func10, Try.ntmps10
  go_wp2_with fail
  refine (HC _).out.mono ?_
  rintro e w1 ⟨T, u, rfl, hst, hb⟩
  have HB := Lib.hid hb
  obtain ⟨f, rc, hm, hcf, hc⟩ := inv_head hp hsz hst
  have HC2 := Lib.hid hc
  clear hb hc hst
  go_wp2_with fail
  refine (HC2.out _ (Below.refl _ _)).mono ?_
  rintro e w2 ⟨rfl, hb⟩
  have HB2 := Lib.hid (bnext HB.out hb)
  clear hb
  go_wp2_with fail
  go_ret
  exact ⟨rfl, HB2.out⟩

set_option maxHeartbeats 1000000 in
theorem implHead_no (s : ByteArray) (w : World) (h : ¬ (PValid false s.data.toList ∧ s.size ≤ 200)) :
    Calls Try.prog 10 #[.string s] w fun e w' => e = .returned (.string (bs [])) ∧ Below w.heap.size w w' := by
  have HC := fun w => Lib.hid (prog_no s w h)
  clear h
  go_enter Try.func10, Try.ntmps10
  go_wp2_with fail
  refine (HC _).out.mono ?_
  rintro e w1 ⟨rfl, hb⟩
  have HB := Lib.hid hb
  clear hb
  go_wp2_with fail
  go_ret
  exact ⟨rfl, HB.out⟩

/-! ### JoinPrograms -/
theorem implPV_t (s : ByteArray) (w : World) (h : IsP s) : Calls Try.prog 12 #[.string s] w fun e w' => e = .returned (.bool true) ∧ Below w.heap.size w w' := by
  obtain ⟨⟨p, hp, he⟩, hl⟩ := h
  exact implPV_yes s w hp he hl

end Go.Proofs.Ytemkndpiljfefaa
