/-
  impl.readProgram: the statement and true for a text of at most 200 bytes that is a program, and nil and false for every other text. The words of the interface: head and parts of a statement.
-/
import Derived.Test.YtpdepihggpfmiabDoorStm
namespace Go.Proofs.YtpdepihggpfmiabDoor
open Go.RowKit

def ProgPost (p : Pg) (w : World) (e : Ending) (w' : World) : Prop := ∃ T u, e = .returned (.tuple #[.iface T (.agg u), .bool true]) ∧ StV w' w.heap.size p (.iface T (.agg u)) ∧ Below w.heap.size w w'

set_option maxHeartbeats 1000000 in
theorem stmt_yes (s : ByteArray) (w : World) {p : Pg} (hp : p.ok false) (hs : s.data.toList = p.ser) (hl : s.size ≤ 200) :
    Calls Tryd.prog 66 #[.string s, .int .u8 112] w (ProgPost p w) := by
  have hsz : p.ser.length ≤ 1000 := by have := congrArg List.length hs; simp at this; omega
  have HC := fun w => Lib.hid (gread_yes 112 s w (c := p.letter) (kids := p.kids) (by rw [← Pg.fo_eq]; exact pg_ok hp rfl) (by rw [hs, ← Pg.fo_eq, pg_ser]; simp [Fo.ser]) (by rw [show lim 112 = 200 from rfl]; exact hl))
  have HS := Lib.hid (st_any p hp hsz)
  clear hs
  go_enter Tryd.func66, Tryd.ntmps66
  go_wp2_with fail
  refine (HC _).out.mono ?_
  rintro e w1 ⟨ya, ym, rfl, hr, hb⟩
  have HB := Lib.hid hb
  have HR := Lib.hid hr
  clear hb hr
  go_wp2_with fail
  refine (HS.out w1 w.heap.size _ ya ym ((Below.refl _ _).alloc (Nat.le_refl _) _) HR.out).mono ?_
  rintro e w2 ⟨T, u, rfl, hst, hb⟩
  have HB2 := Lib.hid (bnext (bput HB.out _) hb)
  have H3 := Lib.hid (StV.below (((Below.refl w1.heap.size w1).alloc (Nat.le_refl _) _).trans (hb.mono (by simp))) hst)
  clear hb hst
  go_wp2_with fail
  go_ret2
  exact ⟨T, u, rfl, H3.out, HB2.out⟩

set_option maxHeartbeats 1000000 in
theorem stmt_no (s : ByteArray) (w : World) (h : ¬ (PValid false s.data.toList ∧ s.size ≤ 200)) :
    Calls Tryd.prog 66 #[.string s, .int .u8 112] w fun e w' => e = .returned (.tuple #[.nilIface, .bool false]) ∧ Below w.heap.size w w' := by
  have HC := fun w => Lib.hid (gread_no 112 s w (by simp [IsKind, NarK]) (by rw [pvalid_iff, show lim 112 = 200 from rfl]; exact h))
  clear h
  go_enter Tryd.func66, Tryd.ntmps66
  go_wp2_with fail
  refine (HC _).out.mono ?_
  rintro e w1 ⟨rfl, hb⟩
  have HB := Lib.hid hb
  clear hb
  go_wp2_with fail
  go_ret2
  exact ⟨rfl, bput HB.out _⟩

set_option maxHeartbeats 1000000 in
theorem prog_yes (s : ByteArray) (w : World) {p : Pg} (hp : p.ok false) (hs : s.data.toList = p.ser) (hl : s.size ≤ 200) :
    Calls Tryd.prog 43 #[.string s] w (ProgPost p w) := by
  have HC := fun w => Lib.hid (stmt_yes s w hp hs hl)
  clear hs
  go_enter Tryd.func43, Tryd.ntmps43
  go_wp2_with fail
  refine (HC _).out.mono ?_
  rintro e w1 ⟨T, u, rfl, hst, hb⟩
  have HB := Lib.hid hb
  have HS := Lib.hid hst
  clear hb hst
  go_wp2_with fail
  go_ret2
  exact ⟨T, u, rfl, HS.out, HB.out⟩

set_option maxHeartbeats 1000000 in
theorem prog_no (s : ByteArray) (w : World) (h : ¬ (PValid false s.data.toList ∧ s.size ≤ 200)) :
    Calls Tryd.prog 43 #[.string s] w fun e w' => e = .returned (.tuple #[.nilIface, .bool false]) ∧ Below w.heap.size w w' := by
  have HC := fun w => Lib.hid (stmt_no s w h)
  clear h
  go_enter Tryd.func43, Tryd.ntmps43
  go_wp2_with fail
  refine (HC _).out.mono ?_
  rintro e w1 ⟨rfl, hb⟩
  have HB := Lib.hid hb
  clear hb
  go_wp2_with fail
  go_ret2
  exact ⟨rfl, HB.out⟩

set_option maxHeartbeats 1000000 in
theorem implPV_yes (s : ByteArray) (w : World) {p : Pg} (hp : p.ok false) (hs : s.data.toList = p.ser) (hl : s.size ≤ 200) :
    Calls Tryd.prog 16 #[.string s] w fun e w' => e = .returned (.bool true) ∧ Below w.heap.size w w' := by
  have HC := fun w => Lib.hid (prog_yes s w hp hs hl)
  clear hs
  go_enter Tryd.func16, Tryd.ntmps16
  go_wp2_with fail
  refine (HC _).out.mono ?_
  rintro e w1 ⟨T, u, rfl, _, hb⟩
  have HB := Lib.hid hb
  clear hb
  go_wp2_with fail
  go_ret
  exact ⟨rfl, HB.out⟩

set_option maxHeartbeats 1000000 in
theorem implPV_no (s : ByteArray) (w : World) (h : ¬ (PValid false s.data.toList ∧ s.size ≤ 200)) :
    Calls Tryd.prog 16 #[.string s] w fun e w' => e = .returned (.bool false) ∧ Below w.heap.size w w' := by
  have HC := fun w => Lib.hid (prog_no s w h)
  clear h
  go_enter Tryd.func16, Tryd.ntmps16
  go_wp2_with fail
  refine (HC _).out.mono ?_
  rintro e w1 ⟨rfl, hb⟩
  have HB := Lib.hid hb
  clear hb
  go_wp2_with fail
  go_ret
  exact ⟨rfl, HB.out⟩
end Go.Proofs.YtpdepihggpfmiabDoor
