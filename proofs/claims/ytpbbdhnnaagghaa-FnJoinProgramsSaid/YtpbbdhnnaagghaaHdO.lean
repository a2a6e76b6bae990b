/-
  HeadOf, JoinPrograms, DepthOf of the program.
-/
import Derived.Test.YtpbbdhnnaagghaaRdP
import Derived.Test.YtpbbdhnnaagghaaPts
namespace Go.Proofs.Ytpbbdhnnaagghaa
open Go.RowKit

set_option maxHeartbeats 1000000 in
theorem implHead_yes (s : ByteArray) (w : World) {p : Pg} (hp : p.ok false) (hs : s.data.toList = p.ser) (hl : s.size ≤ 200) :
    Calls Try.prog 13 #[.string s] w fun e w' => e = .returned (.string (bs p.hd)) ∧ Below w.heap.size w w' := by
  have hsz : p.ser.length ≤ 1000 := by have := congrArg List.length hs; simp at this; omega
  have HC := fun w => Lib.hid (prog_yes s w hp hs hl)
  clear hs
  go_enter Try.func13, Try.ntmps13
  go_wp2_with fail
  refine (HC _).out.mono ?_
  rintro e w1 ⟨T, u, rfl, hst, hb⟩
  have HB := Lib.hid hb
  obtain ⟨f, rc, hm, hcf, hc⟩ := inv_head hp hsz hst
  have HC2 := Lib.hid hc
  clear hb hc hst
  go_wp2_with fail
  refine (HC2.out _ (Below.refl _ _)).mono ?_
  rintro e w2 ⟨rfl, hb⟩
  have HB2 := Lib.hid (bnext HB.out hb)
  clear hb
  go_wp2_with fail
  go_ret
  exact ⟨rfl, HB2.out⟩

set_option maxHeartbeats 1000000 in
theorem implHead_no (s : ByteArray) (w : World) (h : ¬ (PValid false s.data.toList ∧ s.size ≤ 200)) :
    Calls Try.prog 13 #[.string s] w fun e w' => e = .returned (.string (bs [])) ∧ Below w.heap.size w w' := by
  have HC := fun w => Lib.hid (prog_no s w h)
  clear h
  go_enter Try.func13, Try.ntmps13
  go_wp2_with fail
  refine (HC _).out.mono ?_
  rintro e w1 ⟨rfl, hb⟩
  have HB := Lib.hid hb
  clear hb
  go_wp2_with fail
  go_ret
  exact ⟨rfl, HB.out⟩

/-! ### JoinPrograms -/
theorem implPV_t (s : ByteArray) (w : World) (h : IsP s) : Calls Try.prog 15 #[.string s] w fun e w' => e = .returned (.bool true) ∧ Below w.heap.size w w' := by
  obtain ⟨⟨p, hp, he⟩, hl⟩ := h
  exact implPV_yes s w hp he hl

set_option maxHeartbeats 1000000 in
theorem implJoin_no (p q : ByteArray) (w : World) (hp : p.size ≤ 1048576) (hq : q.size ≤ 1048576) (h : ¬ (IsP p ∧ IsP q ∧ p.size + q.size < 200)) :
    Calls Try.prog 28 #[.string p, .string q] w fun e w' => e = .returned (.tuple #[.string ⟨#[]⟩, .bool false]) ∧ Below w.heap.size w w' := by
  by_cases h1 : IsP p
  · have HC1 := fun w => Lib.hid (implPV_t p w h1)
    by_cases h2 : IsP q
    · have HC2 := fun w => Lib.hid (implPV_t q w h2)
      have hz : ¬ (p.size + q.size < 200) := fun h3 => h ⟨h1, h2, h3⟩
      have hz1 : p.size ≤ 200 := h1.2
      have hz2 : q.size ≤ 200 := h2.2
      have f0 : ¬ (9223372036854775807 < 1 + p.size) := by omega
      have f1 : ¬ (9223372036854775807 < 1 + p.size + q.size) := by omega
      have f2 : (200 : Int) < 1 + (p.size : Int) + (q.size : Int) := by omega
      clear h h1 h2
      go_enter Try.func28, Try.ntmps28
      go_wp2_with fail
      refine (HC1 _).out.mono ?_
      rintro e w1 ⟨rfl, hb⟩
      have HB := Lib.hid hb
      clear hb
      go_wp2_with fail
      refine (HC2 _).out.mono ?_
      rintro e w2 ⟨rfl, hb⟩
      have HB2 := Lib.hid (bnext HB.out hb)
      clear hb
      go_wp2_with fail
      go_ret2
      exact ⟨rfl, HB2.out⟩
    · have HC2 := fun w => Lib.hid (implPV_no q w h2)
      clear h h1 h2
      go_enter Try.func28, Try.ntmps28
      go_wp2_with fail
      refine (HC1 _).out.mono ?_
      rintro e w1 ⟨rfl, hb⟩
      have HB := Lib.hid hb
      clear hb
      go_wp2_with fail
      refine (HC2 _).out.mono ?_
      rintro e w2 ⟨rfl, hb⟩
      have HB2 := Lib.hid (bnext HB.out hb)
      clear hb
      go_wp2_with fail
      go_ret2
      exact ⟨rfl, HB2.out⟩
  · have HC1 := fun w => Lib.hid (implPV_no p w h1)
    clear h h1
    go_enter Try.func28, Try.ntmps28
    go_wp2_with fail
    refine (HC1 _).out.mono ?_
    rintro e w1 ⟨rfl, hb⟩
    have HB := Lib.hid hb
    clear hb
    go_wp2_with fail
    go_ret2
    exact ⟨rfl, HB.out⟩

set_option maxHeartbeats 1000000 in
theorem implJoin_yes (p q : ByteArray) (w : World) (h1 : IsP p) (h2 : IsP q) (h3 : p.size + q.size < 200) :
    Calls Try.prog 28 #[.string p, .string q] w fun e w' => e = .returned (.tuple #[.string (⟨#[59]⟩ ++ p ++ q), .bool true]) ∧ Below w.heap.size w w' := by
  have HC1 := fun w => Lib.hid (implPV_t p w h1)
  have HC2 := fun w => Lib.hid (implPV_t q w h2)
  have f0 : ¬ (9223372036854775807 < 1 + p.size) := by omega
  have f1 : ¬ (9223372036854775807 < 1 + p.size + q.size) := by omega
  have f2 : ¬ ((200 : Int) < 1 + (p.size : Int) + (q.size : Int)) := by omega
  clear h1 h2
  go_enter Try.func28, Try.ntmps28
  go_wp2_with fail
  refine (HC1 _).out.mono ?_
  rintro e w1 ⟨rfl, hb⟩
  have HB := Lib.hid hb
  clear hb
  go_wp2_with fail
  refine (HC2 _).out.mono ?_
  rintro e w2 ⟨rfl, hb⟩
  have HB2 := Lib.hid (bnext HB.out hb)
  clear hb
  go_wp2_with fail
  go_ret2
  exact ⟨rfl, HB2.out⟩
end Go.Proofs.Ytpbbdhnnaagghaa
