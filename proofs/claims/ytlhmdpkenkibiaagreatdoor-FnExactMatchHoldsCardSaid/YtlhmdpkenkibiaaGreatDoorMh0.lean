/-
  MatchHolds: both sides.
-/
import Derived.Test.YtlhmdpkenkibiaaGreatDoorTopR1
import Derived.Test.YtlhmdpkenkibiaaGreatDoorMfz
namespace Go.Proofs.YtlhmdpkenkibiaaGreatDoor
open Go.RowKit Tm Go.Great

theorem mh_spec (x s t r y : ByteArray) (b1 b2 : Bool) (c1 : ∀ w, Calls Tryz.prog 65 #[.string s, .string t, .string r] w fun e w' => e = .returned (.tuple #[.string y, .bool b1]) ∧ Below w.heap.size w w')
    (c2 : b1 = true → ∀ w, Calls Tryz.prog 66 #[.string x, .string y] w fun e w' => e = .returned (.bool b2) ∧ Below w.heap.size w w') (w : World) :
    Calls Tryz.prog 15 #[.string x, .string s, .string t, .string r] w fun e w' => e = .returned (.bool (b1 && b2)) ∧ Below w.heap.size w w' := by
  have C1 := Lib.hid c1
  clear c1
  cases b1 with
  | false =>
    clear c2
    go_enter Tryz.func15, Tryz.ntmps15
    go_wp2_with fail
    refine (C1.out _).mono ?_
    rintro e w2 ⟨rfl, hb⟩
    have HB2 := Lib.hid hb
    clear hb
    go_wp2_with fail
    go_ret
    exact ⟨rfl, HB2.out⟩
  | true =>
    have C2 := Lib.hid (c2 rfl)
    clear c2
    go_enter Tryz.func15, Tryz.ntmps15
    go_wp2_with fail
    refine (C1.out _).mono ?_
    rintro e w2 ⟨rfl, hb⟩
    have HB2 := Lib.hid hb
    clear hb
    go_wp2_with fail
    refine (C2.out _).mono ?_
    rintro e w3 ⟨rfl, hb⟩
    have HB3 := Lib.hid (bnext HB2.out hb)
    clear hb
    go_wp2_with fail
    go_ret
    exact ⟨rfl, HB3.out⟩
theorem mh_impl (x s t r y : ByteArray) (b1 b2 : Bool) (c1 : ∀ w, Calls Tryz.prog 40 #[.string s, .string t, .string r] w fun e w' => e = .returned (.tuple #[.string y, .bool b1]) ∧ Below w.heap.size w w')
    (c2 : b1 = true → ∀ w, Calls Tryz.prog 33 #[.string x, .string y] w fun e w' => e = .returned (.bool b2) ∧ Below w.heap.size w w') (w : World) :
    Calls Tryz.prog 16 #[.string x, .string s, .string t, .string r] w fun e w' => e = .returned (.bool (b1 && b2)) ∧ Below w.heap.size w w' := by
  have C1 := Lib.hid c1
  clear c1
  cases b1 with
  | false =>
    clear c2
    go_enter Tryz.func16, Tryz.ntmps16
    go_wp2_with fail
    refine (C1.out _).mono ?_
    rintro e w2 ⟨rfl, hb⟩
    have HB2 := Lib.hid hb
    clear hb
    go_wp2_with fail
    go_ret
    exact ⟨rfl, HB2.out⟩
  | true =>
    have C2 := Lib.hid (c2 rfl)
    clear c2
    go_enter Tryz.func16, Tryz.ntmps16
    go_wp2_with fail
    refine (C1.out _).mono ?_
    rintro e w2 ⟨rfl, hb⟩
    have HB2 := Lib.hid hb
    clear hb
    go_wp2_with fail
    refine (C2.out _).mono ?_
    rintro e w3 ⟨rfl, hb⟩
    have HB3 := Lib.hid (bnext HB2.out hb)
    clear hb
    go_wp2_with fail
    go_ret
    exact ⟨rfl, HB3.out⟩
/-- Both sides, at any texts. -/
theorem mh_any2 (x s t r : ByteArray) (hx : x.size ≤ maxLen) (hm : r.size ≤ maxLen) : ∃ b : Bool, (∀ w, Calls Tryz.prog 15 #[.string x, .string s, .string t, .string r] w fun e w' => e = .returned (.bool b) ∧ Below w.heap.size w w') ∧ ∀ w, Calls Tryz.prog 16 #[.string x, .string s, .string t, .string r] w fun e w' => e = .returned (.bool b) ∧ Below w.heap.size w w' := by
  obtain ⟨y, b1, hy, ⟨h1, _, _⟩, c1, d1⟩ := mf_any2 s t r hm
  cases b1 with
  | false => exact ⟨_, fun w => mh_spec x s t r y false false c1 (fun h => by cases h) w, fun w => mh_impl x s t r y false false d1 (fun h => by cases h) w⟩
  | true =>
    by_cases h : Rel729 x
    · exact ⟨_, fun w => mh_spec x s t r y true _ c1 (fun _ w => specRelWithin_yes x y ⟨h, h1 rfl⟩ w) w, fun w => mh_impl x s t r y true _ d1 (fun _ w => implRelWithin_yes x y ⟨h, h1 rfl⟩ w) w⟩
    · exact ⟨_, fun w => mh_spec x s t r y true false c1 (fun _ w => specRelWithin_no x y (fun k => h k.1) hx hy w) w, fun w => mh_impl x s t r y true false d1 (fun _ w => implRelWithin_no x y (fun k => h k.1) w) w⟩
end Go.Proofs.YtlhmdpkenkibiaaGreatDoor
