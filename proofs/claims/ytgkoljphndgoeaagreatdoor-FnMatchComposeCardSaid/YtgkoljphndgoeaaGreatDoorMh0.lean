import Derived.Test.YtgkoljphndgoeaaGreatDoorTopR1
import Derived.Test.YtgkoljphndgoeaaGreatDoorMfz
namespace Go.Proofs.YtgkoljphndgoeaaGreatDoor
open Go.RowKit Tm Go.Great
theorem mh_impl (x s t r y : ByteArray) (b1 b2 : Bool) (c1 : ∀ w, Calls Tryz.prog 18 #[.string s, .string t, .string r] w fun e w' => e = .returned (.tuple #[.string y, .bool b1]) ∧ Below w.heap.size w w')
  (c2 : b1 = true → ∀ w, Calls Tryz.prog 22 #[.string x, .string y] w fun e w' => e = .returned (.bool b2) ∧ Below w.heap.size w w') (w : World) :
  Calls Tryz.prog 23 #[.string x, .string s, .string t, .string r] w fun e w' => e = .returned (.bool (b1 && b2)) ∧ Below w.heap.size w w' := by
 have C1 := Lib.hid c1
 clear c1
 cases b1 with
 | false =>
  clear c2
  go_enter Tryz.func23, Tryz.ntmps23
  go_wp2_with fail
  refine (C1.out _).mono ?_
  rintro e w2 ⟨rfl, hb⟩
  have HB2 := Lib.hid hb
  clear hb
  go_wp2_with fail
  go_ret
  exact ⟨rfl, HB2.out⟩
 | true =>
  have C2 := Lib.hid (c2 rfl)
  clear c2
  go_enter Tryz.func23, Tryz.ntmps23
  go_wp2_with fail
  refine (C1.out _).mono ?_
  rintro e w2 ⟨rfl, hb⟩
  have HB2 := Lib.hid hb
  clear hb
  go_wp2_with fail
  refine (C2.out _).mono ?_
  rintro e w3 ⟨rfl, hb⟩
  have HB3 := Lib.hid (bnext HB2.out hb)
  clear hb
  go_wp2_with fail
  go_ret
  exact ⟨rfl, HB3.out⟩
end Go.Proofs.YtgkoljphndgoeaaGreatDoor
