/-
  SomeVar and AllVar of the model.
-/
import Derived.Test.YtiaidahhlnaabaaQntS
namespace Go.Proofs.Ytiaidahhlnaabaa
open Go.RowKit Tm

set_option maxHeartbeats 1000000 in
theorem specSomeV_yes (p v : ByteArray) (c : UInt8) (j : Nat) (w : World) (hp : Set27 p) (hv : v = ⟨#[c]⟩) (hj : VarAt c j) : Calls Try.prog 17 #[.string p, .string v] w fun e w' => e = .returned (.tuple #[.string (bs (tb (someF c (hs p.data.toList)))), .bool true]) ∧ Below w.heap.size w w' := by
  subst hv
  have C1 := fun w => Lib.hid (specPredValid_yes p w hp)
  have C2 := fun w => Lib.hid (specVar_yes c j w hj)
  have Q := fun w => Lib.hid (specQuant false p c j hj hp w)
  obtain ⟨hj3, hj0, hjd⟩ := varAt_bd hj
  clear hp hj
  go_enter Try.func17, Try.ntmps17
  go_wp2_with fail
  refine (C1 _).out.mono ?_
  rintro e w' ⟨rfl, rfl⟩
  go_wp2_with fail
  refine (C2 _).out.mono ?_
  rintro e w' ⟨rfl, rfl⟩
  go_wp2_with fail
  refine (C2 _).out.mono ?_
  rintro e w' ⟨rfl, rfl⟩
  go_wp2_with fail
  refine (Q _).out.mono ?_
  rintro e w1 ⟨rfl, hb⟩
  have HB := Lib.hid hb
  clear hb
  go_wp2_with fail
  go_ret2
  exact ⟨rfl, HB.out⟩
set_option maxHeartbeats 1000000 in
theorem specSomeV_p (p v : ByteArray) (w : World) (hp : ¬ Set27 p) (hm : p.size ≤ maxLen) : Calls Try.prog 17 #[.string p, .string v] w fun e w' => e = .returned (.tuple #[.string (bs []), .bool false]) ∧ Below w.heap.size w w' := by
  have C1 := fun w => Lib.hid (specPredValid_no p w hp hm)
  clear hp
  go_enter Try.func17, Try.ntmps17
  go_wp2_with fail
  refine (C1 _).out.mono ?_
  rintro e w' ⟨rfl, rfl⟩
  go_wp2_with fail
  go_ret2
  exact ⟨rfl, Below.refl _ _⟩
set_option maxHeartbeats 1000000 in
theorem specSomeV_v (p v : ByteArray) (w : World) (hp : Set27 p) (hv : ¬ IsVar v) (hm : v.size ≤ maxLen) : Calls Try.prog 17 #[.string p, .string v] w fun e w' => e = .returned (.tuple #[.string (bs []), .bool false]) ∧ Below w.heap.size w w' := by
  have C1 := fun w => Lib.hid (specPredValid_yes p w hp)
  have C2 := fun w => Lib.hid (specVar_no v w hm hv)
  clear hv
  go_enter Try.func17, Try.ntmps17
  go_wp2_with fail
  refine (C1 _).out.mono ?_
  rintro e w' ⟨rfl, rfl⟩
  go_wp2_with fail
  refine (C2 _).out.mono ?_
  rintro e w' ⟨rfl, rfl⟩
  go_wp2_with fail
  go_ret2
  exact ⟨rfl, Below.refl _ _⟩
theorem specSomeV_no (p v : ByteArray) (w : World) (hm : p.size ≤ maxLen) (hm2 : v.size ≤ maxLen) (h : ¬ (Set27 p ∧ IsVar v)) : Calls Try.prog 17 #[.string p, .string v] w fun e w' => e = .returned (.tuple #[.string (bs []), .bool false]) ∧ Below w.heap.size w w' := by
  by_cases hp : Set27 p
  · exact specSomeV_v p v w hp (fun hv => h ⟨hp, hv⟩) hm2
  · exact specSomeV_p p v w hp hm

set_option maxHeartbeats 1000000 in
theorem specAllV_yes (p v : ByteArray) (c : UInt8) (j : Nat) (w : World) (hp : Set27 p) (hv : v = ⟨#[c]⟩) (hj : VarAt c j) : Calls Try.prog 19 #[.string p, .string v] w fun e w' => e = .returned (.tuple #[.string (bs (tb (allF c (hs p.data.toList)))), .bool true]) ∧ Below w.heap.size w w' := by
  subst hv
  have C1 := fun w => Lib.hid (specPredValid_yes p w hp)
  have C2 := fun w => Lib.hid (specVar_yes c j w hj)
  have Q := fun w => Lib.hid (specQuant true p c j hj hp w)
  obtain ⟨hj3, hj0, hjd⟩ := varAt_bd hj
  clear hp hj
  go_enter Try.func19, Try.ntmps19
  go_wp2_with fail
  refine (C1 _).out.mono ?_
  rintro e w' ⟨rfl, rfl⟩
  go_wp2_with fail
  refine (C2 _).out.mono ?_
  rintro e w' ⟨rfl, rfl⟩
  go_wp2_with fail
  refine (C2 _).out.mono ?_
  rintro e w' ⟨rfl, rfl⟩
  go_wp2_with fail
  refine (Q _).out.mono ?_
  rintro e w1 ⟨rfl, hb⟩
  have HB := Lib.hid hb
  clear hb
  go_wp2_with fail
  go_ret2
  exact ⟨rfl, HB.out⟩
set_option maxHeartbeats 1000000 in
theorem specAllV_p (p v : ByteArray) (w : World) (hp : ¬ Set27 p) (hm : p.size ≤ maxLen) : Calls Try.prog 19 #[.string p, .string v] w fun e w' => e = .returned (.tuple #[.string (bs []), .bool false]) ∧ Below w.heap.size w w' := by
  have C1 := fun w => Lib.hid (specPredValid_no p w hp hm)
  clear hp
  go_enter Try.func19, Try.ntmps19
  go_wp2_with fail
  refine (C1 _).out.mono ?_
  rintro e w' ⟨rfl, rfl⟩
  go_wp2_with fail
  go_ret2
  exact ⟨rfl, Below.refl _ _⟩
set_option maxHeartbeats 1000000 in
theorem specAllV_v (p v : ByteArray) (w : World) (hp : Set27 p) (hv : ¬ IsVar v) (hm : v.size ≤ maxLen) : Calls Try.prog 19 #[.string p, .string v] w fun e w' => e = .returned (.tuple #[.string (bs []), .bool false]) ∧ Below w.heap.size w w' := by
  have C1 := fun w => Lib.hid (specPredValid_yes p w hp)
  have C2 := fun w => Lib.hid (specVar_no v w hm hv)
  clear hv
  go_enter Try.func19, Try.ntmps19
  go_wp2_with fail
  refine (C1 _).out.mono ?_
  rintro e w' ⟨rfl, rfl⟩
  go_wp2_with fail
  refine (C2 _).out.mono ?_
  rintro e w' ⟨rfl, rfl⟩
  go_wp2_with fail
  go_ret2
  exact ⟨rfl, Below.refl _ _⟩
theorem specAllV_no (p v : ByteArray) (w : World) (hm : p.size ≤ maxLen) (hm2 : v.size ≤ maxLen) (h : ¬ (Set27 p ∧ IsVar v)) : Calls Try.prog 19 #[.string p, .string v] w fun e w' => e = .returned (.tuple #[.string (bs []), .bool false]) ∧ Below w.heap.size w w' := by
  by_cases hp : Set27 p
  · exact specAllV_v p v w hp (fun hv => h ⟨hp, hv⟩) hm2
  · exact specAllV_p p v w hp hm
end Go.Proofs.Ytiaidahhlnaabaa
