/-
  Drawing a text where a variable is asked: l1Which.
-/
import Derived.Test.YtegbjnpnchidkaaDraw
namespace Go.Proofs.Ytegbjnpnchidkaa
open Go.RowKit

set_option maxHeartbeats 4000000 in
theorem which_any {a p : Nat} {w : World} (hr : Rd a p w) (hp : p ≤ 900000) :
    Calls Try.prog 65 #[.pointer (some ⟨a, 0, none⟩)] w fun e w' => ∃ s : ByteArray, s.size ≤ 2 ∧ e = .returned (.string s) ∧ Rd a (p + 1) w' ∧ Kp a w w' := by
  have HL := Lib.hid (Blk.new w #[.string ⟨#[120]⟩, .string ⟨#[121]⟩, .string ⟨#[122]⟩, .string ⟨#[120]⟩, .string ⟨#[121]⟩, .string ⟨#[122]⟩, .string ⟨#[120]⟩, .string ⟨#[121]⟩, .string ⟨#[]⟩, .string ⟨#[88]⟩, .string ⟨#[119]⟩, .string ⟨#[120, 121]⟩] 9)
  have hax := (Below.refl _ w).alloc (Nat.le_refl _) (.cells #[.string ⟨#[120]⟩, .string ⟨#[121]⟩, .string ⟨#[122]⟩, .string ⟨#[120]⟩, .string ⟨#[121]⟩, .string ⟨#[122]⟩, .string ⟨#[120]⟩, .string ⟨#[121]⟩, .string ⟨#[]⟩, .string ⟨#[88]⟩, .string ⟨#[119]⟩, .string ⟨#[120, 121]⟩] 9)
  have HR := Lib.hid (hr.kept hax)
  have HK := Lib.hid ((Kp.refl a w).next hax)
  have hneL : w.heap.size ≠ a := by have := hr.lt; omega
  clear hax hr
  go_enter Try.func65, Try.ntmps65
  go_wp2_with fail
  refine (of_any 12 12 (fun s => s.size ≤ 2) HR.out (by omega) HL.out hneL (by omega) (by omega) (fun i hi => by
    have hi : i = 0 ∨ i = 1 ∨ i = 2 ∨ i = 3 ∨ i = 4 ∨ i = 5 ∨ i = 6 ∨ i = 7 ∨ i = 8 ∨ i = 9 ∨ i = 10 ∨ i = 11 := by omega
    rcases hi with rfl | rfl | rfl | rfl | rfl | rfl | rfl | rfl | rfl | rfl | rfl | rfl <;> exact ⟨_, rfl, by decide⟩)).mono ?_
  rintro e w1 ⟨s, hs, rfl, hr, hk⟩
  have HR1 := Lib.hid hr
  have HK1 := Lib.hid (HK.out.trans hk)
  clear hr hk
  go_wp2_with fail
  go_ret
  exact ⟨s, hs, rfl, HR1.out, HK1.out⟩

end Go.Proofs.Ytegbjnpnchidkaa
