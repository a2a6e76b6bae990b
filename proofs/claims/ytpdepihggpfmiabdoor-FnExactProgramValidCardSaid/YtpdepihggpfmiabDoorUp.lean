/-
  impl.operandKinds at every kind, the wide ones among them (strings.ToUpper by the library's contract).
-/
import Derived.Test.YtpdepihggpfmiabDoorGKinds
import Derived.Test.YtpdepihggpfmiabDoorShelf
namespace Go.Proofs.YtpdepihggpfmiabDoor
open Go.RowKit

theorem upper_ok (l : List UInt8) (w : World) (hl : l = [] ∨ l = [101, 101] ∨ l = [116] ∨ l = [116, 116] ∨ l = [118, 101] ∨ l = [112, 112] ∨ l = [116, 112, 112] ∨ l = [116, 112]) :
    Calls Tryd.prog 94 #[.string (gstr l)] w fun e w' => e = .returned (.string (upS l)) ∧ Below w.heap.size w w' := by
  have hz : (gstr l).size ≤ 140737488355328 := by rcases hl with rfl | rfl | rfl | rfl | rfl | rfl | rfl | rfl <;> decide
  have ha : ∀ (j : Nat) (b : UInt8), (gstr l).data.toList[j]? = some b → b.toNat < 128 := by
    intro j b hj
    have hm : b ∈ l := by have := List.mem_of_getElem? hj; simpa [gstr] using this
    rcases hl with rfl | rfl | rfl | rfl | rfl | rfl | rfl | rfl <;> simp at hm <;> (try rcases hm with rfl | rfl | rfl) <;> (try rcases hm with rfl | rfl) <;> (try subst hm) <;> decide
  have h := Go.Proofs.Tryd.strings_ToUpper_ascii (gstr l) w hz ha
  have e : (⟨(Lib.toUpperA (gstr l).data.toList).toArray⟩ : ByteArray) = upS l := by
    rcases hl with rfl | rfl | rfl | rfl | rfl | rfl | rfl | rfl <;> rfl
  rw [e] at h
  exact h

set_option maxHeartbeats 1000000 in
theorem gkinds_ok (k c : UInt8) (l : List UInt8) (w : World) (h : gopk false k c = some l) :
    Calls Tryd.prog 84 #[.int .u8 k.toNat, .int .i32 c.toNat] w fun e w' => e = .returned (.string (gstr l)) ∧ Below w.heap.size w w' := by
  by_cases hw : wideK k = true
  · rw [gopk_wide hw] at h
    cases ho : gopk0 true (k + 32) c with
    | none => rw [ho] at h; cases h
    | some l0 =>
      rw [ho] at h
      simp at h
      subst h
      have C := fun w => Lib.hid (wide_ok upper_ok k c l0 w hw ho)
      unfold upS at C
      clear ho
      rcases wideK_cases hw with rfl | rfl | rfl | rfl
      all_goals
        clear hw
        go_enter Tryd.func84, Tryd.ntmps84
        go_wp2_with fail
        refine (C _).out.mono ?_
        rintro e w' ⟨rfl, hb⟩
        have HB := Lib.hid hb
        clear hb
        go_wp2_with fail
        go_ret
        exact ⟨rfl, HB.out⟩
  · simp only [Bool.not_eq_true] at hw
    rw [gopk_of hw] at h
    exact (gkinds0_ok k c l w h).mono fun _ _ ⟨h1, h2⟩ => ⟨h1, by subst h2; exact Below.refl _ _⟩

/-- The rune of the first state for one of the second. -/
def nrr (r : Int) : Int := if 88 ≤ r ∧ r ≤ 90 then r + 32 else r
set_option maxHeartbeats 2000000 in
theorem wide_bad (k : UInt8) (r : Int) (w : World) (hk : wideK k = true) (h : ∀ c : UInt8, (c.toNat : Int) = r → gopk0 true (k + 32) c = none) :
    Calls Tryd.prog 90 #[.int .u8 k.toNat, .int .i32 r] w (Panics w) := by
  have hn : ∀ c : UInt8, (c.toNat : Int) = nrr r → gopk0 false (k + 32) c = none := by
    intro c hc
    by_cases hx : 88 ≤ r ∧ r ≤ 90
    · unfold nrr at hc
      rw [if_pos hx] at hc
      have hr : r = 88 ∨ r = 89 ∨ r = 90 := by omega
      rcases hr with rfl | rfl | rfl
      · have := h 88 rfl
        rw [gopk0_nrw (wideK_nark hk)] at this
        rw [show c = nrw 88 from UInt8.toNat_inj.1 (by simp [nrw]; omega)]; exact this
      · have := h 89 rfl
        rw [gopk0_nrw (wideK_nark hk)] at this
        rw [show c = nrw 89 from UInt8.toNat_inj.1 (by simp [nrw]; omega)]; exact this
      · have := h 90 rfl
        rw [gopk0_nrw (wideK_nark hk)] at this
        rw [show c = nrw 90 from UInt8.toNat_inj.1 (by simp [nrw]; omega)]; exact this
    · unfold nrr at hc
      rw [if_neg hx] at hc
      have h1 := h c hc
      rw [gopk0_nrw (wideK_nark hk)] at h1
      have h2 : nrw c = c := by
        unfold nrw
        rw [if_neg]
        rintro (rfl | rfl | rfl) <;> exact hx (by rw [← hc]; decide)
      rw [h2] at h1; exact h1
  have HO := fun w => Lib.hid (gkinds0_bad (k + 32) (nrr r) w (wideK_nark hk) hn)
  have LK := fun w => Lib.hid (low_x (k.toNat : Int) (by rcases wideK_cases hk with rfl | rfl | rfl | rfl <;> simp) w)
  obtain ⟨e1, e2⟩ := code_sub hk
  rw [e1] at LK
  have e3 : IntKind.u8.wrap (((k + 32).toNat : Nat) : Int) = (((k + 32).toNat : Nat) : Int) := by
    rcases wideK_cases hk with rfl | rfl | rfl | rfl <;> rfl
  have e4 : IntKind.i32.wrap ((k.toNat : Nat) : Int) = ((k.toNat : Nat) : Int) := by
    rcases wideK_cases hk with rfl | rfl | rfl | rfl <;> rfl
  clear h hn
  generalize k + 32 = kn at *
  by_cases hx : 88 ≤ r ∧ r ≤ 90
  · have LC := fun w => Lib.hid (low_x r (by omega) w)
    unfold nrr at HO
    rw [if_pos hx] at HO
    obtain ⟨g1, g2⟩ := hx
    clear hk e1 e2
    go_enter Tryd.func90, Tryd.ntmps90
    go_wp2_with fail
    refine (LC _).out.mono ?_
    rintro e w' ⟨rfl, rfl⟩
    go_wp2_with fail
    refine (LK _).out.mono ?_
    rintro e w' ⟨rfl, rfl⟩
    go_wp2_with fail
    refine (HO _).out.mono ?_
    rintro e w' ⟨v, rfl, rfl⟩
    go_wp2_with fail
    exact ⟨rfl, _, rfl, rfl⟩
  · unfold nrr at HO
    rw [if_neg hx] at HO
    clear hk e1 e2
    by_cases g2 : (88 : Int) ≤ r
    · have g3 : ¬ r ≤ 90 := fun g3 => hx ⟨g2, g3⟩
      clear hx
      go_enter Tryd.func90, Tryd.ntmps90
      go_wp2_with fail
      refine (LK _).out.mono ?_
      rintro e w' ⟨rfl, rfl⟩
      go_wp2_with fail
      refine (HO _).out.mono ?_
      rintro e w' ⟨v, rfl, rfl⟩
      go_wp2_with fail
      exact ⟨rfl, _, rfl, rfl⟩
    · clear hx
      go_enter Tryd.func90, Tryd.ntmps90
      go_wp2_with fail
      refine (LK _).out.mono ?_
      rintro e w' ⟨rfl, rfl⟩
      go_wp2_with fail
      refine (HO _).out.mono ?_
      rintro e w' ⟨v, rfl, rfl⟩
      go_wp2_with fail
      exact ⟨rfl, _, rfl, rfl⟩

set_option maxHeartbeats 1000000 in
theorem gkinds_bad (k : UInt8) (r : Int) (w : World) (hk : IsKind k) (h : ∀ c : UInt8, (c.toNat : Int) = r → gopk false k c = none) :
    Calls Tryd.prog 84 #[.int .u8 k.toNat, .int .i32 r] w (Panics w) := by
  by_cases hw : wideK k = true
  · have C := fun w => Lib.hid (wide_bad k r w hw fun c hc => by
      have := h c hc
      rw [gopk_wide hw] at this
      simpa using this)
    clear h hk
    rcases wideK_cases hw with rfl | rfl | rfl | rfl
    all_goals
      clear hw
      go_enter Tryd.func84, Tryd.ntmps84
      go_wp2_with fail
      refine (C _).out.mono ?_
      rintro e w' ⟨v, rfl, rfl⟩
      go_wp2_with fail
      exact ⟨rfl, _, rfl, rfl⟩
  · simp only [Bool.not_eq_true] at hw
    refine gkinds0_bad k r w (hk.resolve_right (by simp [hw])) fun c hc => ?_
    have := h c hc
    rwa [gopk_of hw] at this
end Go.Proofs.YtpdepihggpfmiabDoor
