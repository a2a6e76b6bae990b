/-
  Drawing a text of a state and a number of a state: DrawParseState, DrawStateAt.
-/
import Derived.Test.YtcjajlnefjcjiaaDraw
import Derived.Test.YtcjajlnefjcjiaaDrawS
import Derived.Test.YtcjajlnefjcjiaaStIx
import Derived.Deep.RegionHeld3
namespace Go.Proofs.Ytcjajlnefjcjiaa
open Go.RowKit

theorem st3_of {x y z : Int} (hx : 0 ≤ x ∧ x < 3) (hy : 0 ≤ y ∧ y < 3) (hz : 0 ≤ z ∧ z < 3) : st3 x y z = true := by
  unfold st3
  rw [val3_t hx.1 hx.2, val3_t hy.1 hy.2, val3_t hz.1 hz.2]; rfl

set_option maxHeartbeats 4000000 in
/-- A number is drawn. -/
theorem drawSA {a : Option Addr} {len cap : Nat} {zs : List Int} {w : World} (h : IsRow w a len cap zs) :
    Calls Try.prog 20 #[.slice a len cap] w fun e w' => ∃ i : Int, e = .returned (.int .i64 i) ∧ Below w.heap.size w w' := by
  have HO := Lib.hid (open_any h)
  clear h
  go_enter Try.func20, Try.ntmps20
  go_wp2_with fail
  refine HO.out.mono ?_
  rintro e w1 ⟨rfl, hr, hb⟩
  have HW1 := Lib.hid hb
  have HR1 := Lib.hid hr
  clear hr hb
  go_wp2_with fail
  refine (pick_any 8 HR1.out (by omega) (by omega) (by omega)).mono ?_
  rintro e w2 ⟨k, k0, k1, rfl, hr, hk⟩
  have HW2 := Lib.hid (HW1.out.trans (hk.below (Nat.le_refl _) HW1.out.size))
  have HR2 := Lib.hid hr
  have hlt := HR2.out.lt
  clear hr hk
  by_cases e0 : k = 0
  · subst e0
    have HL := Lib.hid (Blk.new w2 #[.int .i64 (-1), .int .i64 27, .int .i64 9223372036854775807] 3)
    have hax := (Below.refl _ w2).alloc (Nat.le_refl _) (.cells #[.int .i64 (-1), .int .i64 27, .int .i64 9223372036854775807] 3)
    have HR2x := Lib.hid (HR2.out.kept hax)
    have HW2x := Lib.hid (bnext HW2.out hax)
    have hneL : w2.heap.size ≠ w.heap.size := by omega
    clear hax
    go_wp2_with fail
    refine (num_any 3 3 (fun _ => True) HR2x.out (by omega) HL.out hneL (by omega) (by omega) (fun i hi => by
      have hi : i = 0 ∨ i = 1 ∨ i = 2 := by omega
      rcases hi with rfl | rfl | rfl <;> exact ⟨_, rfl, trivial⟩)).mono ?_
    rintro e w3 ⟨z0, _, rfl, hr, hk⟩
    have HW3 := Lib.hid (HW2x.out.trans (hk.below (Nat.le_refl _) HW2x.out.size))
    clear hr hk
    go_wp2_with fail
    go_ret
    exact ⟨z0, rfl, HW3.out⟩
  · have g0 : (k == 0) = false := by rw [beq_eq_false_iff_ne]; exact e0
    clear e0
    go_wp2_with fail
    refine (pick_any 27 HR2.out (by omega) (by omega) (by omega)).mono ?_
    rintro e w3 ⟨z0, _, _, rfl, hr, hk⟩
    have HW3 := Lib.hid (HW2.out.trans (hk.below (Nat.le_refl _) HW2.out.size))
    clear hr hk
    go_wp2_with fail
    go_ret
    exact ⟨z0, rfl, HW3.out⟩

theorem szf {s : ByteArray} (h : s.size ≤ 1) : (¬ 9223372036854775807 < s.size) ∧ (¬ 9223372036854775807 < s.size + 2) ∧ (¬ 9223372036854775807 < 1 + s.size) ∧ (¬ 9223372036854775807 < 1 + s.size + 1) ∧ (¬ 9223372036854775807 < 2 + s.size) := by omega

set_option maxHeartbeats 4000000 in
/-- A text is drawn. -/
theorem drawPS {a : Option Addr} {len cap : Nat} {zs : List Int} {w : World} (h : IsRow w a len cap zs) :
    Calls Try.prog 18 #[.slice a len cap] w fun e w' => ∃ t : ByteArray, e = .returned (.string t) ∧ Below w.heap.size w w' := by
  have HO := Lib.hid (open_any h)
  clear h
  go_enter Try.func18, Try.ntmps18
  go_wp2_with fail
  refine HO.out.mono ?_
  rintro e w1 ⟨rfl, hr, hb⟩
  have HW1 := Lib.hid hb
  have HR1 := Lib.hid hr
  clear hr hb
  go_wp2_with fail
  refine (spot_any HR1.out (by omega)).mono ?_
  rintro e w2 ⟨x, y, z, hx, hy, hz, rfl, hr, hk⟩
  have HW2 := Lib.hid (HW1.out.trans (hk.below (Nat.le_refl _) HW1.out.size))
  have HR2 := Lib.hid hr
  have HS := Lib.hid (st3_of hx hy hz)
  clear hr hk hx hy hz
  go_wp2_with fail
  refine (specShow x y z _ HS.out).mono ?_
  rintro e w3 ⟨rfl, hb⟩
  have HW3 := Lib.hid (bnext HW2.out hb)
  have HR3 := Lib.hid (HR2.out.kept hb)
  have hT : (txt3 x y z).size = 3 := by simp [txt3, bs_size]
  clear hb HS
  generalize txt3 x y z = T at *
  go_wp2_with fail
  refine (pick_any 3 HR3.out (by omega) (by omega) (by omega)).mono ?_
  rintro e w4 ⟨k, k0, k1, rfl, hr, hk⟩
  have HW4 := Lib.hid (HW3.out.trans (hk.below (Nat.le_refl _) HW3.out.size))
  have HR4 := Lib.hid hr
  clear hr hk
  go_wp2_with fail
  refine (pick_any 4 HR4.out (by omega) (by omega) (by omega)).mono ?_
  rintro e w5 ⟨j, j0, j1, rfl, hr, hk⟩
  have HW5 := Lib.hid (HW4.out.trans (hk.below (Nat.le_refl _) HW4.out.size))
  have HR5 := Lib.hid hr
  have hlt := HR5.out.lt
  have hneL : w5.heap.size ≠ w.heap.size := by omega
  clear hr hk
  by_cases e0 : j = 0
  · subst e0
    have HL := Lib.hid (Blk.new w5 #[.string (⟨#[]⟩), .string (⟨#[48]⟩), .string (⟨#[51]⟩), .string (⟨#[120]⟩)] 9)
    have hax := (Below.refl _ w5).alloc (Nat.le_refl _) (.cells #[.string (⟨#[]⟩), .string (⟨#[48]⟩), .string (⟨#[51]⟩), .string (⟨#[120]⟩)] 9)
    have HR5x := Lib.hid (HR5.out.kept hax)
    have HW5x := Lib.hid (bnext HW5.out hax)
    clear hax
    have hkc : k = 0 ∨ k = 1 ∨ k = 2 := by omega
    rcases hkc with rfl | rfl | rfl
    · go_wp2_with fail
      have hbw := HW5.out.drew
      have hbw2 := HW5x.out.drew
      have HR5y := Lib.hid (HR5x.out.kept (Below.refl _ _).drew)
      have HL5y := Lib.hid HL.out.drew
      have HQ : Hid (∀ i, i < 4 → ∃ s, (#[.string (⟨#[]⟩), .string (⟨#[48]⟩), .string (⟨#[51]⟩), .string (⟨#[120]⟩)] : Array Value)[i]? = some (.string s) ∧ s.size ≤ 1) := fun i hi => by
        have hi : i = 0 ∨ i = 1 ∨ i = 2 ∨ i = 3 := by omega
        rcases hi with rfl | rfl | rfl | rfl <;> exact ⟨_, rfl, by decide⟩
      have C := Lib.hid (of_any 4 4 (fun s => s.size ≤ 1) HR5y.out (by omega) HL5y.out hneL (by omega) (by omega) HQ.out)
      have hsx := HW5x.out.drew.size
      have ew1 : IntKind.i64.wrap 1 = 1 := rfl
      have ew2 : IntKind.i64.wrap 2 = 2 := rfl
      have ew3 : IntKind.i64.wrap 3 = 3 := rfl
      go_region_held3 (fun w' => Below w.heap.size w w')
        (first | assumption | (go_split_ands; assumption))
        (first
          | (go_at_call 41; (with_reducible refine C.out.mono ?_); rintro e w6 ⟨s, hs, rfl, hr, hk⟩; have hbw3 := hbw2.trans (hk.below (Nat.le_refl _) hsx); obtain ⟨n0, n1, n2, n3, n4⟩ := szf hs))
      all_goals
        go_split_ands
        go_wp2_with fail
        go_ret
        exact ⟨_, rfl, by assumption⟩
    · go_wp2_with fail
      have hbw := HW5.out.drew
      have hbw2 := HW5x.out.drew
      have HR5y := Lib.hid (HR5x.out.kept (Below.refl _ _).drew)
      have HL5y := Lib.hid HL.out.drew
      have HQ : Hid (∀ i, i < 4 → ∃ s, (#[.string (⟨#[]⟩), .string (⟨#[48]⟩), .string (⟨#[51]⟩), .string (⟨#[120]⟩)] : Array Value)[i]? = some (.string s) ∧ s.size ≤ 1) := fun i hi => by
        have hi : i = 0 ∨ i = 1 ∨ i = 2 ∨ i = 3 := by omega
        rcases hi with rfl | rfl | rfl | rfl <;> exact ⟨_, rfl, by decide⟩
      have C := Lib.hid (of_any 4 4 (fun s => s.size ≤ 1) HR5y.out (by omega) HL5y.out hneL (by omega) (by omega) HQ.out)
      have hsx := HW5x.out.drew.size
      have ew1 : IntKind.i64.wrap 1 = 1 := rfl
      have ew2 : IntKind.i64.wrap 2 = 2 := rfl
      have ew3 : IntKind.i64.wrap 3 = 3 := rfl
      go_region_held3 (fun w' => Below w.heap.size w w')
        (first | assumption | (go_split_ands; assumption))
        (first
          | (go_at_call 41; (with_reducible refine C.out.mono ?_); rintro e w6 ⟨s, hs, rfl, hr, hk⟩; have hbw3 := hbw2.trans (hk.below (Nat.le_refl _) hsx); obtain ⟨n0, n1, n2, n3, n4⟩ := szf hs))
      all_goals
        go_split_ands
        go_wp2_with fail
        go_ret
        exact ⟨_, rfl, by assumption⟩
    · go_wp2_with fail
      have hbw := HW5.out.drew
      have hbw2 := HW5x.out.drew
      have HR5y := Lib.hid (HR5x.out.kept (Below.refl _ _).drew)
      have HL5y := Lib.hid HL.out.drew
      have HQ : Hid (∀ i, i < 4 → ∃ s, (#[.string (⟨#[]⟩), .string (⟨#[48]⟩), .string (⟨#[51]⟩), .string (⟨#[120]⟩)] : Array Value)[i]? = some (.string s) ∧ s.size ≤ 1) := fun i hi => by
        have hi : i = 0 ∨ i = 1 ∨ i = 2 ∨ i = 3 := by omega
        rcases hi with rfl | rfl | rfl | rfl <;> exact ⟨_, rfl, by decide⟩
      have C := Lib.hid (of_any 4 4 (fun s => s.size ≤ 1) HR5y.out (by omega) HL5y.out hneL (by omega) (by omega) HQ.out)
      have hsx := HW5x.out.drew.size
      have ew1 : IntKind.i64.wrap 1 = 1 := rfl
      have ew2 : IntKind.i64.wrap 2 = 2 := rfl
      have ew3 : IntKind.i64.wrap 3 = 3 := rfl
      go_region_held3 (fun w' => Below w.heap.size w w')
        (first | assumption | (go_split_ands; assumption))
        (first
          | (go_at_call 41; (with_reducible refine C.out.mono ?_); rintro e w6 ⟨s, hs, rfl, hr, hk⟩; have hbw3 := hbw2.trans (hk.below (Nat.le_refl _) hsx); obtain ⟨n0, n1, n2, n3, n4⟩ := szf hs))
      all_goals
        go_split_ands
        go_wp2_with fail
        go_ret
        exact ⟨_, rfl, by assumption⟩
  · have g0 : (j == 0) = false := by rw [beq_eq_false_iff_ne]; exact e0
    clear e0
    by_cases e1 : j = 1
    · subst e1
      have HL := Lib.hid (Blk.new w5 #[.string (bs []), .string (bs [48])] 9)
      have hax := (Below.refl _ w5).alloc (Nat.le_refl _) (.cells #[.string (bs []), .string (bs [48])] 9)
      have HR5x := Lib.hid (HR5.out.kept hax)
      have HW5x := Lib.hid (bnext HW5.out hax)
      clear hax
      go_wp2_with fail
      refine (of_any 2 2 (fun s => s.size ≤ 1) HR5x.out (by omega) HL.out hneL (by omega) (by omega) (fun i hi => by
        have hi : i = 0 ∨ i = 1 := by omega
        rcases hi with rfl | rfl <;> exact ⟨_, rfl, by simp [bs_size]⟩)).mono ?_
      rintro e w6 ⟨s, hs, rfl, hr, hk⟩
      have HW6 := Lib.hid (HW5x.out.trans (hk.below (Nat.le_refl _) HW5x.out.size))
      have hsz : ¬ 9223372036854775807 < T.size + s.size := by omega
      clear hr hk
      go_wp2_with fail
      go_ret
      exact ⟨_, rfl, HW6.out⟩
    · have g1 : (j == 1) = false := by rw [beq_eq_false_iff_ne]; exact e1
      clear e1
      go_wp2_with fail
      go_ret
      exact ⟨_, rfl, HW5.out⟩
end Go.Proofs.Ytcjajlnefjcjiaa
