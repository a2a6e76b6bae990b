/-
  RightOf and MirrorWide: the program and the model.
-/
import Derived.Test.YtinillnccfgooaaDoorMir
import Derived.Test.YtinillnccfgooaaDoorWp
namespace Go.Proofs.YtinillnccfgooaaDoor
open Go.RowKit Go.Lib Tm

theorem fok_nar {wide : Bool} {P : UInt8 → Prop} (h : ∀ k c l, NarK k → gopk wide k c = some l → P c ∧ ∀ j ∈ l, NarK j) : ∀ (f : Fo) (ks : List UInt8), (∀ k ∈ ks, NarK k) → FOk wide f ks → ∀ b ∈ f.ser, P b := by
  intro f
  induction f with
  | nil => intro ks _ _ b hb; simp [Fo.ser] at hb
  | nd c kids rest ih1 ih2 =>
    rintro ks hn ⟨k, ks', l, rfl, h1, h2, h3⟩ b hb
    obtain ⟨h4, h5⟩ := h k c l (hn k (List.mem_cons_self ..)) h1
    simp only [Fo.ser, List.mem_cons, List.mem_append] at hb
    rcases hb with rfl | hb | hb
    · exact h4
    · exact ih1 l h5 h2 b hb
    · exact ih2 ks' (fun k hk => hn k (List.mem_cons_of_mem _ hk)) h3 b hb
theorem nar_step {wide : Bool} {k c : UInt8} {l : List UInt8} (hk : NarK k) (h : gopk wide k c = some l) : (c.toNat < 128 ∧ (wide = false → ¬ (88 ≤ c.toNat ∧ c.toNat ≤ 90))) ∧ ∀ j ∈ l, NarK j := by
  rw [gopk_of (nark_sub hk).2.2] at h
  refine ⟨⟨gopk0_ascii h, fun hw hc => ?_⟩, gopk0_nark h⟩
  subst hw
  have h3 : c = 88 ∨ c = 89 ∨ c = 90 := by
    rcases (show c.toNat = 88 ∨ c.toNat = 89 ∨ c.toNat = 90 by omega) with e | e | e
    · exact .inl (UInt8.toNat_inj.1 e)
    · exact .inr (.inl (UInt8.toNat_inj.1 e))
    · exact .inr (.inr (UInt8.toNat_inj.1 e))
  have h0 : (gopk0 false k c).isSome = true := by rw [h]; rfl
  clear h hc
  rcases hk with rfl | rfl | rfl | rfl <;> rcases h3 with rfl | rfl | rfl <;> exact absurd h0 (by decide)
theorem pv_bytes {wide : Bool} {l : List UInt8} (h : PValid wide l) : ∀ b ∈ l, b.toNat < 128 ∧ (wide = false → ¬ (88 ≤ b.toNat ∧ b.toNat ≤ 90)) := by
  obtain ⟨p, hp, rfl⟩ := h
  have h1 := fok_nar (wide := wide) (fun k c l hk h => nar_step hk h) (p.fo .nil) [112] (by simp [NarK]) (pg_ok hp rfl)
  rw [pg_ser] at h1
  simpa [Fo.ser] using h1
theorem pv_mir {l : List UInt8} (h : PValid false l) : l.map (mir true) = l.map (mir false) := by
  apply List.map_congr_left
  intro b hb
  have h1 := (pv_bytes h b hb).2 rfl
  by_cases hA : 120 ≤ b.toNat ∧ b.toNat ≤ 122
  · exact UInt8.toNat_inj.1 (by have e1 := mir_low (o := true) hA.1 hA.2; have e2 := mir_low (o := false) hA.1 hA.2; omega)
  · rw [mir_else hA (fun h => h1 ⟨h.1, h.2.1⟩), mir_else hA (fun h => h1 ⟨h.1, h.2.1⟩)]

theorem ipv_yes (s : ByteArray) (w : World) (hv : PValid false s.data.toList) (hl : s.size ≤ 200) : Calls Tryd.prog 49 #[.string s] w fun e w' => e = .returned (.bool true) ∧ Below w.heap.size w w' := by
  obtain ⟨p, hp, hs⟩ := hv
  exact implPV_yes s w hp hs hl

set_option maxHeartbeats 2000000 in
theorem implRightOf_yes (s : ByteArray) (w : World) (hv : PValid false s.data.toList) (hl : s.size ≤ 200) (hT : Lib.Utf8Tabs 1 2 w) :
    Calls Tryd.prog 19 #[.string s] w fun e w' => e = .returned (.tuple #[.string (bs (s.data.toList.map (mir false))), .bool true]) ∧ Below w.heap.size w w' := by
  have HC := fun w => Lib.hid (ipv_yes s w hv hl)
  have HM := fun w hT => mirrored_any s (by omega) (fun b hb => (pv_bytes hv b hb).1) w hT
  rw [pv_mir hv] at HM
  replace HM := fun w hT => Lib.hid (HM w hT)
  have HT := Lib.hid hT
  clear hv hT
  go_enter Tryd.func19, Tryd.ntmps19
  go_wp2_with fail
  refine (HC _).out.mono ?_
  rintro e w1 ⟨rfl, hb⟩
  have HB := Lib.hid hb
  clear hb
  go_wp2_with fail
  refine (HM _ (Utf8Tabs_below HT.out HB.out)).out.mono ?_
  rintro e w2 ⟨rfl, hb⟩
  have HB2 := Lib.hid (bnext HB.out hb)
  clear hb
  go_wp2_with fail
  go_ret2
  exact ⟨rfl, HB2.out⟩

set_option maxHeartbeats 2000000 in
theorem implRightOf_no (s : ByteArray) (w : World) (hv : ¬ (PValid false s.data.toList ∧ s.size ≤ 200)) :
    Calls Tryd.prog 19 #[.string s] w fun e w' => e = .returned (.tuple #[.string ⟨#[]⟩, .bool false]) ∧ Below w.heap.size w w' := by
  have HC := fun w => Lib.hid (implPV_no s w hv)
  clear hv
  go_enter Tryd.func19, Tryd.ntmps19
  go_wp2_with fail
  refine (HC _).out.mono ?_
  rintro e w1 ⟨rfl, hb⟩
  have HB := Lib.hid hb
  clear hb
  go_wp2_with fail
  go_ret2
  exact ⟨rfl, HB.out⟩

set_option maxHeartbeats 2000000 in
theorem specRightOf_yes (s : ByteArray) (w : World) (hv : PValid false s.data.toList) (hl : s.size ≤ 200) :
    Calls Tryd.prog 18 #[.string s] w fun e w' => e = .returned (.tuple #[.string (bs (s.data.toList.map (mir false))), .bool true]) ∧ Below w.heap.size w w' := by
  have HC := fun w => Lib.hid (specPV_yes s w hv hl)
  have HM := fun w => Lib.hid (case_any false s (by omega) w)
  clear hv
  go_enter Tryd.func18, Tryd.ntmps18
  go_wp2_with fail
  refine (HC _).out.mono ?_
  rintro e w1 ⟨rfl, n, rfl⟩
  have HB := Lib.hid (bdrewN (Below.refl w.heap.size w) n)
  generalize w.drewN n = w1 at *
  go_wp2_with fail
  refine (HM _).out.mono ?_
  rintro e w2 ⟨rfl, hb⟩
  have HB2 := Lib.hid (bnext HB.out hb)
  clear hb
  go_wp2_with fail
  go_ret2
  exact ⟨rfl, HB2.out⟩

set_option maxHeartbeats 2000000 in
theorem specRightOf_no (s : ByteArray) (w : World) (hv : ¬ (PValid false s.data.toList ∧ s.size ≤ 200)) :
    Calls Tryd.prog 18 #[.string s] w fun e w' => e = .returned (.tuple #[.string ⟨#[]⟩, .bool false]) ∧ Below w.heap.size w w' := by
  have HC := fun w => Lib.hid (specPV_no s w hv)
  clear hv
  go_enter Tryd.func18, Tryd.ntmps18
  go_wp2_with fail
  refine (HC _).out.mono ?_
  rintro e w1 ⟨rfl, n, rfl⟩
  go_wp2_with fail
  go_ret2
  exact ⟨rfl, bdrewN (Below.refl _ _) n⟩

set_option maxHeartbeats 2000000 in
theorem implMirrorWide_yes (s : ByteArray) (w : World) (hv : PValid true s.data.toList) (hl : s.size ≤ 1000) (hT : Lib.Utf8Tabs 1 2 w) :
    Calls Tryd.prog 21 #[.string s] w fun e w' => e = .returned (.tuple #[.string (bs (s.data.toList.map (mir true))), .bool true]) ∧ Below w.heap.size w w' := by
  have HC := fun w => Lib.hid (implWP_yes s w hv hl)
  have HM := fun w hT => mirrored_any s (by omega) (fun b hb => (pv_bytes hv b hb).1) w hT
  replace HM := fun w hT => Lib.hid (HM w hT)
  have HT := Lib.hid hT
  clear hv hT
  go_enter Tryd.func21, Tryd.ntmps21
  go_wp2_with fail
  refine (HC _).out.mono ?_
  rintro e w1 ⟨rfl, hb⟩
  have HB := Lib.hid hb
  clear hb
  go_wp2_with fail
  refine (HM _ (Utf8Tabs_below HT.out HB.out)).out.mono ?_
  rintro e w2 ⟨rfl, hb⟩
  have HB2 := Lib.hid (bnext HB.out hb)
  clear hb
  go_wp2_with fail
  go_ret2
  exact ⟨rfl, HB2.out⟩

set_option maxHeartbeats 2000000 in
theorem implMirrorWide_no (s : ByteArray) (w : World) (hv : ¬ (PValid true s.data.toList ∧ s.size ≤ 1000)) :
    Calls Tryd.prog 21 #[.string s] w fun e w' => e = .returned (.tuple #[.string ⟨#[]⟩, .bool false]) ∧ Below w.heap.size w w' := by
  have HC := fun w => Lib.hid (implWP_no s w hv)
  clear hv
  go_enter Tryd.func21, Tryd.ntmps21
  go_wp2_with fail
  refine (HC _).out.mono ?_
  rintro e w1 ⟨rfl, hb⟩
  have HB := Lib.hid hb
  clear hb
  go_wp2_with fail
  go_ret2
  exact ⟨rfl, HB.out⟩

set_option maxHeartbeats 2000000 in
theorem specMirrorWide_yes (s : ByteArray) (w : World) (hv : PValid true s.data.toList) (hl : s.size ≤ 1000) :
    Calls Tryd.prog 20 #[.string s] w fun e w' => e = .returned (.tuple #[.string (bs (s.data.toList.map (mir true))), .bool true]) ∧ Below w.heap.size w w' := by
  have HC := fun w => Lib.hid (specWP_yes s w hv hl)
  have HM := fun w => Lib.hid (case_any true s (by omega) w)
  clear hv
  go_enter Tryd.func20, Tryd.ntmps20
  go_wp2_with fail
  refine (HC _).out.mono ?_
  rintro e w1 ⟨rfl, n, rfl⟩
  have HB := Lib.hid (bdrewN (Below.refl w.heap.size w) n)
  generalize w.drewN n = w1 at *
  go_wp2_with fail
  refine (HM _).out.mono ?_
  rintro e w2 ⟨rfl, hb⟩
  have HB2 := Lib.hid (bnext HB.out hb)
  clear hb
  go_wp2_with fail
  go_ret2
  exact ⟨rfl, HB2.out⟩

set_option maxHeartbeats 2000000 in
theorem specMirrorWide_no (s : ByteArray) (w : World) (hv : ¬ (PValid true s.data.toList ∧ s.size ≤ 1000)) :
    Calls Tryd.prog 20 #[.string s] w fun e w' => e = .returned (.tuple #[.string ⟨#[]⟩, .bool false]) ∧ Below w.heap.size w w' := by
  have HC := fun w => Lib.hid (specWP_no s w hv)
  clear hv
  go_enter Tryd.func20, Tryd.ntmps20
  go_wp2_with fail
  refine (HC _).out.mono ?_
  rintro e w1 ⟨rfl, n, rfl⟩
  go_wp2_with fail
  go_ret2
  exact ⟨rfl, bdrewN (Below.refl _ _) n⟩

end Go.Proofs.YtinillnccfgooaaDoor
