import Derived.Test.YtgkoljphndgoeaaGreatDoorIm0
import Derived.Test.YtgkoljphndgoeaaGreatDoorCm0
import Derived.Test.YtgkoljphndgoeaaGreatDoorPpc
namespace Go.Proofs.YtgkoljphndgoeaaGreatDoor
open Go.RowKit Go.Great Tm
theorem allO_congr8 {F F' G : Nat → Oc} (h : ∀ j, j < 27 → nb 27 (F j).1 = nb 27 (F' j).1 ∧ (F j).2.1 = (F' j).2.1 ∧ (F j).2.2 = (F' j).2.2) : allO eqO F G = allO eqO F' G := by
 rw [Bool.eq_iff_iff, allO_iff, allO_iff]
 unfold eqO
 constructor
 ·intro k j hj
  obtain ⟨h1, h2, h3⟩ := h j hj
  rw [← h1, ← h2, ← h3]; exact k j hj
 ·intro k j hj
  obtain ⟨h1, h2, h3⟩ := h j hj
  rw [h1, h2, h3]; exact k j hj
theorem seq_T {p : Pg} (hp : p.ok false) {i : Nat} (hi : i < 27) (j : Nat) : rT (.seq p p) i j = sqT (rT p) (rT p) i j := by
 rw [Bool.eq_iff_iff]
 unfold sqT
 rw [upto_fin hp hi]
 simp [rT_iff, Fin]
theorem seq_L {p : Pg} (hp : p.ok false) {i : Nat} (hi : i < 27) : rL (.seq p p) i = sqS (rT p) (rL p) (rL p) i := by
 rw [Bool.eq_iff_iff]
 unfold sqS
 rw [Bool.or_eq_true, upto_fin hp hi]
 simp [rL_iff, Lps]
theorem seq_K {p : Pg} (hp : p.ok false) {i : Nat} (hi : i < 27) : rK (.seq p p) i = sqS (rT p) (rK p) (rK p) i := by
 rw [Bool.eq_iff_iff]
 unfold sqS
 rw [Bool.or_eq_true, upto_fin hp hi]
 simp [rK_iff, Stk]
theorem idem_seq {p : Pg} (hp : p.ok false) : allO eqO (oc (.seq p p)) (oc p) = allO eqO (thO (oc p) (oc p)) (oc p) := by
 rw [← idem_pure, allEq_O]
 exact allO_congr8 fun j hj => ⟨nb_congr fun k _ => seq_T hp hj k, seq_L hp hj, seq_K hp hj⟩
theorem idem_comp {p : Pg} (h : allO eqO (thO (oc p) (oc p)) (oc p) = true) : ∀ i, i < 27 → ∀ j, j < 27 → compR (rT p) (rT p) i j = rT p i j := by
 rw [← idem_pure, allEq_O, allO_iff] at h
 intro i hi j hj
 have k := h i hi
 unfold eqO allO2 at k
 simp only [Bool.and_eq_true, beq_iff_eq] at k
 exact nb_inj k.1.1 j hj
theorem idem_skip : allO eqO (thO (oc .skip) (oc .skip)) (oc .skip) = true := by
 rw [← idem_seq (p := .skip) trivial, allO_iff]
 intro j hj
 unfold eqO oc
 have e1 : nb 27 (rT (.seq .skip .skip) j) = nb 27 (rT .skip j) := nb_congr fun k _ => by
  rw [Bool.eq_iff_iff, rT_iff, rT_iff]
  exact ⟨fun ⟨m, h1, h2⟩ => (show k = j from (show k = m from h2).trans (show m = j from h1)), fun h => ⟨j, rfl, h⟩⟩
 have e2 : rL (.seq .skip .skip) j = rL .skip j := by
  rw [Bool.eq_iff_iff, rL_iff, rL_iff]
  exact ⟨fun h => by rcases h with h | ⟨m, _, h⟩ <;> exact h, fun h => .inl h⟩
 have e3 : rK (.seq .skip .skip) j = rK .skip j := by
  rw [Bool.eq_iff_iff, rK_iff, rK_iff]
  exact ⟨fun h => by rcases h with h | ⟨m, _, h⟩ <;> exact h, fun h => .inl h⟩
 simp only [e1, e2, e3, beq_self_eq_true, Bool.and_self]
theorem szj8 {x : Nat} (h : x ≤ 200) : (¬ 9223372036854775807 < 1 + x) ∧ (¬ 9223372036854775807 < 1 + x + x) := by omega
set_option maxHeartbeats 4000000 in
theorem jp_self (s : ByteArray) {p : Pg} (hp : p.ok false) (hs : s.data.toList = p.ser) (hl : s.size ≤ 200) : ∃ (y : ByteArray) (b : Bool), (b = true → y = (⟨#[59]⟩ : ByteArray) ++ s ++ s ∧ 1 + s.size + s.size ≤ 200) ∧ ∀ w, Calls Tryz.prog 28 #[.string s, .string s] w fun e w' => e = .returned (.tuple #[.string y, .bool b]) ∧ Below w.heap.size w w' := by
 have V := fun w => Lib.hid (implPV_yes s w hp hs hl)
 obtain ⟨k1, k2⟩ := szj8 hl
 clear hs hp
 have esz : ((⟨#[59]⟩ : ByteArray) ++ s ++ s).size = 1 + s.size + s.size := by rw [ByteArray.size_append, ByteArray.size_append]; rfl
 have ES := Lib.hid esz
 by_cases h200 : 1 + s.size + s.size ≤ 200
 ·refine ⟨_, true, fun _ => ⟨rfl, h200⟩, fun w => ?_⟩
  have h201 : ¬ (200 : Int) < 1 + (s.size : Int) + (s.size : Int) := by omega
  clear esz
  go_enter Tryz.func28, Tryz.ntmps28
  go_wp2_with fail
  refine (V _).out.mono ?_
  rintro e w1 ⟨rfl, hb⟩
  have HB := Lib.hid hb
  clear hb
  go_wp2_with fail
  refine (V _).out.mono ?_
  rintro e w2 ⟨rfl, hb⟩
  replace HB := Lib.hid (bnext HB.out hb)
  clear hb
  go_wp2_with fail
  go_ret2
  exact ⟨rfl, HB.out⟩
 ·refine ⟨⟨#[]⟩, false, fun h => (by cases h), fun w => ?_⟩
  have h201 : (200 : Int) < 1 + (s.size : Int) + (s.size : Int) := by omega
  clear esz
  go_enter Tryz.func28, Tryz.ntmps28
  go_wp2_with fail
  refine (V _).out.mono ?_
  rintro e w1 ⟨rfl, hb⟩
  have HB := Lib.hid hb
  clear hb
  go_wp2_with fail
  refine (V _).out.mono ?_
  rintro e w2 ⟨rfl, hb⟩
  replace HB := Lib.hid (bnext HB.out hb)
  clear hb
  go_wp2_with fail
  go_ret2
  exact ⟨rfl, HB.out⟩
end Go.Proofs.YtgkoljphndgoeaaGreatDoor
