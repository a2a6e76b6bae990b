import Derived.Test.YtlhmdpkenkibiaaGreatDoorPp0
import Derived.Test.YtlhmdpkenkibiaaGreatDoorRp0
import Derived.Test.YtlhmdpkenkibiaaGreatDoorTopG2
namespace Go.Proofs.YtlhmdpkenkibiaaGreatDoor
open Go.RowKit Go.Great Tm
theorem rT_skipB (i j : Nat) : rT .skip i j = (i == j) := by
 rw [Bool.eq_iff_iff, rT_iff, beq_iff_eq]
 exact ⟨fun h => (show j = i from h).symm, fun h => (show j = i from h.symm)⟩
theorem poR_congr {p q : Pg} {A B : Nat → Nat → Bool} (h : ∀ i, i < 27 → ∀ j, j < 27 → A i j = B i j) (a c : Nat) : poR p q A a c = poR p q B a c := by
 rw [Bool.eq_iff_iff, poR_iff, poR_iff]
 exact ⟨fun ⟨i, hi, j, hj, hA, hr⟩ => ⟨i, hi, j, hj, (h i hi j hj) ▸ hA, hr⟩, fun ⟨i, hi, j, hj, hA, hr⟩ => ⟨i, hi, j, hj, (h i hi j hj).symm ▸ hA, hr⟩⟩
theorem po_comp (p q : Pg) (A : Nat → Nat → Bool) (a c : Nat) : compR (turnR (rT p)) (compR A (rT q)) a c = poR p q A a c := by
 rw [Bool.eq_iff_iff, compR_iff, poR_iff]
 constructor
 ·rintro ⟨i, hi, h1, h2⟩
  obtain ⟨j, hj, h3, h4⟩ := compR_iff.1 h2
  exact ⟨i, hi, j, hj, h3, by rw [show rT p i a = true from h1, h4]; rfl⟩
 ·rintro ⟨i, hi, j, hj, hA, hr⟩
  rw [Bool.and_eq_true] at hr
  exact ⟨i, hi, hr.1, compR_iff.2 ⟨j, hj, hA, hr.2⟩⟩
theorem po_left (p q : Pg) (A : Nat → Nat → Bool) {a c : Nat} (ha : a < 27) : poR .skip q (poR p .skip A) a c = poR p q A a c := by
 rw [Bool.eq_iff_iff, poR_iff, poR_iff]
 constructor
 ·rintro ⟨i, hi, j, hj, h1, h2⟩
  obtain ⟨u, hu, v, hv, h3, h4⟩ := poR_iff.1 h1
  rw [rT_skipB, Bool.and_eq_true, beq_iff_eq] at h2 h4
  obtain ⟨rfl, h2⟩ := h2
  obtain ⟨h4, rfl⟩ := h4
  exact ⟨u, hu, v, hv, h3, by rw [h4, h2]; rfl⟩
 ·rintro ⟨i, hi, j, hj, hA, hr⟩
  rw [Bool.and_eq_true] at hr
  exact ⟨a, ha, j, hj, poR_iff.2 ⟨i, hi, j, hj, hA, by rw [rT_skipB, hr.1]; simp⟩, by rw [rT_skipB, hr.2]; simp⟩
theorem po_turn (p q : Pg) (A : Nat → Nat → Bool) (a c : Nat) : poR q p (turnR A) a c = turnR (poR p q A) a c := by
 show _ = poR p q A c a
 rw [Bool.eq_iff_iff, poR_iff, poR_iff]
 exact ⟨fun ⟨i, hi, j, hj, hA, hr⟩ => ⟨j, hj, i, hi, hA, by rw [Bool.and_comm]; exact hr⟩, fun ⟨i, hi, j, hj, hA, hr⟩ => ⟨j, hj, i, hi, hA, by rw [Bool.and_comm]; exact hr⟩⟩
theorem pp_at (p q : Pg) (F : Nat → Nat → Bool) (hp : p.ok false) (lp : p.ser.length ≤ 200) (hq : q.ok false) (lq : q.ser.length ≤ 200) : Gives 57 #[.string (bs (relT F)), .string (bs p.ser), .string (bs q.ser)] (.tuple #[.string (bs (relT (poR p q F))), .bool true]) := fun w => by
 have h := implPp_yes (bs (relT F)) (bs p.ser) (bs q.ser) w hp (by simp [bs]) (by rw [bs_size]; exact lp) hq (by simp [bs]) (by rw [bs_size]; exact lq) (rel729_bs F)
 have e : relT (poR p q (relS (bs (relT F)).data.toList)) = relT (poR p q F) := relT_congr fun a _ c _ => poR_congr (fun i hi j hj => relS_bs F hi hj) a c
 unfold ppOut at h
 rw [e] at h
 exact Lib.hid h
set_option maxHeartbeats 1000000 in
theorem ppPairPost_of {x s t y : ByteArray} {b : Bool} (C : Gives 57 #[.string x, .string s, .string t] (.tuple #[.string y, .bool b])) : Gives 34 #[.string x, .string s, .string t] (.string y) := fun w => Lib.hid (by
 unfold Gives at C
 go_enter Tryz.func34, Tryz.ntmps34
 go_wp2_with fail
 refine (C _).out.mono ?_
 rintro e w1 ⟨rfl, hb⟩
 have HB := Lib.hid hb
 clear hb
 go_wp2_with fail
 go_ret
 exact ⟨rfl, HB.out⟩)
set_option maxHeartbeats 1000000 in
theorem ppProg_t (p : Pg) (hp : p.ok false) (lp : p.ser.length ≤ 200) : Gives 60 #[.string (bs p.ser)] (.string (bs (relT (rT p)))) := fun w => Lib.hid (by
 have C := fun w => Lib.hid (implRp_yes (bs p.ser) w hp (by simp [bs]) (by rw [bs_size]; exact lp))
 unfold relV at C
 go_enter Tryz.func60, Tryz.ntmps60
 go_wp2_with fail
 refine (C _).out.mono ?_
 rintro e w1 ⟨rfl, hb⟩
 have HB := Lib.hid hb
 clear hb
 go_wp2_with fail
 go_ret
 exact ⟨rfl, HB.out⟩)
end Go.Proofs.YtlhmdpkenkibiaaGreatDoor
