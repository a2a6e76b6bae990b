import Derived.Test.YtgkoljphndgoeaaGreatDoorMh0
import Derived.Test.YtgkoljphndgoeaaGreatDoorTopG2
namespace Go.Proofs.YtgkoljphndgoeaaGreatDoor
open Go.RowKit Go.Great Tm
theorem rel_max8 (F : Nat → Nat → Bool) : (bs (relT F)).size ≤ maxLen := by rw [(rel729_bs F).size]; decide
theorem maR_iff {p q : Pg} {A : Nat → Nat → Bool} {i j : Nat} : maR p q A i j = true ↔ ∀ c, c < 27 → rT p i c = true → ∃ x, x < 27 ∧ rT q j x = true ∧ A c x = true := by
 unfold maR
 rw [Bool.not_eq_true']
 constructor
 ·intro h c hc hr
  cases hu : upto 27 (fun x => rT q j x && A c x) with
  | true =>
   obtain ⟨x, hx, hb⟩ := upto_iff.1 hu
   rw [Bool.and_eq_true] at hb
   exact ⟨x, hx, hb.1, hb.2⟩
  | false =>
   have : upto 27 (fun c => rT p i c && !(upto 27 fun x => rT q j x && A c x)) = true := upto_iff.2 ⟨c, hc, by rw [hr, hu]; rfl⟩
   rw [h] at this; cases this
 ·intro h
  cases hu : upto 27 (fun c => rT p i c && !(upto 27 fun x => rT q j x && A c x)) with
  | false => rfl
  | true =>
   obtain ⟨c, hc, hb⟩ := upto_iff.1 hu
   rw [Bool.and_eq_true, Bool.not_eq_true'] at hb
   obtain ⟨x, hx, h1, h2⟩ := h c hc hb.1
   have : upto 27 (fun x => rT q j x && A c x) = true := upto_iff.2 ⟨x, hx, by rw [h1, h2]; rfl⟩
   rw [hb.2] at this; cases this
theorem maR_congr {p q : Pg} {A B : Nat → Nat → Bool} (h : ∀ i, i < 27 → ∀ j, j < 27 → A i j = B i j) (i j : Nat) : maR p q A i j = maR p q B i j := by
 rw [Bool.eq_iff_iff, maR_iff, maR_iff]
 exact ⟨fun k c hc hr => by obtain ⟨x, hx, h1, h2⟩ := k c hc hr; exact ⟨x, hx, h1, (h c hc x hx) ▸ h2⟩, fun k c hc hr => by obtain ⟨x, hx, h1, h2⟩ := k c hc hr; exact ⟨x, hx, h1, (h c hc x hx).symm ▸ h2⟩⟩
theorem mf_at (p q : Pg) (F : Nat → Nat → Bool) (hp : p.ok false) (lp : p.ser.length ≤ 200) (hq : q.ok false) (lq : q.ser.length ≤ 200) : Gives 18 #[.string (bs p.ser), .string (bs q.ser), .string (bs (relT F))] (.tuple #[.string (bs (relT (maR p q F))), .bool true]) := fun w => by
 have h := implMf_yes (bs p.ser) (bs q.ser) (bs (relT F)) w hp (by simp [bs]) (by rw [bs_size]; exact lp) hq (by simp [bs]) (by rw [bs_size]; exact lq) (rel729_bs F)
 have e : relT (maR p q (relS (bs (relT F)).data.toList)) = relT (maR p q F) := relT_congr fun a _ c _ => maR_congr (fun i hi j hj => relS_bs F hi hj) a c
 unfold mfOut at h
 rw [e] at h
 exact Lib.hid h
theorem mfs_at (p q : Pg) (F : Nat → Nat → Bool) (hp : p.ok false) (lp : p.ser.length ≤ 200) (hq : q.ok false) (lq : q.ser.length ≤ 200) (w : World) : Calls Tryz.prog 19 #[.string (bs p.ser), .string (bs q.ser), .string (bs (relT F))] w fun e w' => e = .returned (.tuple #[.string (bs (relT (maR p q F))), .bool true]) ∧ Below w.heap.size w w' := by
 obtain ⟨b, hb, hc⟩ := ready_any (bs p.ser) (bs q.ser) (bs (relT F)) (rel_max8 F)
 obtain rfl := hb.2 ⟨⟨⟨p, hp, by simp [bs]⟩, by rw [bs_size]; exact lp⟩, ⟨⟨q, hq, by simp [bs]⟩, by rw [bs_size]; exact lq⟩, rel729_bs F⟩
 have h := specMf_yes p q (bs (relT F)) w hp lp hq lq (rel729_bs F) hc
 have e : relT (maR p q (relS (bs (relT F)).data.toList)) = relT (maR p q F) := relT_congr fun a _ c _ => maR_congr (fun i hi j hj => relS_bs F hi hj) a c
 unfold mfOut at h
 rw [e] at h
 exact h
theorem mh_at (p q : Pg) (E F : Nat → Nat → Bool) (hp : p.ok false) (lp : p.ser.length ≤ 200) (hq : q.ok false) (lq : q.ser.length ≤ 200) : Gives 23 #[.string (bs (relT E)), .string (bs p.ser), .string (bs q.ser), .string (bs (relT F))] (.bool (inR E (maR p q F))) := fun w => by
 have h := mh_impl (bs (relT E)) (bs p.ser) (bs q.ser) (bs (relT F)) _ true _ (fun w => (mf_at p q F hp lp hq lq w).out) (fun _ w => (iWithin E (maR p q F) w).out) w
 rw [Bool.true_and] at h
 exact Lib.hid h
end Go.Proofs.YtgkoljphndgoeaaGreatDoor
