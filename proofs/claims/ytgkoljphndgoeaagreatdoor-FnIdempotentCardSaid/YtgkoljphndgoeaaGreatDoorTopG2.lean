import Derived.Test.YtgkoljphndgoeaaGreatDoorTopR1
import Derived.Test.YtgkoljphndgoeaaGreatDoorPh0
import Derived.Test.YtgkoljphndgoeaaGreatDoorTopB
import Derived.Test.YtgkoljphndgoeaaGreatDoorTopQ1
namespace Go.Proofs.YtgkoljphndgoeaaGreatDoor
open Go.RowKit Go.Great
theorem rel_bs {s : ByteArray} (h : Rel729 s) : s = bs (relT (relS s.data.toList)) := by
 have h1 := bs_rel h
 rw [relT_eq]
 have e : tbn 729 (fun m => relS s.data.toList (m / 27) (m % 27)) = tbn 729 (hs s.data.toList) := tbn_congr fun m hm => by
  unfold relS
  rw [show 27 * (m / 27) + m % 27 = m by omega]
 rw [e]
 exact h1
theorem rb_congr {T T' : Nat → Nat → Bool} (h : ∀ i, i < 27 → ∀ j, j < 27 → T i j = T' i j) : bs (relT T) = bs (relT T') := by rw [relT_congr h]
theorem upto_congr {m : Nat} {p p' : Nat → Bool} (h : ∀ q, q < m → p q = p' q) : upto m p = upto m p' := by
 rw [Bool.eq_iff_iff, upto_iff, upto_iff]
 exact ⟨fun ⟨q, h1, h2⟩ => ⟨q, h1, by rw [← h q h1]; exact h2⟩, fun ⟨q, h1, h2⟩ => ⟨q, h1, by rw [h q h1]; exact h2⟩⟩
theorem compR_congr {A B A' B' : Nat → Nat → Bool} (h : ∀ i, i < 27 → ∀ j, j < 27 → A i j = A' i j) (h' : ∀ i, i < 27 → ∀ j, j < 27 → B i j = B' i j) : ∀ i, i < 27 → ∀ j, j < 27 → compR A B i j = compR A' B' i j := by
 intro i hi j hj
 exact upto_congr fun q hq => by rw [h i hi q hq, h' q hq j hj]
theorem relEq_congr {A B A' B' : Nat → Nat → Bool} (h : ∀ i, i < 27 → ∀ j, j < 27 → A i j = A' i j) (h' : ∀ i, i < 27 → ∀ j, j < 27 → B i j = B' i j) : relEq A B = relEq A' B' := by
 rw [Bool.eq_iff_iff, relEq_iff, relEq_iff]
 exact ⟨fun hc i hi j hj => by rw [← h i hi j hj, ← h' i hi j hj]; exact hc i hi j hj, fun hc i hi j hj => by rw [h i hi j hj, h' i hi j hj]; exact hc i hi j hj⟩
def inR (A B : Nat → Nat → Bool) : Bool := relEq (fun i j => A i j && B i j) A
theorem inR_iff {A B : Nat → Nat → Bool} : inR A B = true ↔ ∀ i, i < 27 → ∀ j, j < 27 → A i j = true → B i j = true := by
 unfold inR
 rw [relEq_iff]
 constructor
 ·intro h i hi j hj ha
  have := h i hi j hj
  rw [ha] at this
  simpa using this
 ·intro h i hi j hj
  have := h i hi j hj
  cases ha : A i j
  ·rfl
  ·rw [this ha]; rfl
def Gives (f : FuncId) (a : Array Value) (v : Value) : Prop := ∀ w, Hid (Calls Tryz.prog f a w fun e w' => e = .returned v ∧ Below w.heap.size w w')
theorem iComp (T U : Nat → Nat → Bool) : Gives 88 #[.string (bs (relT T)), .string (bs (relT U))] (.tuple #[.string (bs (relT (compR T U))), .bool true]) := fun w => by
 have h := implComposeRel_yes (bs (relT T)) (bs (relT U)) ⟨rel729_bs T, rel729_bs U⟩ w
 unfold TextOk at h
 rw [show relT (compR (relS (bs (relT T)).data.toList) (relS (bs (relT U)).data.toList)) = relT (compR T U) from relT_congr (compR_congr (fun i hi j hj => relS_bs T hi hj) fun i hi j hj => relS_bs U hi hj)] at h
 exact Lib.hid h
theorem iWithin (T U : Nat → Nat → Bool) : Gives 22 #[.string (bs (relT T)), .string (bs (relT U))] (.bool (inR T U)) := fun w => by
 have h := implRelWithin_yes (bs (relT T)) (bs (relT U)) ⟨rel729_bs T, rel729_bs U⟩ w
 unfold BoolIs at h
 rw [relEq_congr (A' := fun i j => T i j && U i j) (B' := T) (fun i hi j hj => by rw [relS_bs T hi hj, relS_bs U hi hj]) (fun i hi j hj => relS_bs T hi hj)] at h
 exact Lib.hid h
set_option maxHeartbeats 1000000 in
theorem ppThen_of {p0 p1 q : ByteArray} {b : Bool} (C : Gives 88 #[.string p0, .string p1] (.tuple #[.string q, .bool b])) : Gives 20 #[.string p0, .string p1] (.string q) := fun w => Lib.hid (by
 unfold Gives at C
 go_enter Tryz.func20, Tryz.ntmps20
 go_wp2_with fail
 refine (C _).out.mono ?_
 rintro e w1 ⟨rfl, hb⟩
 have HB := Lib.hid hb
 clear hb
 go_wp2_with fail
 go_ret
 exact ⟨rfl, HB.out⟩)
end Go.Proofs.YtgkoljphndgoeaaGreatDoor
namespace Go.Proofs.YtgkoljphndgoeaaGreatDoor
open Go.RowKit
end Go.Proofs.YtgkoljphndgoeaaGreatDoor
namespace Go.Proofs.YtgkoljphndgoeaaGreatDoor
open Go.RowKit Go.Great Tm
def sameTm : Tm := .bin 38 (.bin 61 (.leaf 120) (.leaf 88)) (.bin 38 (.bin 61 (.leaf 121) (.leaf 89)) (.bin 61 (.leaf 122) (.leaf 90)))
set_option maxHeartbeats 1000000 in
theorem ppRel_t (s : ByteArray) {t : Tm} (ht : Ok true true t) (hs : s.data.toList = t.ser) (hl : s.size ≤ 200) : Gives 21 #[.string s] (.string (bs (relT (wdR t)))) := fun w => Lib.hid (by
 have C := fun w => Lib.hid (implRelOf_yes s w ht hs hl)
 clear hs
 go_enter Tryz.func21, Tryz.ntmps21
 go_wp2_with fail
 refine (C _).out.mono ?_
 rintro e w1 ⟨rfl, hb⟩
 have HB := Lib.hid hb
 clear hb
 go_wp2_with fail
 go_ret
 exact ⟨rfl, HB.out⟩)
theorem sameTm_ok : Ok true true sameTm := ⟨true, true, rfl, ⟨false, false, rfl, rfl, rfl⟩, true, true, rfl, ⟨false, false, rfl, rfl, rfl⟩, ⟨false, false, rfl, rfl, rfl⟩⟩
theorem sameTm_id : ∀ i, i < 27 → ∀ j, j < 27 → wdR sameTm i j = idR i j := by decide +kernel
theorem ppSame_t : Gives 21 #[.string ⟨#[38, 61, 120, 88, 38, 61, 121, 89, 61, 122, 90]⟩] (.string (bs (relT idR))) := by
 have h := ppRel_t ⟨#[38, 61, 120, 88, 38, 61, 121, 89, 61, 122, 90]⟩ (t := sameTm) sameTm_ok rfl (by decide)
 rwa [rb_congr sameTm_id] at h
end Go.Proofs.YtgkoljphndgoeaaGreatDoor
