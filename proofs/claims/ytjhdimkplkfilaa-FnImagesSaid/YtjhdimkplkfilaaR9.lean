/-
  Images and shadows beside sets: what the program answers at the texts of a relation and of a set.
-/
import Derived.Test.YtjhdimkplkfilaaR8
import Derived.Test.YtjhdimkplkfilaaSetI
import Derived.Test.YtjhdimkplkfilaaPpF
namespace Go.Proofs.Ytjhdimkplkfilaa
open Go.RowKit Go.Great

theorem iNotP (F : Nat → Bool) (w : World) : Hid (Calls Try.prog 76 #[.string (bs (tb F))] w fun e w' => e = .returned (.tuple #[.string (bs (tb (fun i => !F i))), .bool true]) ∧ Below w.heap.size w w') := by
  have h := implNotP_yes (bs (tb F)) w (set27_tb F)
  have e : bs (tb (fun i => !hs (bs (tb F)).data.toList i)) = bs (tb (fun i => !F i)) := bs_ext fun i hi => by rw [hs_bs F i hi]
  rw [e] at h
  exact Lib.hid h
theorem iWithinP (F G : Nat → Bool) (w : World) : Hid (Calls Try.prog 33 #[.string (bs (tb F)), .string (bs (tb G))] w fun e w' => e = .returned (.bool (wi 27 F G)) ∧ w = w') := by
  have h := implPWithin_yes (bs (tb F)) (bs (tb G)) w (set27_tb _) (set27_tb _)
  have e : wi 27 (hs (bs (tb F)).data.toList) (hs (bs (tb G)).data.toList) = wi 27 F G := wi_congr (fun i hi => hs_bs F i hi) (fun i hi => hs_bs G i hi)
  rw [e] at h
  exact Lib.hid h
theorem img_good (R : Nat → Nat → Bool) (F : Nat → Bool) (q : ByteArray) (hg : Set27 q) : ∃ (y : ByteArray) (b : Bool), (∀ w, Hid (Calls Try.prog 31 #[.string (bs (relT R)), .string q] w fun e w' => e = .returned (.tuple #[.string y, .bool true]) ∧ Below w.heap.size w w')) ∧
    (∀ w, Hid (Calls Try.prog 33 #[.string (bs (tb (postS F R 27))), .string q] w fun e w' => e = .returned (.bool b) ∧ w = w')) ∧ (∀ w, Hid (Calls Try.prog 33 #[.string (bs (tb F)), .string y] w fun e w' => e = .returned (.bool b) ∧ w = w')) := by
  obtain ⟨G, rfl⟩ : ∃ G, q = bs (tb G) := ⟨_, (bs_hs hg).symm⟩
  refine ⟨_, wi 27 F (shaR R G), iShadow R G, fun w => ?_, fun w => iWithinP _ _ w⟩
  have h := iWithinP (postS F R 27) G w
  rw [adj] at h
  exact h
theorem img_bad (R : Nat → Nat → Bool) (q : ByteArray) (hg : ¬ Set27 q) (w : World) : Hid (Calls Try.prog 31 #[.string (bs (relT R)), .string q] w fun e w' => e = .returned (.tuple #[.string (bs []), .bool false]) ∧ Below w.heap.size w w') := by
  have h := implShadowOf_no (bs (relT R)) q (fun h => hg h.2) w
  unfold TextOk at h
  exact Lib.hid h
theorem img_not (F : Nat → Bool) (w : World) : Hid (Calls Try.prog 34 #[.string (bs (tb F))] w fun e w' => e = .returned (.string (bs (tb (fun i => !F i)))) ∧ Below w.heap.size w w') := Lib.hid (ppNot_of _ _ true (iNotP F) w)
end Go.Proofs.Ytjhdimkplkfilaa
