/-
  Texts of relations: what each function answers at the text of a relation, and when two such texts are the same.
-/
import Derived.Test.YtheclmdpiijakaaRt
import Derived.Test.YtheclmdpiijakaaRv
import Derived.Test.YtheclmdpiijakaaRf6
import Derived.Test.YtheclmdpiijakaaRq
import Derived.Test.YtheclmdpiijakaaSetE
import Derived.Test.YtheclmdpiijakaaDr6
namespace Go.Proofs.Ytheclmdpiijakaa
open Go.RowKit Go.Great

theorem relS_bs (T : Nat → Nat → Bool) {i j : Nat} (hi : i < 27) (hj : j < 27) : relS (bs (relT T)).data.toList i j = T i j := by
  unfold relS
  rw [show (bs (relT T)).data.toList = relT T by simp [bs], relT_eq, hs_tbn]
  have h1 : 27 * i + j < 729 := by omega
  have h2 : (27 * i + j) / 27 = i := by omega
  have h3 : (27 * i + j) % 27 = j := by omega
  rw [h2, h3]
  simp [h1]
theorem rel_bs {s : ByteArray} (h : Rel729 s) : s = bs (relT (relS s.data.toList)) := by
  have h1 := bs_rel h
  rw [relT_eq]
  have e : tbn 729 (fun m => relS s.data.toList (m / 27) (m % 27)) = tbn 729 (hs s.data.toList) := tbn_congr fun m hm => by
    unfold relS
    rw [show 27 * (m / 27) + m % 27 = m by omega]
  rw [e]
  exact h1
theorem rb_inj {T T' : Nat → Nat → Bool} (h : bs (relT T) = bs (relT T')) : ∀ i, i < 27 → ∀ j, j < 27 → T i j = T' i j := by
  intro i hi j hj
  rw [← relS_bs T hi hj, h, relS_bs T' hi hj]
theorem rb_congr {T T' : Nat → Nat → Bool} (h : ∀ i, i < 27 → ∀ j, j < 27 → T i j = T' i j) : bs (relT T) = bs (relT T') := by rw [relT_congr h]
theorem rb_iff {T T' : Nat → Nat → Bool} : bs (relT T) = bs (relT T') ↔ relEq T T' = true := ⟨fun h => relEq_iff.2 (rb_inj h), fun h => rb_congr (relEq_iff.1 h)⟩
theorem rb_max (T : Nat → Nat → Bool) : (bs (relT T)).size ≤ 1000 := by rw [relT_size]; omega
theorem upto_congr {m : Nat} {p p' : Nat → Bool} (h : ∀ q, q < m → p q = p' q) : upto m p = upto m p' := by
  rw [Bool.eq_iff_iff, upto_iff, upto_iff]
  exact ⟨fun ⟨q, h1, h2⟩ => ⟨q, h1, by rw [← h q h1]; exact h2⟩, fun ⟨q, h1, h2⟩ => ⟨q, h1, by rw [h q h1]; exact h2⟩⟩
theorem compR_congr {A B A' B' : Nat → Nat → Bool} (h : ∀ i, i < 27 → ∀ j, j < 27 → A i j = A' i j) (h' : ∀ i, i < 27 → ∀ j, j < 27 → B i j = B' i j) : ∀ i, i < 27 → ∀ j, j < 27 → compR A B i j = compR A' B' i j := by
  intro i hi j hj
  exact upto_congr fun q hq => by rw [h i hi q hq, h' q hq j hj]
theorem cl_mono {T T' : Nat → Nat → Bool} (h : ∀ i, i < 27 → ∀ j, j < 27 → T i j = T' i j) {i j : Nat} (hc : Cl T i j) (hi : i < 27) : Cl T' i j := by
  induction hc with
  | refl i => exact .refl i
  | head h0 h1 _ ih => exact .head h0 (by rw [← h _ hi _ h0]; exact h1) (ih h0)
theorem cloR_congr {T T' : Nat → Nat → Bool} (h : ∀ i, i < 27 → ∀ j, j < 27 → T i j = T' i j) : ∀ i, i < 27 → ∀ j, j < 27 → cloR T i j = cloR T' i j := by
  intro i hi j _
  rw [Bool.eq_iff_iff, cloR_iff, cloR_iff]
  exact ⟨fun hc => cl_mono h hc hi, fun hc => cl_mono (fun i hi j hj => (h i hi j hj).symm) hc hi⟩
theorem relEq_congr {A B A' B' : Nat → Nat → Bool} (h : ∀ i, i < 27 → ∀ j, j < 27 → A i j = A' i j) (h' : ∀ i, i < 27 → ∀ j, j < 27 → B i j = B' i j) : relEq A B = relEq A' B' := by
  rw [Bool.eq_iff_iff, relEq_iff, relEq_iff]
  exact ⟨fun hc i hi j hj => by rw [← h i hi j hj, ← h' i hi j hj]; exact hc i hi j hj, fun hc i hi j hj => by rw [h i hi j hj, h' i hi j hj]; exact hc i hi j hj⟩
theorem cntR_congr {A A' : Nat → Nat → Bool} (h : ∀ i, i < 27 → ∀ j, j < 27 → A i j = A' i j) : ∀ k, k ≤ 27 → cntR A k = cntR A' k := by
  intro k
  induction k with
  | zero => intro _; rfl
  | succ k ih =>
    intro hk
    unfold cntR
    rw [ih (by omega), cnt_same (F := A k) (G := A' k) (h k (by omega))]
theorem postS_congr {F F' : Nat → Bool} {B B' : Nat → Nat → Bool} (h : ∀ i, i < 27 → F i = F' i) (h' : ∀ i, i < 27 → ∀ j, j < 27 → B i j = B' i j) : ∀ j, j < 27 → postS F B 27 j = postS F' B' 27 j := by
  intro j hj
  exact upto_congr fun q hq => by rw [h q hq, h' q hq j hj]
theorem shaR_congr {F F' : Nat → Bool} {T T' : Nat → Nat → Bool} (h : ∀ i, i < 27 → ∀ j, j < 27 → T i j = T' i j) (h' : ∀ i, i < 27 → F i = F' i) : ∀ i, i < 27 → shaR T F i = shaR T' F' i := by
  intro i hi
  exact wi_congr (h i hi) h'
/-- A relation within another one. -/
def inR (A B : Nat → Nat → Bool) : Bool := relEq (fun i j => A i j && B i j) A
theorem inR_iff {A B : Nat → Nat → Bool} : inR A B = true ↔ ∀ i, i < 27 → ∀ j, j < 27 → A i j = true → B i j = true := by
  unfold inR
  rw [relEq_iff]
  constructor
  · intro h i hi j hj ha
    have := h i hi j hj
    rw [ha] at this
    simpa using this
  · intro h i hi j hj
    have := h i hi j hj
    cases ha : A i j
    · rfl
    · rw [this ha]; rfl
/-- What a text is, and what a call gives for it. -/
def Gives (f : FuncId) (a : Array Value) (v : Value) : Prop := ∀ w, Hid (Calls Try.prog f a w fun e w' => e = .returned v ∧ Below w.heap.size w w')

theorem iOr (T U : Nat → Nat → Bool) : Gives 36 #[.string (bs (relT T)), .string (bs (relT U))] (.tuple #[.string (bs (relT (fun i j => T i j || U i j))), .bool true]) := fun w => by
  have h := implOrRel_yes (bs (relT T)) (bs (relT U)) ⟨rel729_bs T, rel729_bs U⟩ w
  unfold TextOk at h
  rw [show relT (fun i j => (relS (bs (relT T)).data.toList) i j || (relS (bs (relT U)).data.toList) i j) = relT (fun i j => T i j || U i j) from relT_congr fun i hi j hj => by rw [relS_bs T hi hj, relS_bs U hi hj]] at h
  exact Lib.hid h
theorem iComp (T U : Nat → Nat → Bool) : Gives 7 #[.string (bs (relT T)), .string (bs (relT U))] (.tuple #[.string (bs (relT (compR T U))), .bool true]) := fun w => by
  have h := implComposeRel_yes (bs (relT T)) (bs (relT U)) ⟨rel729_bs T, rel729_bs U⟩ w
  unfold TextOk at h
  rw [show relT (compR (relS (bs (relT T)).data.toList) (relS (bs (relT U)).data.toList)) = relT (compR T U) from relT_congr (compR_congr (fun i hi j hj => relS_bs T hi hj) fun i hi j hj => relS_bs U hi hj)] at h
  exact Lib.hid h
theorem sComp (T U : Nat → Nat → Bool) : Gives 8 #[.string (bs (relT T)), .string (bs (relT U))] (.tuple #[.string (bs (relT (compR T U))), .bool true]) := fun w => by
  have h := specComposeRel_yes (bs (relT T)) (bs (relT U)) ⟨rel729_bs T, rel729_bs U⟩ w
  unfold TextOk at h
  rw [show relT (compR (relS (bs (relT T)).data.toList) (relS (bs (relT U)).data.toList)) = relT (compR T U) from relT_congr (compR_congr (fun i hi j hj => relS_bs T hi hj) fun i hi j hj => relS_bs U hi hj)] at h
  exact Lib.hid h
theorem iValid (T : Nat → Nat → Bool) : Gives 10 #[.string (bs (relT T))] (.bool true) := fun w => by
  have h := implRelValid_yes (bs (relT T)) (rel729_bs T) w
  unfold BoolIs at h
  exact Lib.hid h
set_option maxHeartbeats 1000000 in
theorem ppOrRel_of {p0 p1 q : ByteArray} {b : Bool} (C : Gives 36 #[.string p0, .string p1] (.tuple #[.string q, .bool b])) : Gives 14 #[.string p0, .string p1] (.string q) := fun w => Lib.hid (by
  unfold Gives at C
  go_enter Try.func14, Try.ntmps14
  go_wp2_with fail
  refine (C _).out.mono ?_
  rintro e w1 ⟨rfl, hb⟩
  have HB := Lib.hid hb
  clear hb
  go_wp2_with fail
  go_ret
  exact ⟨rfl, HB.out⟩)
set_option maxHeartbeats 1000000 in
theorem ppThen_of {p0 p1 q : ByteArray} {b : Bool} (C : Gives 7 #[.string p0, .string p1] (.tuple #[.string q, .bool b])) : Gives 13 #[.string p0, .string p1] (.string q) := fun w => Lib.hid (by
  unfold Gives at C
  go_enter Try.func13, Try.ntmps13
  go_wp2_with fail
  refine (C _).out.mono ?_
  rintro e w1 ⟨rfl, hb⟩
  have HB := Lib.hid hb
  clear hb
  go_wp2_with fail
  go_ret
  exact ⟨rfl, HB.out⟩)
end Go.Proofs.Ytheclmdpiijakaa
