/-
  The model's functions on sets: HasState, AndPred, OrPred, NotPred, PredWithin, CountPred.
-/
import Derived.Test.YtgkoljphndgoeaaSetS
import Derived.Test.YtgkoljphndgoeaaIx0
namespace Go.Proofs.Ytgkoljphndgoeaa
open Go.RowKit

theorem set27_size {p : ByteArray} (h : Set27 p) : p.size = 27 := by have := h.1; simpa using this

theorem wi_eq (p q : ByteArray) (hp : Set27 p) : ((bs (tb (fun i => hs p.data.toList i && hs q.data.toList i))).toList == p.toList) = wi 27 (hs p.data.toList) (hs q.data.toList) := by
  rw [bytes_eq, Bool.eq_iff_iff, decide_eq_true_eq, wi_iff]
  have e : bs p.data.toList = p := by apply ByteArray.ext; simp [bs]
  constructor
  · intro h i hi hF
    have h2 : tb (fun i => hs p.data.toList i && hs q.data.toList i) = tbn 27 (hs p.data.toList) := by
      rw [tbn_hs hp]
      have := congrArg (fun b : ByteArray => b.data.toList) h
      simpa [bs] using this
    have h3 := tbn_inj h2 i hi
    simpa [hF] using h3
  · intro h
    rw [show tb (fun i => hs p.data.toList i && hs q.data.toList i) = tbn 27 (hs p.data.toList) from tbn_congr fun i hi => by
      cases hF : hs p.data.toList i
      · rfl
      · simp [h i hi hF], tbn_hs hp, e]

/-- The number of a state. -/
def ixs (x y z : Int) : Nat := (x + 3 * y + 9 * z).toNat
theorem ixs_lt {x y z : Int} (h : st3 x y z = true) : ixs x y z < 27 ∧ ((ixs x y z : Nat) : Int) = x + 3 * y + 9 * z := by
  have h := st3_lt h
  unfold ixs; omega

end Go.Proofs.Ytgkoljphndgoeaa
