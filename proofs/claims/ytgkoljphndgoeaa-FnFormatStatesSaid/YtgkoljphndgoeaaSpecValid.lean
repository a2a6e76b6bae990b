/-
  ExprValid and TestValid of the model: they are true at the texts of at most 200 bytes that are terms of the kind, and false at all others.
-/
import Derived.Test.YtgkoljphndgoeaaExpr
namespace Go.Proofs.Ytgkoljphndgoeaa
open Go.RowKit Tm

theorem below_of_drewN {B : Nat} {a w : World} (h : Below B a w) (n : Nat) : Below B a (w.drewN n) := h.trans ⟨rfl, rfl, rfl, Nat.le_refl _, fun _ _ => rfl⟩

end Go.Proofs.Ytgkoljphndgoeaa
