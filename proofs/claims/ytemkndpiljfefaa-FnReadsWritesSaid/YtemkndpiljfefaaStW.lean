/-
  Walks of the small functions on states: isValue, StateValid, toState, l1In.
-/
import Derived.Test.YtemkndpiljfefaaProg
import Derived.WalkKit
import Derived.WalkSpells
import Derived.WalkLawsBesides
import Derived.Lib.Hide
namespace Go.Proofs.Ytemkndpiljfefaa
open Go.RowKit

def val3 (x : Int) : Bool := decide (0 ≤ x ∧ x ≤ 2)
def st3 (x y z : Int) : Bool := val3 x && val3 y && val3 z

theorem val3_t {n : Int} (h0 : 0 ≤ n) (h1 : n < 3) : val3 n = true := by unfold val3; simp; omega
theorem val3_hi {n : Int} (h1 : ¬ n < 3) : val3 n = false := by unfold val3; simp; omega
theorem val3_lo {n : Int} (h1 : ¬ 0 ≤ n) : val3 n = false := by unfold val3; simp; omega
theorem val3_bd {n : Int} (h : val3 n = true) : 0 ≤ n ∧ n < 3 := by unfold val3 at h; simp at h; omega
theorem val3_nb {n : Int} (h : val3 n = false) : ¬ 0 ≤ n ∨ ¬ n < 3 := by unfold val3 at h; simp at h; omega

end Go.Proofs.Ytemkndpiljfefaa
