/-
  Quantifiers over a variable, of the program: some, all, dependsOn; SomeVar, AllVar, PredVars.
-/
import Derived.Test.YtehklmbkkidehaaAsgR
namespace Go.Proofs.Ytehklmbkkidehaa
open Go.RowKit Tm

/-- The states that are in a set with some value of a variable. -/
def someF (c : UInt8) (F : Nat → Bool) : Nat → Bool := fun i => (F (setN c 0 i) || F (setN c 1 i)) || F (setN c 2 i)
def allF (c : UInt8) (F : Nat → Bool) : Nat → Bool := fun i => !someF c (fun j => !F j) i

theorem orb27 (F G : Nat → Bool) : bits .or .u32 (nb 27 F : Nat) (nb 27 G : Nat) = (nb 27 (fun i => F i || G i) : Nat) := by
  have h := nb_lt27 F; have h' := nb_lt27 G
  rw [u32_or_nat _ _ (by omega) (by omega), nb_or2]
theorem orb0 (G : Nat → Bool) : bits .or .u32 0 (nb 27 G : Nat) = (nb 27 G : Nat) := by
  have h' := nb_lt27 G
  rw [show (0 : Int) = ((0 : Nat) : Int) from rfl, u32_or_nat _ _ (by omega) (by omega), Nat.zero_or]

def dgc (n : Nat) : UInt8 := if n = 0 then 48 else if n = 1 then 49 else 50
theorem asg_dig (c : UInt8) (n i : Nat) (h : n < 3) : asg c (.leaf (dgc n)) i = setN c n i := by
  have hc : n = 0 ∨ n = 1 ∨ n = 2 := by omega
  rcases hc with rfl | rfl | rfl <;> rfl
theorem ok_dig (n : Nat) (h : n < 3) : Ok false false (.leaf (dgc n)) := by
  have hc : n = 0 ∨ n = 1 ∨ n = 2 := by omega
  rcases hc with rfl | rfl | rfl <;> rfl

/-- The preimage by giving a variable a digit. -/
theorem preDig (c : UInt8) (hc : c = 120 ∨ c = 121 ∨ c = 122) (n : Nat) (h : n < 3) (F : Nat → Bool) (w : World) :
    Calls Try.prog 24 #[.int .u32 (nb 27 F), .int .i64 27, .func (.func 25) #[.agg #[.string ⟨#[c]⟩, .int .u8 (dgc n).toNat, .slice none 0 0]] #[]] w
      fun e w' => e = .returned (.int .u32 (nb 27 (fun i => F (setN c n i)))) ∧ Below w.heap.size w w' := by
  have k := implPre F (.agg #[.string ⟨#[c]⟩, .int .u8 (dgc n).toNat, .slice none 0 0]) (asg c (.leaf (dgc n))) w (fun i hi => asg_lt (ok_dig n h) hi)
    (fun w' _ i hi => implStep c hc i (.leaf (dgc n)) 0 _ none 0 0 w' hi (ok_dig n h) ⟨rfl, none, 0, rfl⟩)
  rw [show (fun i => F (asg c (.leaf (dgc n)) i)) = fun i => F (setN c n i) from funext fun i => by rw [asg_dig c n i h]] at k
  exact k

end Go.Proofs.Ytehklmbkkidehaa
