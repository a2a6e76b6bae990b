/-
  Quantifiers over a variable, of the program: some, all, dependsOn; SomeVar, AllVar, PredVars.
-/
import Derived.Test.YtnhadmeadegckaaAsgR
namespace Go.Proofs.Ytnhadmeadegckaa
open Go.RowKit Tm

/-- The states that are in a set with some value of a variable. -/
def someF (c : UInt8) (F : Nat → Bool) : Nat → Bool := fun i => (F (setN c 0 i) || F (setN c 1 i)) || F (setN c 2 i)
def allF (c : UInt8) (F : Nat → Bool) : Nat → Bool := fun i => !someF c (fun j => !F j) i

theorem orb27 (F G : Nat → Bool) : bits .or .u32 (nb 27 F : Nat) (nb 27 G : Nat) = (nb 27 (fun i => F i || G i) : Nat) := by
  have h := nb_lt27 F; have h' := nb_lt27 G
  rw [u32_or_nat _ _ (by omega) (by omega), nb_or2]
theorem orb0 (G : Nat → Bool) : bits .or .u32 0 (nb 27 G : Nat) = (nb 27 G : Nat) := by
  have h' := nb_lt27 G
  rw [show (0 : Int) = ((0 : Nat) : Int) from rfl, u32_or_nat _ _ (by omega) (by omega), Nat.zero_or]

def dgc (n : Nat) : UInt8 := if n = 0 then 48 else if n = 1 then 49 else 50
set_option maxHeartbeats 1000000 in
theorem qDigit (n : Nat) (w : World) (h : n < 3) : Calls Try.prog 94 #[.int .i64 n] w fun e w' => e = .returned (.string ⟨#[dgc n]⟩) ∧ w = w' := by
  have hc : n = 0 ∨ n = 1 ∨ n = 2 := by omega
  clear h
  rcases hc with rfl | rfl | rfl
  all_goals
    go_enter Try.func94, Try.ntmps94
    go_wp2_with fail
    go_ret
    exact ⟨rfl, rfl⟩

theorem asg_dig (c : UInt8) (n i : Nat) (h : n < 3) : asg c (.leaf (dgc n)) i = setN c n i := by
  have hc : n = 0 ∨ n = 1 ∨ n = 2 := by omega
  rcases hc with rfl | rfl | rfl <;> rfl
theorem ok_dig (n : Nat) (h : n < 3) : Ok false false (.leaf (dgc n)) := by
  have hc : n = 0 ∨ n = 1 ∨ n = 2 := by omega
  rcases hc with rfl | rfl | rfl <;> rfl

/-- The preimage by giving a variable a digit. -/
theorem preDig (c : UInt8) (hc : c = 120 ∨ c = 121 ∨ c = 122) (n : Nat) (h : n < 3) (F : Nat → Bool) (w : World) :
    Calls Try.prog 95 #[.int .u32 (nb 27 F), .int .i64 27, .func (.func 96) #[.agg #[.string ⟨#[c]⟩, .int .u8 (dgc n).toNat, .slice none 0 0]] #[]] w
      fun e w' => e = .returned (.int .u32 (nb 27 (fun i => F (setN c n i)))) ∧ Below w.heap.size w w' := by
  have k := implPre F (.agg #[.string ⟨#[c]⟩, .int .u8 (dgc n).toNat, .slice none 0 0]) (asg c (.leaf (dgc n))) w (fun i hi => asg_lt (ok_dig n h) hi)
    (fun w' _ i hi => implStep c hc i (.leaf (dgc n)) 0 _ none 0 0 w' hi (ok_dig n h) ⟨rfl, none, 0, rfl⟩)
  rw [show (fun i => F (asg c (.leaf (dgc n)) i)) = fun i => F (setN c n i) from funext fun i => by rw [asg_dig c n i h]] at k
  exact k

set_option maxRecDepth 100000 in
set_option maxHeartbeats 4000000 in
theorem implSome (c : UInt8) (hc : c = 120 ∨ c = 121 ∨ c = 122) (F : Nat → Bool) (w : World) :
    Calls Try.prog 69 #[.int .u32 (nb 27 F), .string ⟨#[c]⟩] w fun e w' => e = .returned (.int .u32 (nb 27 (someF c F))) ∧ Below w.heap.size w w' := by
  have D0 := fun w => Lib.hid (qDigit 0 w (by omega))
  have D1 := fun w => Lib.hid (qDigit 1 w (by omega))
  have D2 := fun w => Lib.hid (qDigit 2 w (by omega))
  have P0 := fun w => Lib.hid (preDig c hc 0 (by omega) F w)
  have P1 := fun w => Lib.hid (preDig c hc 1 (by omega) F w)
  have P2 := fun w => Lib.hid (preDig c hc 2 (by omega) F w)
  have hmf : ∀ (fn : Fn) (first cap : Array Value) (w : World), (Instr.makeFunc fn first cap).run Try.prog w = .ok (.func fn first cap) w := fun _ _ _ _ => rfl
  have O1 := orb0 (fun i => F (setN c 0 i))
  have O2 := orb27 (fun i => F (setN c 0 i)) (fun i => F (setN c 1 i))
  have O3 := orb27 (fun i => F (setN c 0 i) || F (setN c 1 i)) (fun i => F (setN c 2 i))
  have OO := Lib.hid (And.intro O1 (And.intro O2 O3))
  have G0 := Lib.hid (show ((ByteArray.mk #[dgc 0])[0]'(by show 0 < 1; omega)) = dgc 0 from rfl)
  have G1 := Lib.hid (show ((ByteArray.mk #[dgc 1])[0]'(by show 0 < 1; omega)) = dgc 1 from rfl)
  have G2 := Lib.hid (show ((ByteArray.mk #[dgc 2])[0]'(by show 0 < 1; omega)) = dgc 2 from rfl)
  clear hc O1 O2 O3
  go_enter Try.func69, Try.ntmps69
  go_wp2_with fail
  refine wp_loop_rounds 4 ?_
  rw [rounds_succ]
  go_wp2_with fail
  refine (D0 _).out.mono ?_
  rintro e w' ⟨rfl, rfl⟩
  go_wp2_with fail
  rw [G0.out]
  have HA0 := Lib.hid (bput (Below.refl w.heap.size w) (.cells #[.string ⟨#[c]⟩, .int .u8 (dgc 0).toNat, .slice none 0 0] 94))
  refine (P0 _).out.mono ?_
  rintro e w0 ⟨rfl, hb⟩
  have HB0 := Lib.hid (bnext HA0.out hb)
  clear hb
  go_wp2_with fail
  rw [rounds_succ]
  go_wp2_with fail
  refine (D1 _).out.mono ?_
  rintro e w' ⟨rfl, rfl⟩
  go_wp2_with fail
  rw [G1.out]
  have HA1 := Lib.hid (bput HB0.out (.cells #[.string ⟨#[c]⟩, .int .u8 (dgc 1).toNat, .slice none 0 0] 94))
  refine (P1 _).out.mono ?_
  rintro e w1 ⟨rfl, hb⟩
  have HB1 := Lib.hid (bnext HA1.out hb)
  clear hb
  go_wp2_with fail
  rw [rounds_succ]
  go_wp2_with fail
  refine (D2 _).out.mono ?_
  rintro e w' ⟨rfl, rfl⟩
  go_wp2_with fail
  rw [G2.out]
  have HA2 := Lib.hid (bput HB1.out (.cells #[.string ⟨#[c]⟩, .int .u8 (dgc 2).toNat, .slice none 0 0] 94))
  refine (P2 _).out.mono ?_
  rintro e w2 ⟨rfl, hb⟩
  have HB2 := Lib.hid (bnext HA2.out hb)
  clear hb
  go_wp2_with fail
  rw [rounds_succ]
  go_wp2_with fail
  go_ret
  refine ⟨?_, HB2.out⟩
  refine congrArg (fun z : Int => Ending.returned (.int .u32 z)) ?_
  rw [OO.out.1, OO.out.2.1, OO.out.2.2]
  rfl
end Go.Proofs.Ytnhadmeadegckaa
