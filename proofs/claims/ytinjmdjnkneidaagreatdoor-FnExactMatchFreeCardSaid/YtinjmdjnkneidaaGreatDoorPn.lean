/-
  impl.(pair).number.
-/
import Derived.Test.YtinjmdjnkneidaaGreatDoorTopB
import Derived.Test.YtinjmdjnkneidaaGreatDoorTopY
import Derived.Deep.RegionHeld3
import Derived.Deep.MidRow
namespace Go.Proofs.YtinjmdjnkneidaaGreatDoor
open Go.RowKit

theorem oneB (w : World) (A : Array Value) (t : TypeId) : Blk (w.alloc (.cells A t)) w.heap.size A t ∧ Below w.heap.size w (w.alloc (.cells A t)) ∧ (w.alloc (.cells A t)).heap.size = w.heap.size + 1 :=
  ⟨Blk.new _ _ _, (Below.refl _ _).alloc (Nat.le_refl _) _, by simp⟩
set_option maxRecDepth 100000 in
set_option maxHeartbeats 4000000 in
theorem pair_num (x y z x' y' z' : Int) (h : st3 x y z = true) (h' : st3 x' y' z' = true) (w : World) : Calls Tryz.prog 63 #[.agg #[.int .i64 x, .int .i64 y, .int .i64 z, .int .i64 x', .int .i64 y', .int .i64 z']] w fun e w' => e = .returned (.int .i64 ((ixx x y z + 27 * ixx x' y' z' : Nat) : Int)) ∧ Below w.heap.size w w' := by
  have hi := ixx_lt h
  have hi' := ixx_lt h'
  have I := fun w => Lib.hid (implIx_yes x y z w h)
  rw [← hi.2] at I
  have I' := fun w => Lib.hid (implIx_yes x' y' z' w h')
  rw [← hi'.2] at I'
  have l1 := hi.1
  have l2 := hi'.1
  clear hi hi' h h'
  generalize ixx x y z = i at *
  generalize ixx x' y' z' = j at *
  have ew1 : IntKind.i64.wrap (27 * (j : Int)) = 27 * (j : Int) := IntWalk.i64_in _ (by omega)
  have ew2 : IntKind.i64.wrap ((i : Int) + 27 * (j : Int)) = ((i + 27 * j : Nat) : Int) := (IntWalk.i64_in _ (by omega)).trans (by omega)
  obtain ⟨k0, kb, kz⟩ := oneB w #[.int .i64 x, .int .i64 y, .int .i64 z, .int .i64 x', .int .i64 y', .int .i64 z'] 74
  have K0 := Lib.hid k0
  have KB := Lib.hid kb
  clear k0 kb kz l1 l2
  go_enter Tryz.func63, Tryz.ntmps63
  go_wp2_with fail
  generalize w.alloc (.cells #[.int .i64 x, .int .i64 y, .int .i64 z, .int .i64 x', .int .i64 y', .int .i64 z'] 74) = wx at *
  have q0 := K0.out.cell 0
  have q1 := K0.out.cell 1
  have q2 := K0.out.cell 2
  have q3 := K0.out.cell 3
  have q4 := K0.out.cell 4
  have q5 := K0.out.cell 5
  simp at q0 q1 q2 q3 q4 q5
  have hbb := (Below.refl wx.heap.size wx).drew
  have RG : ∀ w', Below wx.heap.size wx w' → Below wx.heap.size wx w' ∧ w'.cell? ⟨w.heap.size, 0, none⟩ = some (.int .i64 x) ∧ w'.cell? ⟨w.heap.size, 1, none⟩ = some (.int .i64 y) ∧ w'.cell? ⟨w.heap.size, 2, none⟩ = some (.int .i64 z) ∧ w'.cell? ⟨w.heap.size, 3, none⟩ = some (.int .i64 x') ∧ w'.cell? ⟨w.heap.size, 4, none⟩ = some (.int .i64 y') ∧ w'.cell? ⟨w.heap.size, 5, none⟩ = some (.int .i64 z') := fun w' h => ⟨h, ckeep h q0, ckeep h q1, ckeep h q2, ckeep h q3, ckeep h q4, ckeep h q5⟩
  have RG' := Lib.hid RG
  clear RG
  go_region_held3 (fun w' => Below wx.heap.size wx w' ∧ w'.cell? ⟨w.heap.size, 0, none⟩ = some (.int .i64 x) ∧ w'.cell? ⟨w.heap.size, 1, none⟩ = some (.int .i64 y) ∧ w'.cell? ⟨w.heap.size, 2, none⟩ = some (.int .i64 z) ∧ w'.cell? ⟨w.heap.size, 3, none⟩ = some (.int .i64 x') ∧ w'.cell? ⟨w.heap.size, 4, none⟩ = some (.int .i64 y') ∧ w'.cell? ⟨w.heap.size, 5, none⟩ = some (.int .i64 z'))
    ((first
      | exact RG'.out _ (by assumption)
      | (go_split_ands; exact RG'.out _ (by assumption))
      | (go_split_ands; exact RG'.out _ (bnext (by assumption) hq))))
    (first
      | (go_at_call 111; (with_reducible refine (I _).out.mono ?_); rintro e w5 ⟨rfl, hq⟩)
      | (go_at_call 111; (with_reducible refine (I' _).out.mono ?_); rintro e w5 ⟨rfl, hq⟩))
  all_goals
    go_split_ands
    have HF := Lib.hid (bnext KB.out (by assumption))
    go_wp2_with fail
    go_ret
    exact ⟨rfl, HF.out⟩

end Go.Proofs.YtinjmdjnkneidaaGreatDoor
