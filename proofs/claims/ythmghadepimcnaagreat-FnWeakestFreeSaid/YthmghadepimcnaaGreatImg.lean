/-
  Images and preimages of a set by a step.
-/
import Derived.Test.YthmghadepimcnaaGreatAsg
namespace Go.Proofs.YthmghadepimcnaaGreat
open Go.RowKit Tm

theorem at_has (n : Nat) (w : World) : (method 329 54 (.int .u32 n) "loop.example/productprograms/impl.has").run Tryz.prog w = .ok (101, .int .u32 n) w := by kernel_rfl
theorem at_with (n : Nat) (w : World) : (method 329 54 (.int .u32 n) "loop.example/productprograms/impl.with").run Tryz.prog w = .ok (103, .int .u32 n) w := by kernel_rfl

set_option maxHeartbeats 2000000 in
theorem implPre (F : Nat → Bool) (recv : Value) (st : Nat → Nat) (w : World) (hst : ∀ i, i < 27 → st i < 27)
    (S : ∀ w', Below w.heap.size w w' → ∀ i, i < 27 → Calls Tryz.prog 108 #[recv, .int .i64 (i : Nat)] w' fun e w2 => e = .returned (.int .i64 (st i : Nat)) ∧ Below w'.heap.size w' w2) :
    Calls Tryz.prog 107 #[.int .u32 (nb 27 F), .int .i64 27, .func (.func 108) #[recv] #[]] w fun e w' => e = .returned (.int .u32 (nb 27 (fun i => F (st i)))) ∧ Below w.heap.size w w' := by
  have HS := Lib.hid S
  have HT := Lib.hid hst
  clear S hst
  go_enter Tryz.func107, Tryz.ntmps107
  go_wp2_with fail
  go_loopw [7, 10] (fun v i wr => ∃ k : Nat, k ≤ 27 ∧ i = .int .i64 k ∧ v = .int .u32 (nb 27 (lowF (fun i => F (st i)) k)) ∧ Below w.heap.size w wr) (fun _ i _ => 27 - (intOf i).toNat)
  case atStart => exact ⟨0, by omega, rfl, by rw [lowF_zero]; rfl, Below.refl _ _⟩
  case round =>
    obtain ⟨k, hk, rfl, rfl, hb⟩ := hrel
    have HB := Lib.hid hb
    clear hb
    by_cases hlt : k < 27
    · have C := Lib.hid (HS.out wr HB.out k hlt)
      go_wp2_with fail
      refine C.out.mono ?_
      rintro e w1 ⟨rfl, hb⟩
      have HB1 := Lib.hid (bnext HB.out hb)
      clear hb
      have h1 := at_has (nb 27 F)
      have h2 := at_with (nb 27 (lowF (fun i => F (st i)) k))
      have D := fun w => Lib.hid (implHasB F (st k) w (HT.out k hlt))
      have E := fun w => Lib.hid (implWithB (lowF (fun i => F (st i)) k) k w hlt)
      cases hF : F (st k)
      · rw [hF] at D
        have L := Lib.hid (lowF_nil (F := fun i => F (st i)) (k := k) hF)
        clear hF
        go_wp2_with fail
        refine (D _).out.mono ?_
        rintro e w' ⟨rfl, rfl⟩
        go_wp2_with fail
        exact ⟨⟨k + 1, by omega, by go_num, by rw [L.out], HB1.out⟩, by simp [intOf]; omega⟩
      · rw [hF] at D
        have L := Lib.hid (lowF_one (F := fun i => F (st i)) (k := k) hF)
        clear hF
        go_wp2_with fail
        refine (D _).out.mono ?_
        rintro e w' ⟨rfl, rfl⟩
        go_wp2_with fail
        refine (E _).out.mono ?_
        rintro e w' ⟨rfl, rfl⟩
        go_wp2_with fail
        exact ⟨⟨k + 1, by omega, by go_num, by rw [L.out], HB1.out⟩, by simp [intOf]; omega⟩
    · have hk2 : k = 27 := by omega
      subst hk2
      go_wp2_with fail
      go_ret
      exact ⟨by rw [← lowF_all]; rfl, HB.out⟩

end Go.Proofs.YthmghadepimcnaaGreat
