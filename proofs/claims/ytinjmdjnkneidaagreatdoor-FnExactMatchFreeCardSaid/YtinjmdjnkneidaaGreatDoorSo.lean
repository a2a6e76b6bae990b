/-
  impl.setOf at sets of states: the set of some numbers.
-/
import Derived.Test.YtinjmdjnkneidaaGreatDoorTopB
import Derived.Test.YtinjmdjnkneidaaGreatDoorWk0
namespace Go.Proofs.YtinjmdjnkneidaaGreatDoor
open Go.RowKit

theorem at_withS (n : Nat) (w : World) : (method 377 44 (.int .u32 n) "loop.example/productprograms/impl.with").run Tryz.prog w = .ok (110, .int .u32 n) w := by kernel_rfl
def inE (E : List Nat) : Nat → Bool := fun j => decide (j ∈ E)
theorem inE_nil : nb 27 (inE []) = 0 := nb_zero 27 (fun _ _ => by simp [inE])
theorem inE_snoc (E : List Nat) (n : Nat) : nb 27 (inE (E ++ [n])) = nb 27 (fun j => inE E j || j == n) := nb_congr fun j _ => by
  unfold inE
  by_cases h : j ∈ E <;> by_cases h2 : j = n <;> simp [h, h2]

set_option maxRecDepth 100000 in
set_option maxHeartbeats 4000000 in
theorem setOf_any (E : List Nat) (hE : ∀ n, n ∈ E → n < 27) (B : Nat) (ev : Value) (w : World) (h : w.ownsRow B 3 1 ev E.length (enC E)) :
    Calls Tryz.prog 172 #[ev] w fun e w' => e = .returned (.int .u32 (nb 27 (inE E) : Nat)) ∧ w = w' := by
  have hlen := own_len h
  obtain ⟨a, cap, rfl, hc, hf⟩ := own_forms h
  have HF := Lib.hid hf
  have HE := Lib.hid hE
  have e0 := inE_nil
  have hmt := at_withS
  clear h hf hE
  unfold maxLen at hlen
  obtain ⟨n, hn⟩ : ∃ n, n = E.length := ⟨_, rfl⟩
  rw [← hn] at hlen hc HF ⊢
  have HL := Lib.hid hn
  clear hn
  go_enter Tryz.func172, Tryz.ntmps172
  go_wp2_with fail
  go_loopw [3, 8] (fun sv ix wr => ∃ k : Nat, k ≤ n ∧ ix = .int .i64 k ∧ sv = .int .u32 (nb 27 (inE (E.take k)) : Nat) ∧ w = wr) (fun _ ix _ => n - (intOf ix).toNat)
  case atStart => exact ⟨0, by omega, rfl, by rw [List.take_zero, e0]; rfl, rfl⟩
  case round =>
    obtain ⟨k, hk, rfl, rfl, rfl⟩ := hrel
    by_cases hlt : k < n
    · have hlt2 : (k : Int) < n := by omega
      obtain ⟨g, rfl, _, hcell⟩ := HF.out (by omega)
      have hkE : k < E.length := by rw [← HL.out]; exact hlt
      have c0 := hcell k (.int .i64 (E[k] : Nat)) (by unfold enC; rw [List.getElem?_map, List.getElem?_eq_getElem hkE]; rfl)
      have W := fun w => Lib.hid (implWithB (inE (E.take k)) E[k] w (HE.out _ (List.getElem_mem hkE)))
      have HT := Lib.hid (List.take_succ_eq_append_getElem hkE)
      generalize E[k] = x at c0 W HT
      clear hcell hkE
      go_wp2_with fail
      refine (W _).out.mono ?_
      rintro e w' ⟨rfl, rfl⟩
      go_wp2_with fail
      exact ⟨⟨k + 1, by omega, by go_num, by rw [HT.out, inE_snoc], trivial⟩, by simp [intOf]; omega⟩
    · have hk2 : k = n := by omega
      have hnl : ¬ (k : Int) < n := by omega
      subst hk2
      have HT := Lib.hid (show E.take k = E from List.take_of_length_le (by rw [← HL.out]; exact Nat.le_refl _))
      go_wp2_with fail
      go_ret
      exact ⟨by rw [HT.out]; rfl, rfl⟩
end Go.Proofs.YtinjmdjnkneidaaGreatDoor
