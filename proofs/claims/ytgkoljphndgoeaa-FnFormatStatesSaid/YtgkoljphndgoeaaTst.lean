/-
  The set of a test: statesOf and PredOf of the program, l2Of and PredOf of the model.
-/
import Derived.Test.YtgkoljphndgoeaaSetW
import Derived.Test.YtgkoljphndgoeaaSetQ
import Derived.Test.YtgkoljphndgoeaaAt0
import Derived.Test.YtgkoljphndgoeaaEvalT
namespace Go.Proofs.Ytgkoljphndgoeaa
open Go.RowKit Tm

/-- The values of the variables in the state with a number. -/
def env (i : Nat) : Nat → Int := one (ax i) (ay i) (az i)
def tst (t : Tm) (i : Nat) : Bool := tru (env i) t

set_option maxHeartbeats 2000000 in
theorem specOf0 (s : ByteArray) (t : Tm) (w : World) (ht0 : Ok true true t) (hs : s.data.toList = t.ser) (hl0 : s.size ≤ 1000000) :
    Calls Try.prog 40 #[.string s] w fun e w' => e = .returned (.string (bs (tb (tst t)))) ∧ Below w.heap.size w w' := by
  have hmk : ∀ w, (Instr.makeSlice 24 (.int .i64 27) (.int .i64 27)).run Try.prog w = .ok (.slice (some ⟨w.heap.size, 0, none⟩) 27 27) (w.alloc (.cells (u8s (zs 27)) 5)) := fun w => mkBytes 27 (by omega) w
  go_enter Try.func40, Try.ntmps40
  go_wp2_with fail
  have HT0 := Lib.hid (BBlk.made 27 w)
  have HB0 := Lib.hid ((Below.refl _ w).alloc (Nat.le_refl _) (.cells (u8s (zs 27)) 5))
  generalize w.alloc (.cells (u8s (zs 27)) 5) = w0 at *
  have HS := Lib.hid hs
  clear hs
  go_loopw [4] (fun i wr => ∃ k : Nat, k ≤ 27 ∧ i = .int .i64 k ∧ BBlk wr w.heap.size (part 27 k (tst t)) ∧ Below w.heap.size w wr) (fun i _ => 27 - (intOf i).toNat)
  case atStart => exact ⟨0, by omega, rfl, HT0.out, HB0.out⟩
  case round =>
    clear HT0 HB0
    obtain ⟨k, hk, rfl, ht, hb⟩ := hrel
    by_cases hlt : k < 27
    · have HT := Lib.hid ht
      have HB := Lib.hid hb
      have HP := Lib.hid (part_step 27 k (tst t) hlt)
      have hl := Lib.hid (part_len 27 k (tst t) (by omega))
      clear ht hb
      have C := fun w => Lib.hid (specAt0 k w (by omega) (by omega))
      have D := fun w => Lib.hid (specOne (ax k) (ay k) (az k) w)
      have H := fun w => Lib.hid (sph_any (env k) (one_bd (at_st3 (i := (k : Int)) (by omega) (by omega))) s hl0 t 0 [] w ht0 (by rw [List.drop_zero, List.append_nil]; exact HS.out))
      go_wp2_with fail
      refine (C _).out.mono ?_
      rintro e w1 ⟨rfl, hb⟩
      have HB1 := Lib.hid (bnext HB.out hb)
      have HT1 := Lib.hid (HT.out.kept hb)
      clear hb
      go_wp2_with fail
      refine (D _).out.mono ?_
      rintro e w2 ⟨rfl, hb⟩
      have HB2 := Lib.hid (bnext HB1.out hb)
      have HT2 := Lib.hid (HT1.out.kept hb)
      clear hb
      go_wp2_with fail
      refine (H _).out.mono ?_
      rintro e w3 ⟨rfl, hb⟩
      have HB3 := Lib.hid (bnext HB2.out hb)
      have HT3 := Lib.hid (HT2.out.kept hb)
      clear hb
      obtain ⟨old, hc⟩ := HT3.out.some k (by rw [hl.out]; omega)
      have hf := HT3.out.free k
      go_wp2_with fail
      refine (specBit _ _).mono ?_
      rintro e w' ⟨rfl, rfl⟩
      go_wp2_with fail
      refine ⟨⟨k + 1, by omega, by go_num, ?_, HB3.out.setCell (p := ⟨w.heap.size, k, none⟩) (Nat.le_refl _) _⟩, by simp [intOf]; omega⟩
      rw [← HP.out]
      exact HT3.out.set k _
    · have hk2 : k = 27 := by omega
      subst hk2
      have HB := Lib.hid hb
      have hv := toStr ht 27 27 (part_len 27 27 _ (by omega)).symm
      rw [part_all] at hv
      clear ht hb hlt
      go_wp2_with fail
      go_ret
      exact ⟨rfl, HB.out⟩
end Go.Proofs.Ytgkoljphndgoeaa
