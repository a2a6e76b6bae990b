/-
  Quantifiers over a variable, of the model: l2Quant, SomeVar, AllVar.
-/
import Derived.Test.YtnhadmeadegckaaQntI
import Derived.Test.YtnhadmeadegckaaAsgS
namespace Go.Proofs.Ytnhadmeadegckaa
open Go.RowKit Tm

/-- What the model's quantifier says at a state. -/
def qF (al : Bool) (c : UInt8) (F : Nat → Bool) : Nat → Bool := if al then allF c F else someF c F
theorem val3_dig (m : Nat) (h : m < 3) : val3 m = true := val3_t (by omega) (by omega)

set_option maxRecDepth 100000 in
set_option maxHeartbeats 16000000 in
theorem specQuant (al : Bool) (p : ByteArray) (c : UInt8) (j : Nat) (hj : VarAt c j) (hp : Set27 p) (w : World) :
    Calls Try.prog 73 #[.string p, .int .i64 j, .bool al] w fun e w' => e = .returned (.string (bs (tb (qF al c (hs p.data.toList))))) ∧ Below w.heap.size w w' := by
  have hmk : ∀ w, (Instr.makeSlice 22 (.int .i64 27) (.int .i64 27)).run Try.prog w = .ok (.slice (some ⟨w.heap.size, 0, none⟩) 27 27) (w.alloc (.cells (u8s (zs 27)) 5)) := fun w => mkBytes 27 (by omega) w
  have hp27 : p.size = 27 := by have := hp.1; simpa using this
  have HP := Lib.hid hp
  have HJ := Lib.hid hj
  clear hp hj
  have HT0 := Lib.hid (BBlk.made 27 w)
  have HB0 := Lib.hid ((Below.refl _ w).alloc (Nat.le_refl _) (.cells (u8s (zs 27)) 5))
  go_enter Try.func73, Try.ntmps73
  go_wp2_with fail
  generalize w.alloc (.cells (u8s (zs 27)) 5) = w0 at *
  go_loopw [8] (fun i wr => ∃ k : Nat, k ≤ 27 ∧ i = .int .i64 k ∧ BBlk wr w.heap.size (part 27 k (qF al c (hs p.data.toList))) ∧ Below w.heap.size w wr) (fun i _ => 27 - (intOf i).toNat)
  case atStart => exact ⟨0, by omega, rfl, HT0.out, HB0.out⟩
  case round =>
    clear HT0 HB0
    obtain ⟨k, hk, rfl, hpt, hb⟩ := hrel
    by_cases hlt : k < 27
    · have HT := Lib.hid hpt
      have HB := Lib.hid hb
      have HS := part_step 27 k (qF al c (hs p.data.toList)) hlt
      have hl := Lib.hid (part_len 27 k (qF al c (hs p.data.toList)) (by omega))
      clear hpt hb
      have A := fun w => Lib.hid (specAt0 k w (by omega) (by omega))
      have W0 := fun w => Lib.hid (specWith c j HJ.out ((0 : Nat) : Int) k w)
      have T0 := set_st3 (c := c) (val3_dig 0 (by omega)) hlt
      have I0 := fun w => Lib.hid (specIx0 _ _ _ w T0)
      rw [← (ixx_lt T0).2, ← setN_eq] at I0
      have L0 := setN_lt (c := c) (val3_dig 0 (by omega)) hlt
      obtain ⟨a0, ha0⟩ : ∃ a, setN c ((0 : Nat) : Int) k = a := ⟨_, rfl⟩
      rw [ha0] at I0 L0
      have hp0 : a0 < p.size := by omega
      have G0 := hs_int p a0 hp0
      have hd0 : p[a0] = 48 ∨ p[a0] = 49 := HP.out.2 a0 (by simpa using hp0)
      clear T0
      have W1 := fun w => Lib.hid (specWith c j HJ.out ((1 : Nat) : Int) k w)
      have T1 := set_st3 (c := c) (val3_dig 1 (by omega)) hlt
      have I1 := fun w => Lib.hid (specIx0 _ _ _ w T1)
      rw [← (ixx_lt T1).2, ← setN_eq] at I1
      have L1 := setN_lt (c := c) (val3_dig 1 (by omega)) hlt
      obtain ⟨a1, ha1⟩ : ∃ a, setN c ((1 : Nat) : Int) k = a := ⟨_, rfl⟩
      rw [ha1] at I1 L1
      have hp1 : a1 < p.size := by omega
      have G1 := hs_int p a1 hp1
      have hd1 : p[a1] = 48 ∨ p[a1] = 49 := HP.out.2 a1 (by simpa using hp1)
      clear T1
      have W2 := fun w => Lib.hid (specWith c j HJ.out ((2 : Nat) : Int) k w)
      have T2 := set_st3 (c := c) (val3_dig 2 (by omega)) hlt
      have I2 := fun w => Lib.hid (specIx0 _ _ _ w T2)
      rw [← (ixx_lt T2).2, ← setN_eq] at I2
      have L2 := setN_lt (c := c) (val3_dig 2 (by omega)) hlt
      obtain ⟨a2, ha2⟩ : ∃ a, setN c ((2 : Nat) : Int) k = a := ⟨_, rfl⟩
      rw [ha2] at I2 L2
      have hp2 : a2 < p.size := by omega
      have G2 := hs_int p a2 hp2
      have hd2 : p[a2] = 48 ∨ p[a2] = 49 := HP.out.2 a2 (by simpa using hp2)
      clear T2
      have hq : qF al c (hs p.data.toList) k = if al then (hs p.data.toList a0 && hs p.data.toList a1 && hs p.data.toList a2) else (hs p.data.toList a0 || hs p.data.toList a1 || hs p.data.toList a2) := by
        rw [← ha0, ← ha1, ← ha2]
        unfold qF allF someF
        cases al
        · rfl
        · simp [Bool.not_or]
      rw [hq, G0, G1, G2] at HS
      clear hq G0 G1 G2 ha0 ha1 ha2
      rcases hd0 with hd0 | hd0 <;> rcases hd1 with hd1 | hd1 <;> rcases hd2 with hd2 | hd2 <;> cases al
      all_goals
        rw [hd0, hd1, hd2] at HS
        have b0 := congrArg UInt8.toNat hd0
        have b1 := congrArg UInt8.toNat hd1
        have b2 := congrArg UInt8.toNat hd2
        simp only [UInt8.reduceToNat] at b0 b1 b2
        clear hd0 hd1 hd2
        replace HS := Lib.hid HS
        go_wp2_with fail
        refine wp_loop_rounds 4 ?_
        rw [rounds_succ]
        go_wp2_with fail
        refine (A _).out.mono ?_
        rintro e w1 ⟨rfl, hb⟩
        have HB1 := Lib.hid (bnext HB.out hb)
        have HT1 := Lib.hid (HT.out.kept hb)
        clear hb
        go_wp2_with fail
        refine (W0 _).out.mono ?_
        rintro e w2 ⟨rfl, hb⟩
        have HB2 := Lib.hid (bnext HB1.out hb)
        have HT2 := Lib.hid (HT1.out.kept hb)
        clear hb
        go_wp2_with fail
        refine (I0 _).out.mono ?_
        rintro e w3 ⟨rfl, hb⟩
        have HB3 := Lib.hid (bnext HB2.out hb)
        have HT3 := Lib.hid (HT2.out.kept hb)
        clear hb
        go_wp2_with fail
        rw [rounds_succ]
        go_wp2_with fail
        refine (A _).out.mono ?_
        rintro e w4 ⟨rfl, hb⟩
        have HB4 := Lib.hid (bnext HB3.out hb)
        have HT4 := Lib.hid (HT3.out.kept hb)
        clear hb
        go_wp2_with fail
        refine (W1 _).out.mono ?_
        rintro e w5 ⟨rfl, hb⟩
        have HB5 := Lib.hid (bnext HB4.out hb)
        have HT5 := Lib.hid (HT4.out.kept hb)
        clear hb
        go_wp2_with fail
        refine (I1 _).out.mono ?_
        rintro e w6 ⟨rfl, hb⟩
        have HB6 := Lib.hid (bnext HB5.out hb)
        have HT6 := Lib.hid (HT5.out.kept hb)
        clear hb
        go_wp2_with fail
        rw [rounds_succ]
        go_wp2_with fail
        refine (A _).out.mono ?_
        rintro e w7 ⟨rfl, hb⟩
        have HB7 := Lib.hid (bnext HB6.out hb)
        have HT7 := Lib.hid (HT6.out.kept hb)
        clear hb
        go_wp2_with fail
        refine (W2 _).out.mono ?_
        rintro e w8 ⟨rfl, hb⟩
        have HB8 := Lib.hid (bnext HB7.out hb)
        have HT8 := Lib.hid (HT7.out.kept hb)
        clear hb
        go_wp2_with fail
        refine (I2 _).out.mono ?_
        rintro e w9 ⟨rfl, hb⟩
        have HB9 := Lib.hid (bnext HB8.out hb)
        have HT9 := Lib.hid (HT8.out.kept hb)
        clear hb
        go_wp2_with fail
        rw [rounds_succ]
        obtain ⟨old, hc⟩ := HT9.out.some k (by rw [hl.out]; omega)
        have hf := HT9.out.free k
        go_wp2_with fail
        refine (specBit _ _).mono ?_
        rintro e w' ⟨rfl, rfl⟩
        go_wp2_with fail
        refine ⟨⟨k + 1, by omega, by go_num, ?_, HB9.out.setCell (p := ⟨w.heap.size, k, none⟩) (Nat.le_refl _) _⟩, by simp [intOf]; omega⟩
        rw [← HS.out]
        exact HT9.out.set k _
    · have hk2 : k = 27 := by omega
      subst hk2
      have HB := Lib.hid hb
      have hv := toStr hpt 27 27 (part_len 27 27 _ (by omega)).symm
      rw [part_all] at hv
      clear hpt hb hlt
      go_wp2_with fail
      go_ret
      exact ⟨rfl, HB.out⟩
end Go.Proofs.Ytnhadmeadegckaa
