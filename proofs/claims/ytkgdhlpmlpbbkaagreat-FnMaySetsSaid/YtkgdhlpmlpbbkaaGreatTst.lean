/-
  The set of a test: statesOf and PredOf of the program, l2Of and PredOf of the model.
-/
import Derived.Test.YtkgdhlpmlpbbkaaGreatSetW
import Derived.Test.YtkgdhlpmlpbbkaaGreatSetQ
import Derived.Test.YtkgdhlpmlpbbkaaGreatAt0
import Derived.Test.YtkgdhlpmlpbbkaaGreatEvalT
namespace Go.Proofs.YtkgdhlpmlpbbkaaGreat
open Go.RowKit Tm

/-- The values of the variables in the state with a number. -/
def env (i : Nat) : Nat → Int := one (ax i) (ay i) (az i)
def tst (t : Tm) (i : Nat) : Bool := tru (env i) t

set_option maxHeartbeats 2000000 in
theorem implStates (t : Tm) (B : Nat) (xc : Int) (ya : Option Addr) (yn ym : Nat) (w : World) (ht : Ok false true t) (hr : RepT w B t (.int .u8 xc) (.slice ya yn ym)) :
    Calls Tryz.prog 118 #[.agg #[.int .u8 xc, .slice ya yn ym]] w fun e w' => e = .returned (.int .u32 (nb 27 (tst t))) ∧ Below w.heap.size w w' := by
  have HR := Lib.hid hr
  clear hr
  go_enter Tryz.func118, Tryz.ntmps118
  go_wp2_with fail
  have HK := Lib.hid (Blk.new w #[.int .u8 xc, .slice ya yn ym] 90)
  have HB := Lib.hid ((Below.refl _ w).alloc (Nat.le_refl _) (.cells #[.int .u8 xc, .slice ya yn ym] 90))
  have HRa := Lib.hid (HR.out.below ((Below.refl _ w).alloc (Nat.le_refl _) (.cells #[.int .u8 xc, .slice ya yn ym] 90)))
  clear HR
  generalize w.alloc (.cells #[.int .u8 xc, .slice ya yn ym] 90) = w0 at *
  go_loopw [3, 7] (fun v i wr => ∃ k : Nat, k ≤ 27 ∧ i = .int .i64 k ∧ v = .int .u32 (nb 27 (lowF (tst t) k)) ∧ Blk wr w.heap.size #[.int .u8 xc, .slice ya yn ym] 90 ∧ Below w.heap.size w wr ∧ RepT wr B t (.int .u8 xc) (.slice ya yn ym)) (fun _ i _ => 27 - (intOf i).toNat)
  case atStart => exact ⟨0, by omega, rfl, by rw [lowF_zero]; rfl, HK.out, HB.out, HRa.out⟩
  case round =>
    clear HK HB HRa
    obtain ⟨k, hk, rfl, rfl, hk0, hb, hr⟩ := hrel
    have HK := Lib.hid hk0
    have HB := Lib.hid hb
    have HR := Lib.hid hr
    clear hk0 hb hr
    by_cases hlt : k < 27
    · have C := fun w => Lib.hid (implAt_yes k w (by omega) (by omega))
      have D := fun w h => Lib.hid (holds_any _ _ _ (at_st3 (i := (k : Int)) (by omega) (by omega)) t B (.int .u8 xc) (.slice ya yn ym) w ht h)
      have E := fun w => Lib.hid (implWithB (lowF (tst t) k) k w hlt)
      go_wp2_with fail
      refine (C _).out.mono ?_
      rintro e w1 ⟨rfl, hb⟩
      have HB1 := Lib.hid (bnext HB.out hb)
      have HK1 := Lib.hid (HK.out.kept hb)
      have HR1 := Lib.hid (HR.out.below hb)
      clear hb
      have q0 := HK1.out.cell 0
      have q1 := HK1.out.cell 1
      simp at q0 q1
      have hl1 := HK1.out.lt
      have HA := Lib.hid (Blk.new w1 #[.int .i64 (ax k), .int .i64 (ay k), .int .i64 (az k)] 33)
      have hbe := (Below.refl _ w1).alloc (Nat.le_refl _) (.cells #[.int .i64 (ax k), .int .i64 (ay k), .int .i64 (az k)] 33)
      have HRx := Lib.hid (HR1.out.below hbe)
      have HBx := Lib.hid (bnext HB1.out hbe)
      have HKx := Lib.hid (HK1.out.kept hbe)
      clear hbe
      cases hF : tst t k
      · have L := Lib.hid (lowF_nil hF)
        have HF := Lib.hid hF
        clear hF
        go_wp2_with fail
        clear q0 q1 hl1
        refine (D _ HRx.out).out.mono ?_
        rintro e w2 ⟨rfl, hb⟩
        have HB2 := Lib.hid (bnext HBx.out hb)
        have HK2 := Lib.hid (HKx.out.kept hb)
        have HR2 := Lib.hid (HRx.out.below hb)
        clear hb
        rw [show tru (one (ax k) (ay k) (az k)) t = false from HF.out]
        go_wp2_with fail
        exact ⟨⟨k + 1, by omega, by go_num, by rw [L.out], HK2.out, HB2.out, HR2.out⟩, by simp [intOf]; omega⟩
      · have L := Lib.hid (lowF_one hF)
        have HF := Lib.hid hF
        clear hF
        go_wp2_with fail
        clear q0 q1 hl1
        refine (D _ HRx.out).out.mono ?_
        rintro e w2 ⟨rfl, hb⟩
        have HB2 := Lib.hid (bnext HBx.out hb)
        have HK2 := Lib.hid (HKx.out.kept hb)
        have HR2 := Lib.hid (HRx.out.below hb)
        clear hb
        rw [show tru (one (ax k) (ay k) (az k)) t = true from HF.out]
        go_wp2_with fail
        refine (E _).out.mono ?_
        rintro e w' ⟨rfl, rfl⟩
        go_wp2_with fail
        exact ⟨⟨k + 1, by omega, by go_num, by rw [L.out], HK2.out, HB2.out, HR2.out⟩, by simp [intOf]; omega⟩
    · have hk2 : k = 27 := by omega
      subst hk2
      go_wp2_with fail
      go_ret
      exact ⟨by rw [← lowF_all]; rfl, HB.out⟩

set_option maxHeartbeats 2000000 in
theorem specOf0 (s : ByteArray) (t : Tm) (w : World) (ht0 : Ok true true t) (hs : s.data.toList = t.ser) (hl0 : s.size ≤ 1000000) :
    Calls Tryz.prog 141 #[.string s] w fun e w' => e = .returned (.string (bs (tb (tst t)))) ∧ Below w.heap.size w w' := by
  have hmk : ∀ w, (Instr.makeSlice 22 (.int .i64 27) (.int .i64 27)).run Tryz.prog w = .ok (.slice (some ⟨w.heap.size, 0, none⟩) 27 27) (w.alloc (.cells (u8s (zs 27)) 5)) := fun w => mkBytes 27 (by omega) w
  go_enter Tryz.func141, Tryz.ntmps141
  go_wp2_with fail
  have HT0 := Lib.hid (BBlk.made 27 w)
  have HB0 := Lib.hid ((Below.refl _ w).alloc (Nat.le_refl _) (.cells (u8s (zs 27)) 5))
  generalize w.alloc (.cells (u8s (zs 27)) 5) = w0 at *
  have HS := Lib.hid hs
  clear hs
  go_loopw [4] (fun i wr => ∃ k : Nat, k ≤ 27 ∧ i = .int .i64 k ∧ BBlk wr w.heap.size (part 27 k (tst t)) ∧ Below w.heap.size w wr) (fun i _ => 27 - (intOf i).toNat)
  case atStart => exact ⟨0, by omega, rfl, HT0.out, HB0.out⟩
  case round =>
    clear HT0 HB0
    obtain ⟨k, hk, rfl, ht, hb⟩ := hrel
    by_cases hlt : k < 27
    · have HT := Lib.hid ht
      have HB := Lib.hid hb
      have HP := Lib.hid (part_step 27 k (tst t) hlt)
      have hl := Lib.hid (part_len 27 k (tst t) (by omega))
      clear ht hb
      have C := fun w => Lib.hid (specAt0 k w (by omega) (by omega))
      have D := fun w => Lib.hid (specOne (ax k) (ay k) (az k) w)
      have H := fun w => Lib.hid (sph_any (env k) (one_bd (at_st3 (i := (k : Int)) (by omega) (by omega))) s hl0 t 0 [] w ht0 (by rw [List.drop_zero, List.append_nil]; exact HS.out))
      go_wp2_with fail
      refine (C _).out.mono ?_
      rintro e w1 ⟨rfl, hb⟩
      have HB1 := Lib.hid (bnext HB.out hb)
      have HT1 := Lib.hid (HT.out.kept hb)
      clear hb
      go_wp2_with fail
      refine (D _).out.mono ?_
      rintro e w2 ⟨rfl, hb⟩
      have HB2 := Lib.hid (bnext HB1.out hb)
      have HT2 := Lib.hid (HT1.out.kept hb)
      clear hb
      go_wp2_with fail
      refine (H _).out.mono ?_
      rintro e w3 ⟨rfl, hb⟩
      have HB3 := Lib.hid (bnext HB2.out hb)
      have HT3 := Lib.hid (HT2.out.kept hb)
      clear hb
      obtain ⟨old, hc⟩ := HT3.out.some k (by rw [hl.out]; omega)
      have hf := HT3.out.free k
      go_wp2_with fail
      refine (specBit _ _).mono ?_
      rintro e w' ⟨rfl, rfl⟩
      go_wp2_with fail
      refine ⟨⟨k + 1, by omega, by go_num, ?_, HB3.out.setCell (p := ⟨w.heap.size, k, none⟩) (Nat.le_refl _) _⟩, by simp [intOf]; omega⟩
      rw [← HP.out]
      exact HT3.out.set k _
    · have hk2 : k = 27 := by omega
      subst hk2
      have HB := Lib.hid hb
      have hv := toStr ht 27 27 (part_len 27 27 _ (by omega)).symm
      rw [part_all] at hv
      clear ht hb hlt
      go_wp2_with fail
      go_ret
      exact ⟨rfl, HB.out⟩
end Go.Proofs.YtkgdhlpmlpbbkaaGreat
