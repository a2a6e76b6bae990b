/-
  DeterministicProgram: both sides.
-/
import Derived.Test.YtlhmdpkenkibiaaGreatDoorSo0
import Derived.Test.YtlhmdpkenkibiaaGreatDoorTopR1
import Derived.BigQuiet
namespace Go.Proofs.YtlhmdpkenkibiaaGreatDoor
open Go.RowKit Tm Go.Great

theorem pv_ofA {p : Pg} (hp : p.ok false) (hl : p.ser.length ≤ 200) : PV (bs p.ser) := ⟨⟨p, hp, by simp [bs]⟩, by rw [bs_size]; exact hl⟩
theorem cnt_zeroA (n : Nat) (F : Nat → Bool) : cnt n F = 0 ↔ ∀ a, a < n → F a = false := by
  induction n with
  | zero => simp [cnt]
  | succ n ih =>
    unfold cnt
    constructor
    · intro h a ha
      cases hF : F n with
      | true => rw [hF] at h; simp at h
      | false =>
        rw [hF] at h
        by_cases e : a = n
        · subst e; exact hF
        · exact ih.1 (by simpa using h) a (by omega)
    · intro h
      rw [h n (by omega), ih.2 fun a ha => h a (by omega)]
      rfl
def One (n : Nat) (F : Nat → Bool) : Prop := ∀ a, a < n → ∀ b, b < n → F a = true → F b = true → a = b
theorem cnt_one (n : Nat) (F : Nat → Bool) : cnt n F ≤ 1 ↔ One n F := by
  induction n with
  | zero => simp [cnt, One]
  | succ n ih =>
    unfold cnt
    cases hF : F n with
    | false =>
      simp only [Bool.false_eq_true, if_false, Nat.add_zero]
      rw [ih]
      constructor
      · intro h a ha b hb fa fb
        have ha' : a ≠ n := fun e => by subst e; rw [hF] at fa; cases fa
        have hb' : b ≠ n := fun e => by subst e; rw [hF] at fb; cases fb
        exact h a (by omega) b (by omega) fa fb
      · intro h a ha b hb fa fb
        exact h a (by omega) b (by omega) fa fb
    | true =>
      simp only [if_true]
      constructor
      · intro h a ha b hb fa fb
        have h0 := (cnt_zeroA n F).1 (by omega)
        have ha' : ¬ a < n := fun k => by rw [h0 a k] at fa; cases fa
        have hb' : ¬ b < n := fun k => by rw [h0 b k] at fb; cases fb
        omega
      · intro h
        have : cnt n F = 0 := (cnt_zeroA n F).2 fun a ha => by
          cases fa : F a with
          | false => rfl
          | true => have := h a (by omega) n (by omega) fa hF; omega
        omega
def xyzV : ByteArray := ⟨#[120, 121, 122]⟩
theorem agv_xyz : AgV xyzV := by unfold AgV; decide +kernel
theorem agRel_xyz : ∀ i, i < 27 → ∀ j, j < 27 → agRel xyzV i j = idR i j := by
  have h0 : hasL xyzV 120 = true := by decide +kernel
  have h1 : hasL xyzV 121 = true := by decide +kernel
  have h2 : hasL xyzV 122 = true := by decide +kernel
  unfold agRel
  rw [h0, h1, h2]
  decide +kernel
theorem det_iff (p : Pg) : phB p p (agRel xyzV) (agRel xyzV) = true ↔ ∀ i, i < 27 → One 27 (rT p i) := by
  rw [phB_congr agRel_xyz agRel_xyz]
  unfold phB
  rw [relEq_iff]
  constructor
  · intro h i hi a ha b hb fa fb
    have k := h i hi i hi
    rw [show idR i i = true by simp [idR], Bool.and_true] at k
    have := (frR_iff.1 k) a ha b hb (by rw [fa, fb]; rfl)
    simpa [idR] using this
  · intro h i hi j hj
    cases e : idR i j with
    | false => rw [Bool.and_false]
    | true =>
      rw [Bool.and_true, frR_iff]
      obtain rfl : i = j := by simpa [idR] using e
      intro a ha c hc hr
      rw [Bool.and_eq_true] at hr
      have := h i hi a ha c hc hr.1 hr.2
      subst this
      simp [idR]
set_option maxRecDepth 100000 in
set_option maxHeartbeats 8000000 in
theorem specDp_yes (p : Pg) (w : World) (hp : p.ok false) (hl : p.ser.length ≤ 200) :
    Calls Tryz.prog 26 #[.string (bs p.ser)] w fun e w' => e = .returned (.bool (phB p p (agRel xyzV) (agRel xyzV))) ∧ Below w.heap.size w w' := by
  have V1 := fun w => Lib.hid ((pv_ofA hp hl).t w)
  have R1 := fun w => Lib.hid (run_any p hp hl w)
  have HP := Lib.hid (det_iff p)
  generalize phB p p (agRel xyzV) (agRel xyzV) = res at *
  generalize rT p = T at *
  generalize rL p = L at *
  generalize rK p = K at *
  unfold AllPost at R1
  generalize bs p.ser = s at *
  go_enter Tryz.func26, Tryz.ntmps26
  go_wp2_with fail
  refine (V1 _).out.mono ?_
  rintro e w1 ⟨rfl, hb1⟩
  have HB := Lib.hid hb1
  clear hb1
  go_wp2_with fail
  refine (R1 _).out.mono ?_
  rintro e w3 ⟨rfl, hb3⟩
  have HB3 := Lib.hid (bnext HB.out hb3)
  have K0 := Lib.hid (Blk.new w3 (allC noT noS noS) 57)
  have K1 := Lib.hid (K0.out.row (allC T L K))
  replace HB3 := Lib.hid (Below.setRow (HB3.out.alloc HB3.out.size (.cells (allC noT noS noS) 57)) (g := w3.heap.size) HB3.out.size (allC T L K))
  clear hb3
  go_wp2_with (first
    | (refine ar_alloc rfl rfl (some 3) rfl w3.heap.size rfl ?_)
    | (refine wpList_store_row rfl 57 _ _ rfl w3.heap.size (allC T L K) (by rfl) (by rfl) 57 (allC noT noS noS) K0.out (infoAll' _ _ _) (by rw [allC_size, allC_size]) (allC_one _ _ _) ?_))
  generalize (w3.alloc (.cells (allC noT noS noS) 57)).setRow w3.heap.size (allC T L K) = w4 at *
  clear K0 R1 V1
  go_loopw [4] (fun ix wr => ∃ k : Nat, k ≤ 27 ∧ ix = .int .i64 k ∧ Hid (Below w.heap.size w wr) ∧ Hid (Blk wr w3.heap.size (allC T L K) 57) ∧ Hid (∀ j, j < k → One 27 (T j))) (fun ix _ => 27 - (intOf ix).toNat)
  case atStart => exact ⟨0, by omega, rfl, HB3, K1, fun j hj => by omega⟩
  case round =>
    clear HB HB3 K1
    obtain ⟨k, hk, rfl, Q1, Q2, Q4⟩ := hrel
    by_cases hlt : k < 27
    · have hlt2 : (k : Int) < 27 := by omega
      have x0 : wr.cell? ⟨w3.heap.size, k, none⟩ = some (.int .i64 (nb 27 (T k))) := (Q2.out.cell k).trans (allC_get _ _ _ hlt)
      have C1 := fun w => Lib.hid (specTextS (T k) w)
      have C2 := fun w => Lib.hid (specCount0 (bs (tb (T k))) 27 w (by simpa [bs, tb] using bits_tbn 27 (T k)) (by omega))
      have ec : cnt 27 (hs (bs (tb (T k))).data.toList) = cnt 27 (T k) := cnt_congr fun j hj => by
        rw [show (bs (tb (T k))).data.toList = tbn 27 (T k) by simp [bs, tb], hs_tbn]
        simp [hj]
      rw [ec] at C2
      clear ec
      have HC := Lib.hid (cnt_one 27 (T k))
      have hl1 := Q2.out.lt
      generalize cnt 27 (T k) = n at *
      by_cases h1 : n ≤ 1
      · have h1' : ¬ (1 : Int) < (n : Int) := by omega
        go_wp2_with fail
        refine (C1 _).out.mono ?_
        rintro e w5 ⟨rfl, hb⟩
        have N1 := Lib.hid (bnext Q1.out hb)
        have N2 := Lib.hid (Q2.out.kept hb)
        clear hb
        go_wp2_with fail
        refine (C2 _).out.mono ?_
        rintro e w6 ⟨rfl, rfl⟩
        go_wp2_with fail
        exact ⟨⟨k + 1, by omega, by go_num, N1, N2, fun j hj => by
          by_cases e : j = k
          · subst e; exact HC.out.1 h1
          · exact Q4.out j (by omega)⟩, by simp [intOf]; omega⟩
      · have h1' : (1 : Int) < (n : Int) := by omega
        go_wp2_with fail
        refine (C1 _).out.mono ?_
        rintro e w5 ⟨rfl, hb⟩
        have N1 := Lib.hid (bnext Q1.out hb)
        clear hb
        go_wp2_with fail
        refine (C2 _).out.mono ?_
        rintro e w6 ⟨rfl, rfl⟩
        go_wp2_with fail
        go_ret
        exact ⟨by
          have : res = false := by
            cases hr : res with
            | false => rfl
            | true => exact absurd (HC.out.2 (HP.out.1 hr k hlt)) h1
          rw [this]; rfl, N1.out⟩
    · have hk2 : k = 27 := by omega
      subst hk2
      have HR : Hid (res = true) := HP.out.2 Q4.out
      go_wp2_with fail
      go_ret
      exact ⟨by rw [HR.out]; rfl, Q1.out⟩
set_option maxHeartbeats 4000000 in
theorem specDp_no (s : ByteArray) (w : World) (h : ¬ PV s) : Calls Tryz.prog 26 #[.string s] w fun e w' => e = .returned (.bool false) ∧ Below w.heap.size w w' := by
  have V1 := fun w => Lib.hid (PV.f h w)
  clear h
  go_enter Tryz.func26, Tryz.ntmps26
  go_wp2_with fail
  refine (V1 _).out.mono ?_
  rintro e w1 ⟨rfl, hb1⟩
  have HB := Lib.hid hb1
  clear hb1
  go_wp2_with fail
  go_ret
  exact ⟨rfl, HB.out⟩
set_option maxHeartbeats 4000000 in
theorem implDp (s : ByteArray) (b : Bool) (c1 : ∀ w, Calls Tryz.prog 21 #[.string s, .string s, .string ⟨#[120, 121, 122]⟩, .string ⟨#[120, 121, 122]⟩] w fun e w' => e = .returned (.bool b) ∧ Below w.heap.size w w') (w : World) :
    Calls Tryz.prog 27 #[.string s] w fun e w' => e = .returned (.bool b) ∧ Below w.heap.size w w' := by
  have C1 := Lib.hid c1
  clear c1
  go_enter Tryz.func27, Tryz.ntmps27
  go_wp2_with fail
  refine (C1.out _).mono ?_
  rintro e w1 ⟨rfl, hb1⟩
  have HB := Lib.hid hb1
  clear hb1
  go_wp2_with fail
  go_ret
  exact ⟨rfl, HB.out⟩
/-- Both sides, at any text. -/
theorem dp_any2 (s : ByteArray) : ∃ b : Bool, (∀ w, Calls Tryz.prog 26 #[.string s] w fun e w' => e = .returned (.bool b) ∧ Below w.heap.size w w') ∧ ∀ w, Calls Tryz.prog 27 #[.string s] w fun e w' => e = .returned (.bool b) ∧ Below w.heap.size w w' := by
  by_cases h : PV s
  · obtain ⟨⟨p, hp, hs⟩, hl⟩ := h
    obtain rfl := bs_ofP hs
    have lp : p.ser.length ≤ 200 := by rwa [bs_size] at hl
    exact ⟨_, fun w => specDp_yes p w hp lp, fun w => implDp _ _ (fun w => so_yes p p xyzV xyzV hp lp hp lp agv_xyz agv_xyz w) w⟩
  · exact ⟨false, fun w => specDp_no s w h, fun w => implDp s false (fun w => so_no s s xyzV xyzV (fun k => h k.1) agv_xyz agv_xyz w) w⟩
end Go.Proofs.YtlhmdpkenkibiaaGreatDoor
