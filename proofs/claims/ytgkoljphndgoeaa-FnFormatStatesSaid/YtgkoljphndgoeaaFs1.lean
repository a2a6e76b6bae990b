/-
  FormatStates of the model.
-/
import Derived.Test.YtgkoljphndgoeaaFsp
import Derived.Test.YtgkoljphndgoeaaSetS
import Derived.Test.YtgkoljphndgoeaaAt0
namespace Go.Proofs.Ytgkoljphndgoeaa
open Go.RowKit

theorem emp_no {x : ByteArray} (h : 0 < x.size) : (x.toList == []) = false := by
  cases e : (x.toList == [])
  · rfl
  · rw [beq_iff_eq] at e
    have : x.toList.length = x.size := by rw [ByteArray.toList_eq]; simp
    rw [e] at this; simp at this; omega
theorem emp_app (t : ByteArray) : (⟨#[]⟩ : ByteArray) ++ t = t := by
  apply ByteArray.ext
  rw [ByteArray.data_append]
  simp
theorem szF {a b : Nat} (h : a ≤ 200) (k : b ≤ 3) : (¬ 9223372036854775807 < a + 1) ∧ (¬ 9223372036854775807 < a + b) ∧ (¬ 9223372036854775807 < a + 1 + b) := by omega
set_option maxRecDepth 100000 in
set_option maxHeartbeats 4000000 in
theorem specFs_yes (p : ByteArray) (w : World) (hp : Set27 p) : Calls Try.prog 5 #[.string p] w fun e w' => e = .returned (.string (fsT (hs p.data.toList))) ∧ Below w.heap.size w w' := by
  have C := fun w => Lib.hid (specPredValid_yes p w hp)
  have hp27 : p.size = 27 := by have := hp.1; simpa using this
  have HG := fun k hk => Lib.hid (hs_int p k hk)
  clear hp
  generalize hs p.data.toList = F at *
  go_enter Try.func5, Try.ntmps5
  go_wp2_with fail
  go_loopw [3, 4] (fun ov i wr => ∃ k : Nat, k ≤ 27 ∧ i = .int .i64 k ∧ ov = .string (jnS (txL (fsI F k))) ∧ Below w.heap.size w wr) (fun _ i _ => 27 - (intOf i).toNat)
  case atStart => exact ⟨0, by omega, rfl, rfl, Below.refl _ _⟩
  case round =>
    obtain ⟨k, hk, rfl, rfl, hb⟩ := hrel
    have HB := Lib.hid hb
    clear hb
    by_cases hlt : k < 27
    · have hlt2 : (k : Int) < 27 := by omega
      have hk0 : (0 : Int) ≤ (k : Int) := by omega
      have hkp : k < p.size := by omega
      have hz := jnS_size (fsI F k)
      have hl := fsI_len F k
      have hgk := (HG k hkp).out
      have A := fun w => Lib.hid (specAt0 k w (by omega) (by omega))
      have S := fun w => Lib.hid (specShow (ax k) (ay k) (az k) w (at_st3 (i := (k : Int)) (by omega) (by omega)))
      rw [show txt3 (ax k) (ay k) (az k) = txtAt (k : Nat) from rfl] at S
      have hts := txtAt_size (k : Nat)
      cases hF : F k
      · have hn : ((p[k].toNat : Int) == 49) = false := by rw [← hgk, hF]
        have HS : Hid (jnS (txL (fsI F (k + 1))) = jnS (txL (fsI F k))) := by
          have : fsI F (k + 1) = fsI F k := by show (if F k then _ else _) = _; rw [hF]; rfl
          show jnS (txL (fsI F (k + 1))) = _
          rw [this]
        clear hgk hF S A hts
        generalize jnS (txL (fsI F k)) = x at *
        go_wp2_with fail
        refine (C _).out.mono ?_
        rintro e w' ⟨rfl, rfl⟩
        go_wp2_with fail
        exact ⟨⟨k + 1, by omega, by go_num, by rw [HS.out], HB.out⟩, by simp [intOf]; omega⟩
      · have hn : ((p[k].toNat : Int) == 49) = true := by rw [← hgk, hF]
        have HS : Hid (fsI F (k + 1) = fsI F k ++ [k]) := by show (if F k then _ else _) = _; rw [hF]; rfl
        by_cases hnil : fsI F k = []
        · have HR : Hid (jnS (txL (fsI F (k + 1))) = txtAt (k : Nat)) := by rw [HS.out, hnil]; exact jnS_one _
          rw [hnil]
          rw [show jnS (txL []) = ⟨#[]⟩ from rfl]
          clear hgk hF hnil HS hz
          generalize txtAt (k : Nat) = t at *
          go_wp2_with fail
          refine (C _).out.mono ?_
          rintro e w' ⟨rfl, rfl⟩
          go_wp2_with fail
          refine (A _).out.mono ?_
          rintro e w1 ⟨rfl, hb⟩
          replace HB := Lib.hid (bnext HB.out hb)
          clear hb
          go_wp2_with fail
          refine (S _).out.mono ?_
          rintro e w2 ⟨rfl, hb⟩
          replace HB := Lib.hid (bnext HB.out hb)
          clear hb
          go_wp2_with fail
          exact ⟨⟨k + 1, by omega, by go_num, by rw [HR.out, emp_app], HB.out⟩, by simp [intOf]; omega⟩
        · have HR : Hid (jnS (txL (fsI F (k + 1))) = (jnS (txL (fsI F k)) ++ ⟨#[32]⟩) ++ txtAt (k : Nat)) := by rw [HS.out, txL_snoc]; exact jnS_snoc _ (fun h => hnil (txL_nil.1 h))
          have he := emp_no (jnS_pos hnil)
          obtain ⟨s1, s2, s3⟩ := szF (a := (jnS (txL (fsI F k))).size) (b := (txtAt (k : Nat)).size) (by omega) (by omega)
          clear hgk hF hnil HS hz
          generalize jnS (txL (fsI F k)) = x at *
          generalize txtAt (k : Nat) = t at *
          go_wp2_with fail
          refine (C _).out.mono ?_
          rintro e w' ⟨rfl, rfl⟩
          go_wp2_with fail
          refine (A _).out.mono ?_
          rintro e w1 ⟨rfl, hb⟩
          replace HB := Lib.hid (bnext HB.out hb)
          clear hb
          go_wp2_with fail
          refine (S _).out.mono ?_
          rintro e w2 ⟨rfl, hb⟩
          replace HB := Lib.hid (bnext HB.out hb)
          clear hb
          go_wp2_with fail
          exact ⟨⟨k + 1, by omega, by go_num, by rw [HR.out], HB.out⟩, by simp [intOf]; omega⟩
    · have hk2 : k = 27 := by omega
      subst hk2
      clear HG
      by_cases hnil : fsI F 27 = []
      · have HR : Hid (fsT F = ⟨#[45]⟩) := if_pos hnil
        rw [hnil]
        rw [show jnS (txL []) = ⟨#[]⟩ from rfl]
        clear hnil
        go_wp2_with fail
        refine (C _).out.mono ?_
        rintro e w' ⟨rfl, rfl⟩
        go_wp2_with fail
        go_ret
        exact ⟨by rw [HR.out]; rfl, HB.out⟩
      · have HR : Hid (fsT F = jnS (txL (fsI F 27))) := if_neg hnil
        have he := emp_no (jnS_pos hnil)
        generalize jnS (txL (fsI F 27)) = x at *
        clear hnil
        go_wp2_with fail
        go_ret
        exact ⟨by rw [HR.out]; rfl, HB.out⟩
set_option maxHeartbeats 2000000 in
theorem specFs_no (p : ByteArray) (w : World) (hp : ¬ Set27 p) (hm : p.size ≤ maxLen) : Calls Try.prog 5 #[.string p] w fun e w' => e = .returned (.string ⟨#[]⟩) ∧ Below w.heap.size w w' := by
  have C := fun w => Lib.hid (specPredValid_no p w hp hm)
  clear hp hm
  go_enter Try.func5, Try.ntmps5
  go_wp2_with fail
  refine wp_loop_rounds 1 ?_
  rw [rounds_succ]
  go_wp2_with fail
  refine (C _).out.mono ?_
  rintro e w' ⟨rfl, rfl⟩
  go_wp2_with fail
  refine (C _).out.mono ?_
  rintro e w' ⟨rfl, rfl⟩
  go_wp2_with fail
  go_ret
  exact ⟨rfl, Below.refl _ _⟩
end Go.Proofs.Ytgkoljphndgoeaa
