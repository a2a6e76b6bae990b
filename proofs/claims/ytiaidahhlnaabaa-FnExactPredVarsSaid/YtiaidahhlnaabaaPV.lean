/-
  PredVars of the model.
-/
import Derived.Test.YtiaidahhlnaabaaQntI
import Derived.Test.YtiaidahhlnaabaaAsgS
import Derived.BigQuiet
import Derived.Deep.RegionHeld3
namespace Go.Proofs.Ytiaidahhlnaabaa
open Go.RowKit Tm

/-- Does a set depend on a variable, up to a state? -/
def depU (c : UInt8) (F : Nat → Bool) (k : Nat) : Bool := (List.range k).any fun i => F i != F (setN c 0 i)
theorem depU_succ (c : UInt8) (F : Nat → Bool) (k : Nat) : depU c F (k + 1) = (depU c F k || F k != F (setN c 0 k)) := by simp [depU, List.range_succ]

theorem byte_neq {s : ByteArray} {n : Nat} (h : Bits n s.data.toList) (a b : Nat) (ha : a < s.size) (hb : b < s.size) : ((s[a].toNat : Int) != (s[b].toNat : Int)) = (hs s.data.toList a != hs s.data.toList b) := by
  rw [hs_int s a ha, hs_int s b hb]
  have h1 : s[a] = 48 ∨ s[a] = 49 := h.2 a (by simpa using ha)
  have h2 : s[b] = 48 ∨ s[b] = 49 := h.2 b (by simpa using hb)
  rcases h1 with h1 | h1 <;> rcases h2 with h2 | h2 <;> rw [h1, h2] <;> rfl

def chr (j : Nat) : UInt8 := if j = 0 then 120 else if j = 1 then 121 else 122
theorem chr_var (j : Nat) (h : j < 3) : VarAt (chr j) j := by
  have hc : j = 0 ∨ j = 1 ∨ j = 2 := by omega
  rcases hc with rfl | rfl | rfl <;> simp [VarAt, chr]
theorem xyz_at (j : Nat) (h : j < 3) : (ByteArray.mk #[120, 121, 122]).extract j (j + 1) = bs [chr j] := by
  have hc : j = 0 ∨ j = 1 ∨ j = 2 := by omega
  rcases hc with rfl | rfl | rfl <;> rfl
/-- The letters of the first variables on which a set depends. -/
def depP (F : Nat → Bool) : Nat → List UInt8
  | 0 => []
  | j + 1 => depP F j ++ (if depU (chr j) F 27 then [chr j] else [])
theorem depP_len (F : Nat → Bool) (j : Nat) : (depP F j).length ≤ j := by
  induction j with
  | zero => exact Nat.le_refl _
  | succ j ih => unfold depP; split <;> simp <;> omega

set_option maxRecDepth 100000 in
set_option maxHeartbeats 4000000 in
theorem specPV_yes (p : ByteArray) (w : World) (hp : Set27 p) : Calls Try.prog 11 #[.string p] w fun e w' => e = .returned (.string (bs (depP (hs p.data.toList) 3))) ∧ Below w.heap.size w w' := by
  have C := fun w => Lib.hid (specPredValid_yes p w hp)
  have hp27 : p.size = 27 := by have := hp.1; simpa using this
  have HP := Lib.hid hp
  clear hp
  go_enter Try.func11, Try.ntmps11
  go_wp2_with fail
  go_loopw [3, 4] (fun o v wr => ∃ j : Nat, j ≤ 3 ∧ v = .int .i64 j ∧ o = .string (bs (depP (hs p.data.toList) j)) ∧ Below w.heap.size w wr) (fun _ v _ => 3 - (intOf v).toNat)
  case atStart => exact ⟨0, by omega, rfl, rfl, Below.refl _ _⟩
  case round =>
    obtain ⟨j, hj, rfl, rfl, hb⟩ := hrel
    have HB := Lib.hid hb
    clear hb
    by_cases hlt : j < 3
    · obtain ⟨wo, hwo⟩ : ∃ wo : World, wo = wr := ⟨_, rfl⟩
      rw [← hwo]
      rw [← hwo] at HB
      clear hwo
      have hvj := chr_var j hlt
      go_wp2_with fail
      refine (C _).out.mono ?_
      rintro e w' ⟨rfl, rfl⟩
      go_wp2_with fail
      go_loopw [5, 6] (fun d i wr => ∃ k : Nat, k ≤ 27 ∧ i = .int .i64 k ∧ d = .bool (depU (chr j) (hs p.data.toList) k) ∧ Below w.heap.size w wr) (fun _ i _ => 27 - (intOf i).toNat)
      case atStart => exact ⟨0, by omega, rfl, rfl, HB.out⟩
      case round =>
        clear HB
        obtain ⟨k, hk, rfl, rfl, hb⟩ := hrel
        have HB := Lib.hid hb
        by_cases hk27 : k < 27
        · have A := fun w => Lib.hid (specAt0 k w (by omega) (by omega))
          have W := fun w => Lib.hid (specWith (chr j) j hvj 0 k w)
          have T := set_st3 (c := chr j) (n := 0) rfl hk27
          have I := fun w => Lib.hid (specIx0 _ _ _ w T)
          rw [← (ixx_lt T).2, ← setN_eq] at I
          have L := setN_lt (c := chr j) (n := 0) rfl hk27
          have U := depU_succ (chr j) (hs p.data.toList) k
          obtain ⟨a, ha⟩ : ∃ a, setN (chr j) 0 k = a := ⟨_, rfl⟩
          rw [ha] at I L U
          have hka : k < p.size := by omega
          have hap : a < p.size := by omega
          rw [← byte_neq HP.out k a hka hap] at U
          clear T ha
          cases hd : depU (chr j) (hs p.data.toList) k
          · rw [hd, Bool.false_or] at U
            have HU := Lib.hid U
            clear U hd
            have hbd := hb.drew
            go_wp2_with fail
            go_region_held3 (fun w' => Below w.heap.size w w')
              ((first | assumption | exact bnext (by assumption) hq))
              (first
                | (go_at_call 29; (with_reducible refine (A _).out.mono ?_); rintro e w2 ⟨rfl, hq⟩)
                | (go_at_call 28; (with_reducible refine (W _).out.mono ?_); rintro e w2 ⟨rfl, hq⟩)
                | (go_at_call 27; (with_reducible refine (I _).out.mono ?_); rintro e w2 ⟨rfl, hq⟩))
            all_goals
              go_wp2_with fail
              exact ⟨⟨k + 1, by omega, by go_num, by rw [HU.out], by assumption⟩, by simp [intOf]; omega⟩
          · rw [hd, Bool.true_or] at U
            have HU := Lib.hid U
            clear U hd
            go_wp2_with fail
            go_quiet (fail)
            go_wp2_with fail
            exact ⟨⟨k + 1, by omega, by go_num, by rw [HU.out], bdrewN HB.out _⟩, by simp [intOf]; omega⟩
        · have hk2 : k = 27 := by omega
          subst hk2
          clear hb
          have hl := depP_len (hs p.data.toList) j
          have X := xyz_at j hlt
          cases hd : depU (chr j) (hs p.data.toList) 27
          · have HP1 : Hid (depP (hs p.data.toList) (j + 1) = depP (hs p.data.toList) j) := by show _ = _; simp [depP, hd]
            clear hd
            go_wp2_with fail
            exact ⟨⟨j + 1, by omega, by go_num, by rw [HP1.out], HB.out⟩, by simp [intOf]; omega⟩
          · have HP1 : Hid (depP (hs p.data.toList) (j + 1) = depP (hs p.data.toList) j ++ [chr j]) := by show _ = _; simp [depP, hd]
            clear hd
            have hno : ¬ (9223372036854775807 < (bs (depP (hs p.data.toList) j)).size + (bs [chr j]).size) := by rw [bs_size, bs_size]; simp; omega
            go_wp2_with fail
            exact ⟨⟨j + 1, by omega, by go_num, by rw [HP1.out, bs_append], HB.out⟩, by simp [intOf]; omega⟩
    · have hj3 : j = 3 := by omega
      subst hj3
      go_wp2_with fail
      go_ret
      exact ⟨rfl, HB.out⟩

theorem setN_setN : ∀ c ∈ [(120 : UInt8), 121, 122], ∀ n, n < 3 → ∀ m, m < 3 → ∀ i, i < 27 → setN c (m : Nat) (setN c (n : Nat) i) = setN c (m : Nat) i := by decide +kernel

theorem dep_eq (c : UInt8) (hc : c ∈ [(120 : UInt8), 121, 122]) (F : Nat → Bool) : depU c F 27 = depB c F := by
  have hlt : ∀ n, n < 3 → ∀ i, i < 27 → setN c (n : Nat) i < 27 := fun n hn i hi => setN_lt (val3_t (by omega) (by omega)) hi
  rw [Bool.eq_iff_iff]
  unfold depU depB
  rw [List.any_eq_true, bne_iff_ne]
  constructor
  · rintro ⟨i, hi, hne⟩ e
    have hi : i < 27 := by simpa using hi
    have heq : nb 27 (someF c F) = nb 27 F := by omega
    have e1 := nb_inj heq i hi
    have e2 : someF c F (setN c 0 i) = F (setN c 0 i) := nb_inj heq (setN c 0 i) (hlt 0 (by omega) i hi)
    have a0 : setN c 0 (setN c 0 i) = setN c 0 i := setN_setN c hc 0 (by omega) 0 (by omega) i hi
    have a1 : setN c 1 (setN c 0 i) = setN c 1 i := setN_setN c hc 0 (by omega) 1 (by omega) i hi
    have a2 : setN c 2 (setN c 0 i) = setN c 2 i := setN_setN c hc 0 (by omega) 2 (by omega) i hi
    have e3 : someF c F (setN c 0 i) = someF c F i := by unfold someF; rw [a0, a1, a2]
    rw [e1, e2] at e3
    rw [e3] at hne
    simp at hne
  · intro hne
    refine Decidable.byContradiction fun hno => hne ?_
    have hall : ∀ i, i < 27 → F i = F (setN c 0 i) := fun i hi => by
      refine Decidable.byContradiction fun h => hno ⟨i, by simpa using hi, ?_⟩
      simpa using h
    have : nb 27 (someF c F) = nb 27 F := nb_congr fun i hi => by
      have b1 : F (setN c 1 i) = F (setN c 0 (setN c 1 i)) := hall (setN c 1 i) (hlt 1 (by omega) i hi)
      have b2 : F (setN c 2 i) = F (setN c 0 (setN c 2 i)) := hall (setN c 2 i) (hlt 2 (by omega) i hi)
      have a1 : setN c 0 (setN c 1 i) = setN c 0 i := setN_setN c hc 1 (by omega) 0 (by omega) i hi
      have a2 : setN c 0 (setN c 2 i) = setN c 0 i := setN_setN c hc 2 (by omega) 0 (by omega) i hi
      unfold someF
      rw [b1, b2, a1, a2, ← hall i hi, Bool.or_self, Bool.or_self]
    rw [this]

theorem depP_eq (F : Nat → Bool) : depP F 3 = depL F := by
  show (([] ++ (if depU (chr 0) F 27 then [chr 0] else [])) ++ (if depU (chr 1) F 27 then [chr 1] else [])) ++ (if depU (chr 2) F 27 then [chr 2] else []) = _
  rw [show chr 0 = 120 from rfl, show chr 1 = 121 from rfl, show chr 2 = 122 from rfl, dep_eq 120 (by simp) F, dep_eq 121 (by simp) F, dep_eq 122 (by simp) F]
  rfl

set_option maxHeartbeats 1000000 in
theorem specPV_no (p : ByteArray) (w : World) (hp : ¬ Set27 p) (hm : p.size ≤ maxLen) : Calls Try.prog 11 #[.string p] w fun e w' => e = .returned (.string (bs [])) ∧ Below w.heap.size w w' := by
  have C := fun w => Lib.hid (specPredValid_no p w hp hm)
  clear hp
  go_enter Try.func11, Try.ntmps11
  go_wp2_with fail
  refine wp_loop_rounds 1 ?_
  rw [rounds_succ]
  go_wp2_with fail
  refine (C _).out.mono ?_
  rintro e w' ⟨rfl, rfl⟩
  go_wp2_with fail
  go_ret
  exact ⟨rfl, Below.refl _ _⟩
end Go.Proofs.Ytiaidahhlnaabaa
