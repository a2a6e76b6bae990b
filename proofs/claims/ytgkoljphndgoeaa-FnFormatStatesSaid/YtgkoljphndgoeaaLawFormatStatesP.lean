/-
  The law of the text of a set of states is true at all bytes: no condition.
-/
import Derived.Test.YtgkoljphndgoeaaRows
import Derived.Test.YtgkoljphndgoeaaFs0
import Derived.Test.YtgkoljphndgoeaaFs1
import Derived.Test.YtgkoljphndgoeaaFsq
import Derived.Test.YtgkoljphndgoeaaDrawL
import Derived.Test.YtgkoljphndgoeaaSetX
import Derived.Test.YtgkoljphndgoeaaSetC
import Derived.Test.YtgkoljphndgoeaaSetI
import Derived.Test.YtgkoljphndgoeaaSetJ
import Derived.ProofKit
import Derived.OpenShut
import Derived.ShutString
import Derived.ChangeOld
namespace Go.Proofs.Ytgkoljphndgoeaa
open Go.ChangeShapes Go.WideShapes Go.ChangeAt Go.RowKit
open Go.ChangeMaps (open_string shut_string)

theorem Try.own : ownKnob Try.prog.godebug = none := by kernel_rfl
theorem laidOut : laidOutB Try.prog = true := by kernel_rfl


set_option maxHeartbeats 4000000 in
theorem drawFsP {a : Option Addr} {len cap : Nat} {zs : List Int} {w : World} (h : IsRow w a len cap zs) :
    Calls Try.prog 7 #[.slice a len cap] w fun e w' => ∃ s : ByteArray, s.size ≤ 28 ∧ e = .returned (.string s) ∧ Below w.heap.size w w' := by
  have D : Calls Try.prog 20 #[.slice a len cap] w fun e w2 => ∃ s : ByteArray, s.size ≤ 28 ∧ e = .returned (.string s) ∧ Below w.heap.size w w2 := by
    have HO := Lib.hid (open_any h)
    clear h
    go_enter Try.func20, Try.ntmps20
    go_wp2_with fail
    refine HO.out.mono ?_
    rintro e w1 ⟨rfl, hr, hb⟩
    have HW1 := Lib.hid hb
    have HC := Lib.hid (open2_any hr (by omega))
    clear hr hb
    go_wp2_with fail
    refine HC.out.mono ?_
    rintro e w2 ⟨s, q, s1, s2, hq, rfl, hr, hk⟩
    have HW2 := Lib.hid (HW1.out.trans (hk.below (Nat.le_refl _) HW1.out.size))
    clear hr hk
    go_wp2_with fail
    go_ret
    exact ⟨s, s2, rfl, HW2.out⟩
  have D := Lib.hid D
  clear h
  go_enter Try.func7, Try.ntmps7
  go_wp2_with fail
  refine D.out.mono ?_
  rintro e w1 ⟨s, hs, rfl, hb⟩
  have HB := Lib.hid hb
  clear hb
  go_wp2_with fail
  go_ret
  exact ⟨s, hs, rfl, HB.out⟩
theorem pvY (p : ByteArray) (hp : Set27 p) (w : World) : Calls Try.prog 8 #[.string p] w fun e w' => e = .returned (.bool true) ∧ Below w.heap.size w w' := (implPredValid_yes p w hp).mono fun e w' ⟨h, hw⟩ => ⟨h, by subst hw; exact Below.refl _ _⟩
theorem pvN (p : ByteArray) (hp : ¬ Set27 p) (w : World) : Calls Try.prog 8 #[.string p] w fun e w' => e = .returned (.bool false) ∧ Below w.heap.size w w' := (implPredValid_no p w hp).mono fun e w' ⟨h, hw⟩ => ⟨h, by subst hw; exact Below.refl _ _⟩
theorem hasF (p : ByteArray) (hp : Set27 p) (k : Nat) (hk : k < 27) (hF : hs p.data.toList k = true) (w : World) : Calls Try.prog 11 #[.string p, .agg #[.int .i64 (ax k), .int .i64 (ay k), .int .i64 (az k)]] w fun e w' => e = .returned (.bool true) ∧ Below w.heap.size w w' := by
  have h := implHasS_yes p (ax k) (ay k) (az k) w hp (at_st3 (i := (k : Int)) (by omega) (by omega))
  rw [show ixn (ax k) (ay k) (az k) = k by unfold ixn ax ay az; omega, hF] at h
  exact h
set_option maxRecDepth 100000 in
set_option maxHeartbeats 16000000 in
theorem walkFormatStates {a0 : Option Addr} {len0 cap0 : Nat} {z0 : List Int} (w : World) (h0 : IsRow w a0 len0 cap0 z0) :
    Calls Try.prog 4 #[.slice a0 len0 cap0] w fun e w' => e = .returned (.bool true) ∧ Below w.heap.size w w' := by
  have DD := Lib.hid (drawFsP h0)
  clear h0
  by_cases hl : (1048576 : Int) < len0
  · go_enter Try.func4, Try.ntmps4
    go_wp2_with fail
    go_ret
    exact ⟨rfl, Below.refl _ _⟩
  go_enter Try.func4, Try.ntmps4
  go_wp2_with fail
  refine DD.out.mono ?_
  rintro e w1 ⟨p, lp, rfl, hb⟩
  have HB := Lib.hid hb
  clear hb DD
  by_cases hp : Set27 p
  · have c1 := fun w => Lib.hid (implFs_yes p w hp)
    have c2 := fun w => Lib.hid (specFs_yes p w hp)
    have c3 := fun w => Lib.hid (pvY p hp w)
    have c4 := fun w => Lib.hid (implCountP_yes p w hp)
    have HH := fun k hk hF w => Lib.hid (hasF p hp k hk hF w)
    have HL := Lib.hid (fsI_in (hs p.data.toList) 27)
    have HK := Lib.hid (fsI_lt (hs p.data.toList) 27)
    have HO := Lib.hid (fsI_sorted (hs p.data.toList) 27)
    have hn := fsI_cnt (hs p.data.toList) 27
    have hn27 := fsI_len (hs p.data.toList) 27
    rw [← hn] at c4
    clear hn
    unfold fsT at c1 c2
    have HH2 : ∀ k, k ∈ fsI (hs p.data.toList) 27 → ∀ w, Hid (Calls Try.prog 11 #[.string p, .agg #[.int .i64 (ax k), .int .i64 (ay k), .int .i64 (az k)]] w fun e w' => e = .returned (.bool true) ∧ Below w.heap.size w w') := fun k hk => HH k (HK.out k hk) (HL.out k hk)
    clear HH HL hp
    replace HH2 := Lib.hid HH2
    generalize fsI (hs p.data.toList) 27 = l at *
    by_cases hnil : l = []
    · subst hnil
      rw [if_pos rfl] at c1 c2
      have t0 : ((⟨#[45]⟩ : ByteArray).toList == []) = false := by decide +kernel
      have t1 : ((⟨#[45]⟩ : ByteArray).toList == [45]) = true := by decide +kernel
      rw [show (([] : List Nat).length : Int) = 0 from rfl] at c4
      clear HH2 HK HO
      go_wp2_with fail
      refine (c1 _).out.mono ?_
      rintro e w2 ⟨rfl, hb⟩
      replace HB := Lib.hid (bnext HB.out hb)
      clear hb
      go_wp2_with fail
      refine (c2 _).out.mono ?_
      rintro e w2 ⟨rfl, hb⟩
      replace HB := Lib.hid (bnext HB.out hb)
      clear hb
      go_wp2_with fail
      refine (c3 _).out.mono ?_
      rintro e w2 ⟨rfl, hb⟩
      replace HB := Lib.hid (bnext HB.out hb)
      clear hb
      go_wp2_with fail
      refine (c4 _).out.mono ?_
      rintro e w2 ⟨rfl, hb⟩
      replace HB := Lib.hid (bnext HB.out hb)
      clear hb
      go_wp2_with fail
      go_ret
      exact ⟨rfl, HB.out⟩
    · rw [if_neg hnil] at c1 c2
      have he := emp_no (jnS_pos hnil)
      have hz := jn_size hnil
      have hpos : 0 < l.length := List.length_pos_iff.2 hnil
      have hl0 : ((l.length : Nat) : Int) ≠ 0 := by omega
      have hl1 : (((l.length : Nat) : Int) == 0) = false := by rw [beq_eq_false_iff_ne]; exact hl0
      have HX := fun i k (h : l[i]? = some k) => Lib.hid (jn_at h)
      clear hnil
      generalize jnS (txL l) = x at *
      go_wp2_with fail
      refine (c1 _).out.mono ?_
      rintro e w2 ⟨rfl, hb⟩
      replace HB := Lib.hid (bnext HB.out hb)
      clear hb
      go_wp2_with fail
      refine (c2 _).out.mono ?_
      rintro e w2 ⟨rfl, hb⟩
      replace HB := Lib.hid (bnext HB.out hb)
      clear hb
      go_wp2_with fail
      refine (c3 _).out.mono ?_
      rintro e w2 ⟨rfl, hb⟩
      replace HB := Lib.hid (bnext HB.out hb)
      clear hb
      go_wp2_with fail
      refine (c4 _).out.mono ?_
      rintro e w2 ⟨rfl, hb⟩
      replace HB := Lib.hid (bnext HB.out hb)
      clear hb
      clear c1 c2 c3 c4
      go_wp2_with fail
      go_loopw [6, 7, 9] (fun lv iv _ wr => ∃ i : Nat, i ≤ l.length ∧ iv = .int .i64 i ∧ (∃ m : Int, lv = .int .i64 m ∧ ∀ k, l[i]? = some k → m < k) ∧ Hid (Below w.heap.size w wr)) (fun _ iv _ _ => l.length - (intOf iv).toNat)
      case atStart => exact ⟨0, by omega, rfl, ⟨-1, rfl, fun k _ => by omega⟩, HB⟩
      case round =>
        clear HB
        obtain ⟨i, hi, rfl, ⟨m, rfl, hm⟩, HB⟩ := hrel
        by_cases hlt : i < l.length
        · have hlt2 : (i : Int) < (l.length : Nat) := by omega
          obtain ⟨k, hk⟩ : ∃ k, l[i]? = some k := ⟨_, List.getElem?_eq_getElem hlt⟩
          have hkl := List.mem_of_getElem? hk
          have hk27 := HK.out k hkl
          have hmk := hm k hk
          have A1 := fun w => Lib.hid (implParse_yes k hk27 w)
          have A2 := HH2.out k hkl
          have A3 := fun w => Lib.hid (implIx_yes (ax k) (ay k) (az k) w (at_st3 (i := (k : Int)) (by omega) (by omega)))
          rw [at_ix] at A3
          have HN : Hid (∀ k', l[i + 1]? = some k' → (k : Int) < k') := fun k' h' => by have := HO.out i k k' hk h'; omega
          have ex := (HX i k hk).out
          have e1 : IntKind.i64.wrap (4 * (i : Int)) = 4 * (i : Int) := IntWalk.i64_in _ (by omega)
          have e2 : IntKind.i64.wrap (4 * (i : Int) + 3) = 4 * (i : Int) + 3 := IntWalk.i64_in _ (by omega)
          have b1 : (4 * (i : Int) + 3) ≤ (x.size : Int) := by omega
          have b2 : ¬ ((k : Int) ≤ m) := by omega
          have n1 : (4 * (i : Int)).toNat = 4 * i := by omega
          have n2 : (4 * (i : Int) + 3).toNat = 4 * i + 3 := by omega
          clear hm hk hkl HK HO HH2 hk27 HX
          go_wp2_with fail
          refine (A1 _).out.mono ?_
          rintro e w1 ⟨rfl, hb⟩
          have b0 := (Below.refl w1.heap.size w1).alloc (Nat.le_refl _) (.cells #[.int .i64 (ax k), .int .i64 (ay k), .int .i64 (az k)] 28)
          have HB1 := Lib.hid (bnext (bnext HB.out hb) b0)
          have k0 := Blk.new w1 #[.int .i64 (ax k), .int .i64 (ay k), .int .i64 (az k)] 28
          have K0 := Lib.hid k0
          clear hb b0 k0
          obtain ⟨q0, q1, q2⟩ := K0.out.c3
          go_wp2_with fail
          generalize w1.alloc (.cells #[.int .i64 (ax k), .int .i64 (ay k), .int .i64 (az k)] 28) = w2 at *
          generalize w1.heap.size = bx at *
          refine (A2 _).out.mono ?_
          rintro e w3 ⟨rfl, hb⟩
          replace HB1 := Lib.hid (bnext HB1.out hb)
          replace K0 := Lib.hid (K0.out.kept hb)
          clear hb q0 q1 q2
          obtain ⟨q0, q1, q2⟩ := K0.out.c3
          go_wp2_with fail
          refine (A3 _).out.mono ?_
          rintro e w4 ⟨rfl, hb⟩
          replace HB1 := Lib.hid (bnext HB1.out hb)
          replace K0 := Lib.hid (K0.out.kept hb)
          clear hb q0 q1 q2
          obtain ⟨q0, q1, q2⟩ := K0.out.c3
          go_wp2_with fail
          refine (A3 _).out.mono ?_
          rintro e w5 ⟨rfl, hb⟩
          replace HB1 := Lib.hid (bnext HB1.out hb)
          clear hb q0 q1 q2
          go_wp2_with fail
          exact ⟨⟨i + 1, by omega, by go_num, ⟨k, rfl, HN.out⟩, HB1⟩, by simp [intOf]; omega⟩
        · have hi2 : i = l.length := by omega
          subst hi2
          clear HK HO HH2 HX hm
          have e1 : IntKind.i64.wrap (4 * ((l.length : Nat) : Int)) = 4 * ((l.length : Nat) : Int) := IntWalk.i64_in _ (by omega)
          have e2 : IntKind.i64.wrap (4 * ((l.length : Nat) : Int) - 1) = (x.size : Int) := by rw [IntWalk.i64_in _ (by omega)]; omega
          go_wp2_with fail
          go_ret
          exact ⟨rfl, HB.out⟩
  · have c1 := fun w => Lib.hid (implFs_no p w hp)
    have c2 := fun w => Lib.hid (specFs_no p w hp (by unfold maxLen; omega))
    have c3 := fun w => Lib.hid (pvN p hp w)
    clear hp
    go_wp2_with fail
    refine (c1 _).out.mono ?_
    rintro e w2 ⟨rfl, hb⟩
    replace HB := Lib.hid (bnext HB.out hb)
    clear hb
    go_wp2_with fail
    refine (c2 _).out.mono ?_
    rintro e w2 ⟨rfl, hb⟩
    replace HB := Lib.hid (bnext HB.out hb)
    clear hb
    go_wp2_with fail
    refine (c3 _).out.mono ?_
    rintro e w2 ⟨rfl, hb⟩
    replace HB := Lib.hid (bnext HB.out hb)
    clear hb
    go_wp2_with fail
    refine (c2 _).out.mono ?_
    rintro e w2 ⟨rfl, hb⟩
    replace HB := Lib.hid (bnext HB.out hb)
    clear hb
    go_wp2_with fail
    refine (c3 _).out.mono ?_
    rintro e w2 ⟨rfl, hb⟩
    replace HB := Lib.hid (bnext HB.out hb)
    clear hb
    go_wp2_with fail
    go_ret
    exact ⟨rfl, HB.out⟩


set_option linter.unusedVariables false in
set_option maxRecDepth 100000 in
theorem liftedFormatStates (os : Os) (started : os.Started) (H : Type) (enc : TypeId × Value → H) :
    ReturnsInHanded {} Try.checked os 4 .any (Rows.fnFormatStatesSpec.pre6 enc Try.prog Try.f4 Rows.fnFormatStatesRow.domain false) (Rows.fnFormatStatesSpec.post enc Try.prog Try.f4 false true false false) := by
  refine returnsInHanded_of_change (C := Try.checked) Try.own started (by kernel_rfl) Try.func4
    (ChangeSpec.witness6 (enc := enc) (C := Try.checked) false ⟨#[], #[.slice none 0 0], []⟩ 8 (by kernel_rfl) (by kernel_rfl) (by kernel_rfl) (by kernel_rfl)) ?_
  intro W base args ds gs before hval0 hW hcnd _
  have hval : ∀ (j : Nat) t v, Try.f4.params[j]? = some t → args[j]? = some v → Value.okWide Try.prog W .any base t v := hval0
  have hW' := hW
  obtain ⟨p, q, hA0, hV, rfl, hfz, hnd⟩ := hW
  have hA : DataW.TrodAll enc Try.prog W 0 (fun _ => true) true Try.f4.params.toList args.toList ds p := hA0
  rw [Try.params4] at hA hval
  obtain ⟨v0, vs0, d0, ds0, p0, q0, hargs, rfl, rfl, h0, r0⟩ := trodAll_cons hA
  obtain ⟨rfl, rfl, rfl⟩ := trodAll_nil r0
  obtain rfl : args = #[v0] := by cases args; simp_all
  obtain ⟨rfl, rfl⟩ := trodVars_none hV
  obtain ⟨a0, len0, cap0, rfl⟩ := okWide_slice Try.underlying24 (hval 0 24 v0 rfl rfl)
  have k0 := h0
  have lt0 : ∀ x ∈ p0, x.block < W.heap.size := by obtain ⟨m, hm⟩ := k0; exact DataW.trod_lt m _ _ _ hm
  obtain ⟨z0, w0⟩ : ∃ zs, IsRow W a0 len0 cap0 zs := by
    obtain ⟨fuel, hf⟩ := h0
    rcases open_ints Try.underlying24 Try.underlying5 (by kernel_rfl) hf with ⟨hcs, _⟩ | ⟨x, l, c, zs, hcs, _, hl, hm, hz, _, hcell, hwz⟩
    · simp [Value.cells] at hcs
      obtain ⟨rfl, rfl, rfl⟩ := hcs
      exact ⟨[], .inl ⟨rfl, rfl, rfl, rfl⟩⟩
    · simp [Value.cells] at hcs
      obtain ⟨rfl, rfl, rfl⟩ := hcs
      exact ⟨zs, .inr ⟨_, rfl, hl, hm, by simpa using hz, hcell, hwz⟩⟩
  clear hA0 hval0
  refine (walkFormatStates W w0).mono fun e W' ⟨he, bel⟩ => ?_
  subst he
  exact ⟨_, rfl, _, _, _, [], _, [], hW', trodAll_mk1 (shut_bool Try.underlying4 _), (trodAll_cons_mk (Below.trod laidOut (by kernel_rfl) (of_decide_eq_true (by kernel_rfl)) k0 bel lt0) trodAll_mk0), rfl, bel.frame _, fun h => by cases h⟩

theorem formatStates_holds : Rows.FnFormatStatesSaid :=
  OpenClaim.holds_of_wide 4 Try.f4 rfl rfl rfl rfl rfl rfl rfl ⟨rfl, rfl, rfl, rfl, rfl⟩ rfl rfl rfl rfl rfl (by kernel_rfl) Try.func4 (by kernel_rfl)
    (of_decide_eq_true (by kernel_rfl)) (by unfold Func.isWrapper; first | (rw [if_pos (by decide +kernel)]; kernel_rfl) | (rw [if_neg (by decide +kernel)]; exact ⟨rfl, rfl⟩))
    (fun os started H enc _ => liftedFormatStates os started H enc)

#print axioms formatStates_holds
end Go.Proofs.Ytgkoljphndgoeaa
