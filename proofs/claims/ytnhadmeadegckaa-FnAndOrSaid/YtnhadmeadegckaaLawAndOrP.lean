/-
  The law of what is in both and in one of two sets is true at all bytes: no condition.
-/
import Derived.Test.YtnhadmeadegckaaRows
import Derived.Test.YtnhadmeadegckaaTopO
import Derived.ProofKit
import Derived.OpenShut
import Derived.ShutString
import Derived.ChangeOld
namespace Go.Proofs.Ytnhadmeadegckaa
open Go.ChangeShapes Go.WideShapes Go.ChangeAt Go.RowKit
open Go.ChangeMaps (open_string shut_string)

theorem Try.own : ownKnob Try.prog.godebug = none := by kernel_rfl
theorem laidOut : laidOutB Try.prog = true := by kernel_rfl

theorem ao_facts (p q : ByteArray) : ∃ (a o n m r : ByteArray) (A O P Q : Nat), Set27 a ∧ Set27 o ∧ Set27 m ∧ Set27 r ∧ A ≤ 27 ∧ O ≤ 27 ∧ P ≤ 27 ∧ Q ≤ 27 ∧ A + O = P + Q ∧
    bs (tb (fun i => hs p.data.toList i && hs q.data.toList i)) = a ∧ bs (tb (fun i => hs p.data.toList i || hs q.data.toList i)) = o ∧ cnt 27 (hs a.data.toList) = A ∧ cnt 27 (hs o.data.toList) = O ∧ cnt 27 (hs p.data.toList) = P ∧ cnt 27 (hs q.data.toList) = Q ∧
    bs (tb (fun i => !hs a.data.toList i)) = n ∧ bs (tb (fun i => !hs p.data.toList i)) = m ∧ bs (tb (fun i => !hs q.data.toList i)) = r ∧ bs (tb (fun i => hs m.data.toList i || hs r.data.toList i)) = n ∧ wi 27 (hs a.data.toList) (hs p.data.toList) = true ∧ wi 27 (hs q.data.toList) (hs o.data.toList) = true ∧
    ∀ k, k < 27 → hs a.data.toList k = (hs p.data.toList k && hs q.data.toList k) ∧ hs o.data.toList k = (hs p.data.toList k || hs q.data.toList k) := by
  refine ⟨_, _, _, _, _, _, _, _, _, set27_tb _, set27_tb _, set27_tb _, set27_tb _, cnt_le 27 _, cnt_le 27 _, cnt_le 27 _, cnt_le 27 _, ?_, rfl, rfl, rfl, rfl, rfl, rfl, rfl, rfl, rfl, ?_, ?_, ?_, fun k hk => ⟨hs_bs _ k hk, hs_bs _ k hk⟩⟩
  · rw [cnt_same (F := hs (bs (tb fun i => hs p.data.toList i && hs q.data.toList i)).data.toList) (G := fun i => hs p.data.toList i && hs q.data.toList i) (fun i hi => hs_bs _ i hi), cnt_same (F := hs (bs (tb fun i => hs p.data.toList i || hs q.data.toList i)).data.toList) (G := fun i => hs p.data.toList i || hs q.data.toList i) (fun i hi => hs_bs _ i hi)]
    exact cnt_and_or 27 _ _
  · refine bs_ext fun i hi => ?_
    rw [hs_bs _ i hi, hs_bs _ i hi, hs_bs _ i hi, Bool.not_and]
  · rw [wi_iff]
    intro i hi h
    rw [hs_bs _ i hi, Bool.and_eq_true] at h
    exact h.1
  · rw [wi_iff]
    intro i hi h
    rw [hs_bs _ i hi, h, Bool.or_true]

set_option maxRecDepth 100000 in
set_option maxHeartbeats 16000000 in
theorem walkAndOr {a0 : Option Addr} {len0 cap0 : Nat} {z0 : List Int} (w : World) (h0 : IsRow w a0 len0 cap0 z0) :
    Calls Try.prog 4 #[.slice a0 len0 cap0] w fun e w' => e = .returned (.bool true) ∧ Below w.heap.size w w' := by
  have D := Lib.hid (drawAP h0)
  clear h0
  by_cases hl : (1048576 : Int) < len0
  · go_enter Try.func4, Try.ntmps4
    go_wp2_with fail
    go_ret
    exact ⟨rfl, Below.refl _ _⟩
  · go_enter Try.func4, Try.ntmps4
    go_wp2_with fail
    refine D.out.mono ?_
    rintro e w1 ⟨s, t, s2, t2, rfl, hb⟩
    have HB1 := Lib.hid hb
    clear hb D
    by_cases hv : Set27 s ∧ Set27 t
    · obtain ⟨hs1, hs2⟩ := hv
      have C1 := fun w => Lib.hid (implAnd_yes s t w hs1 hs2)
      have C2 := fun w => Lib.hid (specAnd_yes s t w hs1 hs2)
      have C3 := fun w => Lib.hid (implOr_yes s t w hs1 hs2)
      have C4 := fun w => Lib.hid (specOr_yes s t w hs1 hs2)
      obtain ⟨a, o, n, m, r, A, O, P, Q, ha, ho, hm, hr, lA, lO, lP, lQ, hsum, e1, e2, e3, e4, e5, e6, e7, e8, e9, e10, e11, e12, hv⟩ := ao_facts s t
      have D1 := fun w => Lib.hid (implCountP_yes a w ha)
      have D2 := fun w => Lib.hid (implCountP_yes o w ho)
      have D3 := fun w => Lib.hid (implCountP_yes s w hs1)
      have D4 := fun w => Lib.hid (implCountP_yes t w hs2)
      have N1 := fun w => Lib.hid (implNotP_yes a w ha)
      have N2 := fun w => Lib.hid (implNotP_yes s w hs1)
      have N3 := fun w => Lib.hid (implNotP_yes t w hs2)
      have N4 := fun w => Lib.hid (implOr_yes m r w hm hr)
      have D5 := fun w => Lib.hid (implPWithin_yes a s w ha hs1)
      have D6 := fun w => Lib.hid (implPWithin_yes t o w hs2 ho)
      rw [e1] at C1 C2
      rw [e2] at C3 C4
      rw [e3] at D1
      rw [e4] at D2
      rw [e5] at D3
      rw [e6] at D4
      rw [e7] at N1
      rw [e8] at N2
      rw [e9] at N3
      rw [e10] at N4
      rw [e11] at D5
      rw [e12] at D6
      have P1 := fun w => Lib.hid (ppNot_of a n true N1 w)
      have P2 := fun w => Lib.hid (ppNot_of s m true N2 w)
      have P3 := fun w => Lib.hid (ppNot_of t r true N3 w)
      have P4 := fun w => Lib.hid (ppOr_of m r n true N4 w)
      have HP := Lib.hid hs1
      have HQ := Lib.hid hs2
      have HA := Lib.hid ha
      have HO := Lib.hid ho
      have HV := Lib.hid hv
      have ew1 : IntKind.i64.wrap ((A : Int) + (O : Int)) = (P : Int) + (Q : Int) := (IntWalk.i64_in _ (by omega)).trans (by omega)
      have ew2 : IntKind.i64.wrap ((P : Int) + (Q : Int)) = (P : Int) + (Q : Int) := IntWalk.i64_in _ (by omega)
      clear hs1 hs2 ha ho hm hr hsum e1 e2 e3 e4 e5 e6 e7 e8 e9 e10 e11 e12 hv N1 N2 N3 N4 s2 t2 lA lO lP lQ
      go_wp2_with fail
      refine (C1 _).out.mono ?_
      rintro e w2 ⟨rfl, hb⟩
      have HB2 := Lib.hid (bnext HB1.out hb)
      clear hb
      go_wp2_with fail
      refine (C2 _).out.mono ?_
      rintro e w3 ⟨rfl, hb⟩
      have HB3 := Lib.hid (bnext HB2.out hb)
      clear hb
      go_wp2_with fail
      refine (C3 _).out.mono ?_
      rintro e w4 ⟨rfl, hb⟩
      have HB4 := Lib.hid (bnext HB3.out hb)
      clear hb
      go_wp2_with fail
      refine (C4 _).out.mono ?_
      rintro e w5 ⟨rfl, hb⟩
      have HB5 := Lib.hid (bnext HB4.out hb)
      clear hb
      go_wp2_with fail
      refine (states_any _).mono ?_
      rintro e w6 ⟨g, cap, hcap, hg, rfl, hs, hb⟩
      have HB6 := Lib.hid (bnext HB5.out hb)
      have HS6 := Lib.hid hs
      clear hb hs
      clear C1 C2 C3 C4
      go_wp2_with fail
      go_loopw [14] (fun i wr => ∃ k : Nat, k ≤ 27 ∧ i = .int .i64 k ∧ Hid (Below w.heap.size w wr) ∧ Hid (Sts wr g)) (fun i _ => 27 - (intOf i).toNat)
      case atStart => exact ⟨0, by omega, rfl, HB6, HS6⟩
      case round =>
        obtain ⟨k, hk, rfl, HB, HS⟩ := hrel
        by_cases hlt : k < 27
        · have hk0 : (0 : Int) ≤ (k : Int) := by omega
          have hk1 : (k : Int) < 27 := by omega
          obtain ⟨va, vo⟩ := HV.out k hlt
          have H1 := fun w => Lib.hid (has_at s HP.out k hlt w)
          have H2 := fun w => Lib.hid (has_at t HQ.out k hlt w)
          have H3 := fun w => Lib.hid (has_at a HA.out k hlt w)
          have H4 := fun w => Lib.hid (has_at o HO.out k hlt w)
          rw [va] at H3
          rw [vo] at H4
          clear va vo
          generalize hs s.data.toList k = X at *
          generalize hs t.data.toList k = Y at *
          cases X <;> cases Y
          · obtain ⟨c0, c1, c2⟩ := HS.out k hlt
            go_wp2_with fail
            refine (H1 _).out.mono ?_
            rintro e w21 ⟨rfl, hb⟩
            have HX1 := Lib.hid (bnext HB.out hb)
            have HS21 := Lib.hid (HS.out.kept hb)
            clear hb c0 c1 c2
            obtain ⟨c0, c1, c2⟩ := HS21.out k hlt
            go_wp2_with fail
            refine (H2 _).out.mono ?_
            rintro e w22 ⟨rfl, hb⟩
            have HX2 := Lib.hid (bnext HX1.out hb)
            have HS22 := Lib.hid (HS21.out.kept hb)
            clear hb c0 c1 c2
            obtain ⟨c0, c1, c2⟩ := HS22.out k hlt
            go_wp2_with fail
            refine (H3 _).out.mono ?_
            rintro e w23 ⟨rfl, hb⟩
            have HX3 := Lib.hid (bnext HX2.out hb)
            have HS23 := Lib.hid (HS22.out.kept hb)
            clear hb c0 c1 c2
            obtain ⟨c0, c1, c2⟩ := HS23.out k hlt
            go_wp2_with fail
            refine (H4 _).out.mono ?_
            rintro e w24 ⟨rfl, hb⟩
            have HX4 := Lib.hid (bnext HX3.out hb)
            have HS24 := Lib.hid (HS23.out.kept hb)
            clear hb c0 c1 c2
            go_wp2_with fail
            go_round
            case rel => exact ⟨k + 1, by omega, by go_num, HX4, HS24⟩
            case measure => simp [intOf]; omega
          · obtain ⟨c0, c1, c2⟩ := HS.out k hlt
            go_wp2_with fail
            refine (H1 _).out.mono ?_
            rintro e w21 ⟨rfl, hb⟩
            have HX1 := Lib.hid (bnext HB.out hb)
            have HS21 := Lib.hid (HS.out.kept hb)
            clear hb c0 c1 c2
            obtain ⟨c0, c1, c2⟩ := HS21.out k hlt
            go_wp2_with fail
            refine (H2 _).out.mono ?_
            rintro e w22 ⟨rfl, hb⟩
            have HX2 := Lib.hid (bnext HX1.out hb)
            have HS22 := Lib.hid (HS21.out.kept hb)
            clear hb c0 c1 c2
            obtain ⟨c0, c1, c2⟩ := HS22.out k hlt
            go_wp2_with fail
            refine (H3 _).out.mono ?_
            rintro e w23 ⟨rfl, hb⟩
            have HX3 := Lib.hid (bnext HX2.out hb)
            have HS23 := Lib.hid (HS22.out.kept hb)
            clear hb c0 c1 c2
            obtain ⟨c0, c1, c2⟩ := HS23.out k hlt
            go_wp2_with fail
            refine (H4 _).out.mono ?_
            rintro e w24 ⟨rfl, hb⟩
            have HX4 := Lib.hid (bnext HX3.out hb)
            have HS24 := Lib.hid (HS23.out.kept hb)
            clear hb c0 c1 c2
            go_wp2_with fail
            go_round
            case rel => exact ⟨k + 1, by omega, by go_num, HX4, HS24⟩
            case measure => simp [intOf]; omega
          · obtain ⟨c0, c1, c2⟩ := HS.out k hlt
            go_wp2_with fail
            refine (H1 _).out.mono ?_
            rintro e w21 ⟨rfl, hb⟩
            have HX1 := Lib.hid (bnext HB.out hb)
            have HS21 := Lib.hid (HS.out.kept hb)
            clear hb c0 c1 c2
            obtain ⟨c0, c1, c2⟩ := HS21.out k hlt
            go_wp2_with fail
            refine (H2 _).out.mono ?_
            rintro e w22 ⟨rfl, hb⟩
            have HX2 := Lib.hid (bnext HX1.out hb)
            have HS22 := Lib.hid (HS21.out.kept hb)
            clear hb c0 c1 c2
            obtain ⟨c0, c1, c2⟩ := HS22.out k hlt
            go_wp2_with fail
            refine (H3 _).out.mono ?_
            rintro e w23 ⟨rfl, hb⟩
            have HX3 := Lib.hid (bnext HX2.out hb)
            have HS23 := Lib.hid (HS22.out.kept hb)
            clear hb c0 c1 c2
            obtain ⟨c0, c1, c2⟩ := HS23.out k hlt
            go_wp2_with fail
            refine (H4 _).out.mono ?_
            rintro e w24 ⟨rfl, hb⟩
            have HX4 := Lib.hid (bnext HX3.out hb)
            have HS24 := Lib.hid (HS23.out.kept hb)
            clear hb c0 c1 c2
            go_wp2_with fail
            go_round
            case rel => exact ⟨k + 1, by omega, by go_num, HX4, HS24⟩
            case measure => simp [intOf]; omega
          · obtain ⟨c0, c1, c2⟩ := HS.out k hlt
            go_wp2_with fail
            refine (H1 _).out.mono ?_
            rintro e w21 ⟨rfl, hb⟩
            have HX1 := Lib.hid (bnext HB.out hb)
            have HS21 := Lib.hid (HS.out.kept hb)
            clear hb c0 c1 c2
            obtain ⟨c0, c1, c2⟩ := HS21.out k hlt
            go_wp2_with fail
            refine (H2 _).out.mono ?_
            rintro e w22 ⟨rfl, hb⟩
            have HX2 := Lib.hid (bnext HX1.out hb)
            have HS22 := Lib.hid (HS21.out.kept hb)
            clear hb c0 c1 c2
            obtain ⟨c0, c1, c2⟩ := HS22.out k hlt
            go_wp2_with fail
            refine (H3 _).out.mono ?_
            rintro e w23 ⟨rfl, hb⟩
            have HX3 := Lib.hid (bnext HX2.out hb)
            have HS23 := Lib.hid (HS22.out.kept hb)
            clear hb c0 c1 c2
            obtain ⟨c0, c1, c2⟩ := HS23.out k hlt
            go_wp2_with fail
            refine (H4 _).out.mono ?_
            rintro e w24 ⟨rfl, hb⟩
            have HX4 := Lib.hid (bnext HX3.out hb)
            have HS24 := Lib.hid (HS23.out.kept hb)
            clear hb c0 c1 c2
            go_wp2_with fail
            go_round
            case rel => exact ⟨k + 1, by omega, by go_num, HX4, HS24⟩
            case measure => simp [intOf]; omega
        · have hk2 : k = 27 := by omega
          subst hk2
          clear HS
          have HB0 := HB
          go_wp2_with fail
          refine (D1 _).out.mono ?_
          rintro e w1 ⟨rfl, hb⟩
          have HB1 := Lib.hid (bnext HB0.out hb)
          clear hb
          go_wp2_with fail
          refine (D2 _).out.mono ?_
          rintro e w2 ⟨rfl, hb⟩
          have HB2 := Lib.hid (bnext HB1.out hb)
          clear hb
          go_wp2_with fail
          refine (D3 _).out.mono ?_
          rintro e w3 ⟨rfl, hb⟩
          have HB3 := Lib.hid (bnext HB2.out hb)
          clear hb
          go_wp2_with fail
          refine (D4 _).out.mono ?_
          rintro e w4 ⟨rfl, hb⟩
          have HB4 := Lib.hid (bnext HB3.out hb)
          clear hb
          go_wp2_with fail
          refine (P1 _).out.mono ?_
          rintro e w5 ⟨rfl, hb⟩
          have HB5 := Lib.hid (bnext HB4.out hb)
          clear hb
          go_wp2_with fail
          refine (P2 _).out.mono ?_
          rintro e w6 ⟨rfl, hb⟩
          have HB6 := Lib.hid (bnext HB5.out hb)
          clear hb
          go_wp2_with fail
          refine (P3 _).out.mono ?_
          rintro e w7 ⟨rfl, hb⟩
          have HB7 := Lib.hid (bnext HB6.out hb)
          clear hb
          go_wp2_with fail
          refine (P4 _).out.mono ?_
          rintro e w8 ⟨rfl, hb⟩
          have HB8 := Lib.hid (bnext HB7.out hb)
          clear hb
          go_wp2_with fail
          refine (D5 _).out.mono ?_
          rintro e w' ⟨rfl, rfl⟩
          go_wp2_with fail
          refine (D6 _).out.mono ?_
          rintro e w' ⟨rfl, rfl⟩
          go_wp2_with fail
          go_ret
          exact ⟨rfl, HB8.out⟩
    · have hn : ¬ (Set27 s ∧ Set27 t) := hv
      have C1 := fun w => Lib.hid (implAnd_no s t w hn)
      have C2 := fun w => Lib.hid (specAnd_no s t w hn (Nat.le_trans s2 (by decide)) (Nat.le_trans t2 (by decide)))
      have C3 := fun w => Lib.hid (implOr_no s t w hn)
      have C4 := fun w => Lib.hid (specOr_no s t w hn (Nat.le_trans s2 (by decide)) (Nat.le_trans t2 (by decide)))
      clear hv hn s2 t2
      go_wp2_with fail
      refine (C1 _).out.mono ?_
      rintro e w2 ⟨rfl, hb⟩
      have HB2 := Lib.hid (bnext HB1.out hb)
      clear hb
      go_wp2_with fail
      refine (C2 _).out.mono ?_
      rintro e w3 ⟨rfl, hb⟩
      have HB3 := Lib.hid (bnext HB2.out hb)
      clear hb
      go_wp2_with fail
      refine (C3 _).out.mono ?_
      rintro e w4 ⟨rfl, hb⟩
      have HB4 := Lib.hid (bnext HB3.out hb)
      clear hb
      go_wp2_with fail
      refine (C4 _).out.mono ?_
      rintro e w5 ⟨rfl, hb⟩
      have HB5 := Lib.hid (bnext HB4.out hb)
      clear hb
      go_wp2_with fail
      go_ret
      exact ⟨rfl, HB5.out⟩

set_option linter.unusedVariables false in
set_option maxRecDepth 100000 in
theorem liftedAndOr (os : Os) (started : os.Started) (H : Type) (enc : TypeId × Value → H) :
    ReturnsInHanded {} Try.checked os 4 .any (Rows.fnAndOrSpec.pre6 enc Try.prog Try.f4 Rows.fnAndOrRow.domain false) (Rows.fnAndOrSpec.post enc Try.prog Try.f4 false true false false) := by
  refine returnsInHanded_of_change (C := Try.checked) Try.own started (by kernel_rfl) Try.func4
    (ChangeSpec.witness6 (enc := enc) (C := Try.checked) false ⟨#[], #[.slice none 0 0], []⟩ 8 (by kernel_rfl) (by kernel_rfl) (by kernel_rfl) (by kernel_rfl)) ?_
  intro W base args ds gs before hval0 hW hcnd _
  have hval : ∀ (j : Nat) t v, Try.f4.params[j]? = some t → args[j]? = some v → Value.okWide Try.prog W .any base t v := hval0
  have hW' := hW
  obtain ⟨p, q, hA0, hV, rfl, hfz, hnd⟩ := hW
  have hA : DataW.TrodAll enc Try.prog W 0 (fun _ => true) true Try.f4.params.toList args.toList ds p := hA0
  rw [Try.params4] at hA hval
  obtain ⟨v0, vs0, d0, ds0, p0, q0, hargs, rfl, rfl, h0, r0⟩ := trodAll_cons hA
  obtain ⟨rfl, rfl, rfl⟩ := trodAll_nil r0
  obtain rfl : args = #[v0] := by cases args; simp_all
  obtain ⟨rfl, rfl⟩ := trodVars_none hV
  obtain ⟨a0, len0, cap0, rfl⟩ := okWide_slice Try.underlying22 (hval 0 22 v0 rfl rfl)
  have k0 := h0
  have lt0 : ∀ x ∈ p0, x.block < W.heap.size := by obtain ⟨m, hm⟩ := k0; exact DataW.trod_lt m _ _ _ hm
  obtain ⟨z0, w0⟩ : ∃ zs, IsRow W a0 len0 cap0 zs := by
    obtain ⟨fuel, hf⟩ := h0
    rcases open_ints Try.underlying22 Try.underlying5 (by kernel_rfl) hf with ⟨hcs, _⟩ | ⟨x, l, c, zs, hcs, _, hl, hm, hz, _, hcell, hwz⟩
    · simp [Value.cells] at hcs
      obtain ⟨rfl, rfl, rfl⟩ := hcs
      exact ⟨[], .inl ⟨rfl, rfl, rfl, rfl⟩⟩
    · simp [Value.cells] at hcs
      obtain ⟨rfl, rfl, rfl⟩ := hcs
      exact ⟨zs, .inr ⟨_, rfl, hl, hm, by simpa using hz, hcell, hwz⟩⟩
  clear hA0 hval0
  refine (walkAndOr W w0).mono fun e W' ⟨he, bel⟩ => ?_
  subst he
  exact ⟨_, rfl, _, _, _, [], _, [], hW', trodAll_mk1 (shut_bool Try.underlying4 _), (trodAll_cons_mk (Below.trod laidOut (by kernel_rfl) (of_decide_eq_true (by kernel_rfl)) k0 bel lt0) trodAll_mk0), rfl, bel.frame _, fun h => by cases h⟩

theorem andOr_holds : Rows.FnAndOrSaid :=
  OpenClaim.holds_of_wide 4 Try.f4 rfl rfl rfl rfl rfl rfl rfl ⟨rfl, rfl, rfl, rfl, rfl⟩ rfl rfl rfl rfl rfl (by kernel_rfl) Try.func4 (by kernel_rfl)
    (of_decide_eq_true (by kernel_rfl)) (by unfold Func.isWrapper; first | (rw [if_pos (by decide +kernel)]; kernel_rfl) | (rw [if_neg (by decide +kernel)]; exact ⟨rfl, rfl⟩))
    (fun os started H enc _ => liftedAndOr os started H enc)

#print axioms andOr_holds
end Go.Proofs.Ytnhadmeadegckaa
