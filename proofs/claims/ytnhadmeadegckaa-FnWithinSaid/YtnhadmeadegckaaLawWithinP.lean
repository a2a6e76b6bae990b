/-
  The law of sets that lie within each other is true at all bytes: no condition.
-/
import Derived.Test.YtnhadmeadegckaaRows
import Derived.Test.YtnhadmeadegckaaTopN
import Derived.ProofKit
import Derived.OpenShut
import Derived.ShutString
import Derived.ChangeOld
namespace Go.Proofs.Ytnhadmeadegckaa
open Go.ChangeShapes Go.WideShapes Go.ChangeAt Go.RowKit
open Go.ChangeMaps (open_string shut_string)

theorem Try.own : ownKnob Try.prog.godebug = none := by kernel_rfl
theorem laidOut : laidOutB Try.prog = true := by kernel_rfl

theorem wi_facts {p q : ByteArray} (hp : Set27 p) (hq : Set27 q) : ∃ (m n r o : ByteArray) (b d : Bool) (N : Nat), Set27 m ∧ Set27 n ∧ Set27 r ∧ N ≤ 27 ∧
    bs (tb (fun i => !hs q.data.toList i)) = n ∧ bs (tb (fun i => !hs p.data.toList i)) = m ∧ wi 27 (hs p.data.toList) (hs q.data.toList) = b ∧ wi 27 (hs q.data.toList) (hs p.data.toList) = d ∧
    bs (tb (fun i => hs p.data.toList i && hs n.data.toList i)) = r ∧ cnt 27 (hs r.data.toList) = N ∧ bs (tb (fun i => hs p.data.toList i || hs q.data.toList i)) = o ∧
    wi 27 (hs n.data.toList) (hs m.data.toList) = b ∧ (b = true → N = 0 ∧ o = q ∧ (d = true → p = q)) ∧ (b = false → N ≠ 0 ∧ o ≠ q) := by
  refine ⟨_, _, _, _, _, _, _, set27_tb _, set27_tb _, set27_tb _, cnt_le 27 _, rfl, rfl, rfl, rfl, rfl, rfl, rfl, ?_, ?_, ?_⟩
  · rw [wi_congr (F' := fun i => !hs q.data.toList i) (G' := fun i => !hs p.data.toList i) (fun i hi => hs_bs _ i hi) (fun i hi => hs_bs _ i hi), wi_not]
  · intro h
    rw [wi_iff] at h
    refine ⟨?_, ?_, ?_⟩
    · rw [cnt_nil]
      intro i hi
      rw [hs_bs _ i hi, hs_bs _ i hi]
      have := h i hi
      cases h1 : hs p.data.toList i <;> cases h2 : hs q.data.toList i <;> simp_all
    · rw [bs_ext (G := hs q.data.toList) (fun i hi => by have := h i hi; cases h1 : hs p.data.toList i <;> cases h2 : hs q.data.toList i <;> simp_all), bs_hs hq]
    · intro k
      rw [wi_iff] at k
      rw [← bs_hs hp, ← bs_hs hq]
      refine bs_ext fun i hi => ?_
      have := h i hi
      have := k i hi
      cases h1 : hs p.data.toList i <;> cases h2 : hs q.data.toList i <;> simp_all
  · intro h
    have hn : ¬ ∀ i, i < 27 → hs p.data.toList i = true → hs q.data.toList i = true := by rw [← wi_iff, h]; simp
    refine ⟨fun h0 => hn ?_, fun h0 => hn ?_⟩
    · rw [cnt_nil] at h0
      intro i hi h1
      have := h0 i hi
      rw [hs_bs _ i hi, hs_bs _ i hi, h1] at this
      simpa using this
    · intro i hi h1
      have := hs_bs (fun i => hs p.data.toList i || hs q.data.toList i) i hi
      rw [h0, h1] at this
      simpa using this

set_option maxRecDepth 100000 in
set_option maxHeartbeats 16000000 in
theorem walkWithin {a0 : Option Addr} {len0 cap0 : Nat} {z0 : List Int} (w : World) (h0 : IsRow w a0 len0 cap0 z0) :
    Calls Try.prog 6 #[.slice a0 len0 cap0] w fun e w' => e = .returned (.bool true) ∧ Below w.heap.size w w' := by
  have D := Lib.hid (drawPW h0)
  clear h0
  by_cases hl : (1048576 : Int) < len0
  · go_enter Try.func6, Try.ntmps6
    go_wp2_with fail
    go_ret
    exact ⟨rfl, Below.refl _ _⟩
  · go_enter Try.func6, Try.ntmps6
    go_wp2_with fail
    refine D.out.mono ?_
    rintro e w1 ⟨s, t, s2, t2, rfl, hb⟩
    have HB1 := Lib.hid hb
    clear hb D
    by_cases hs1 : Set27 s
    · by_cases hs2 : Set27 t
      · have V1 := fun w => Lib.hid (implPredValid_yes s w hs1)
        have V2 := fun w => Lib.hid (implPredValid_yes t w hs2)
        have C1 := fun w => Lib.hid (implPWithin_yes s t w hs1 hs2)
        have C2 := fun w => Lib.hid (specPWithin_yes s t w hs1 hs2)
        obtain ⟨m, n, r, o, b, d, N, hm, hn, hr, hN, e1, e2, e3, e4, e5, e6, e7, e8, ht, hf⟩ := wi_facts hs1 hs2
        have C3 := fun w => Lib.hid (implNotP_yes t w hs2)
        have C4 := fun w => Lib.hid (implAnd_yes s n w hs1 hn)
        have C5 := fun w => Lib.hid (implCountP_yes r w hr)
        have C6 := fun w => Lib.hid (implOr_yes s t w hs1 hs2)
        have C7 := fun w => Lib.hid (implNotP_yes s w hs1)
        have C8 := fun w => Lib.hid (implPWithin_yes n m w hn hm)
        have C9 := fun w => Lib.hid (implPWithin_yes t s w hs2 hs1)
        rw [e3] at C1 C2
        rw [e1] at C3
        rw [e5] at C4
        rw [e6] at C5
        rw [e7] at C6
        rw [e2] at C7
        rw [e8] at C8
        rw [e4] at C9
        have P3 := fun w => Lib.hid (ppNot_of t n true C3 w)
        have P4 := fun w => Lib.hid (ppAnd_of s n r true C4 w)
        have P6 := fun w => Lib.hid (ppOr_of s t o true C6 w)
        have P7 := fun w => Lib.hid (ppNot_of s m true C7 w)
        clear hs1 hs2 hm hn hr e1 e2 e3 e4 e5 e6 e7 e8 C3 C4 C6 C7 s2 t2
        cases b
        · obtain ⟨h1, h2⟩ := hf rfl
          have h3 : ((N : Int) == 0) = false := by rw [beq_eq_false_iff_ne]; omega
          have h4 : (o.toList == t.toList) = false := by rw [bytes_eq]; simpa using h2
          clear ht hf h1 h2
          go_wp2_with fail
          refine (C1 _).out.mono ?_
          rintro e w' ⟨rfl, rfl⟩
          go_wp2_with fail
          refine (C2 _).out.mono ?_
          rintro e w2 ⟨rfl, hb⟩
          have HB2 := Lib.hid (bnext HB1.out hb)
          clear hb
          go_wp2_with fail
          refine (V1 _).out.mono ?_
          rintro e w' ⟨rfl, rfl⟩
          go_wp2_with fail
          refine (V2 _).out.mono ?_
          rintro e w' ⟨rfl, rfl⟩
          go_wp2_with fail
          refine (P3 _).out.mono ?_
          rintro e w3 ⟨rfl, hb⟩
          have HB3 := Lib.hid (bnext HB2.out hb)
          clear hb
          go_wp2_with fail
          refine (P4 _).out.mono ?_
          rintro e w4 ⟨rfl, hb⟩
          have HB4 := Lib.hid (bnext HB3.out hb)
          clear hb
          go_wp2_with fail
          refine (C5 _).out.mono ?_
          rintro e w5 ⟨rfl, hb⟩
          have HB5 := Lib.hid (bnext HB4.out hb)
          clear hb
          go_wp2_with fail
          refine (P6 _).out.mono ?_
          rintro e w6 ⟨rfl, hb⟩
          have HB6 := Lib.hid (bnext HB5.out hb)
          clear hb
          go_wp2_with fail
          refine (P3 _).out.mono ?_
          rintro e w7 ⟨rfl, hb⟩
          have HB7 := Lib.hid (bnext HB6.out hb)
          clear hb
          go_wp2_with fail
          refine (P7 _).out.mono ?_
          rintro e w8 ⟨rfl, hb⟩
          have HB8 := Lib.hid (bnext HB7.out hb)
          clear hb
          go_wp2_with fail
          refine (C8 _).out.mono ?_
          rintro e w' ⟨rfl, rfl⟩
          go_wp2_with fail
          go_ret
          exact ⟨rfl, HB8.out⟩
        · obtain ⟨rfl, rfl, h5⟩ := ht rfl
          cases d
          · clear hf h5
            go_wp2_with fail
            refine (C1 _).out.mono ?_
            rintro e w' ⟨rfl, rfl⟩
            go_wp2_with fail
            refine (C2 _).out.mono ?_
            rintro e w2 ⟨rfl, hb⟩
            have HB2 := Lib.hid (bnext HB1.out hb)
            clear hb
            go_wp2_with fail
            refine (V1 _).out.mono ?_
            rintro e w' ⟨rfl, rfl⟩
            go_wp2_with fail
            refine (V2 _).out.mono ?_
            rintro e w' ⟨rfl, rfl⟩
            go_wp2_with fail
            refine (P3 _).out.mono ?_
            rintro e w3 ⟨rfl, hb⟩
            have HB3 := Lib.hid (bnext HB2.out hb)
            clear hb
            go_wp2_with fail
            refine (P4 _).out.mono ?_
            rintro e w4 ⟨rfl, hb⟩
            have HB4 := Lib.hid (bnext HB3.out hb)
            clear hb
            go_wp2_with fail
            refine (C5 _).out.mono ?_
            rintro e w5 ⟨rfl, hb⟩
            have HB5 := Lib.hid (bnext HB4.out hb)
            clear hb
            go_wp2_with fail
            refine (P6 _).out.mono ?_
            rintro e w6 ⟨rfl, hb⟩
            have HB6 := Lib.hid (bnext HB5.out hb)
            clear hb
            go_wp2_with fail
            refine (P3 _).out.mono ?_
            rintro e w7 ⟨rfl, hb⟩
            have HB7 := Lib.hid (bnext HB6.out hb)
            clear hb
            go_wp2_with fail
            refine (P7 _).out.mono ?_
            rintro e w8 ⟨rfl, hb⟩
            have HB8 := Lib.hid (bnext HB7.out hb)
            clear hb
            go_wp2_with fail
            refine (C8 _).out.mono ?_
            rintro e w' ⟨rfl, rfl⟩
            go_wp2_with fail
            refine (C9 _).out.mono ?_
            rintro e w' ⟨rfl, rfl⟩
            go_wp2_with fail
            go_ret
            exact ⟨rfl, HB8.out⟩
          · obtain rfl := h5 rfl
            clear hf h5
            go_wp2_with fail
            refine (C1 _).out.mono ?_
            rintro e w' ⟨rfl, rfl⟩
            go_wp2_with fail
            refine (C2 _).out.mono ?_
            rintro e w2 ⟨rfl, hb⟩
            have HB2 := Lib.hid (bnext HB1.out hb)
            clear hb
            go_wp2_with fail
            refine (V1 _).out.mono ?_
            rintro e w' ⟨rfl, rfl⟩
            go_wp2_with fail
            refine (V2 _).out.mono ?_
            rintro e w' ⟨rfl, rfl⟩
            go_wp2_with fail
            refine (P3 _).out.mono ?_
            rintro e w3 ⟨rfl, hb⟩
            have HB3 := Lib.hid (bnext HB2.out hb)
            clear hb
            go_wp2_with fail
            refine (P4 _).out.mono ?_
            rintro e w4 ⟨rfl, hb⟩
            have HB4 := Lib.hid (bnext HB3.out hb)
            clear hb
            go_wp2_with fail
            refine (C5 _).out.mono ?_
            rintro e w5 ⟨rfl, hb⟩
            have HB5 := Lib.hid (bnext HB4.out hb)
            clear hb
            go_wp2_with fail
            refine (P6 _).out.mono ?_
            rintro e w6 ⟨rfl, hb⟩
            have HB6 := Lib.hid (bnext HB5.out hb)
            clear hb
            go_wp2_with fail
            refine (P3 _).out.mono ?_
            rintro e w7 ⟨rfl, hb⟩
            have HB7 := Lib.hid (bnext HB6.out hb)
            clear hb
            go_wp2_with fail
            refine (P7 _).out.mono ?_
            rintro e w8 ⟨rfl, hb⟩
            have HB8 := Lib.hid (bnext HB7.out hb)
            clear hb
            go_wp2_with fail
            refine (C8 _).out.mono ?_
            rintro e w' ⟨rfl, rfl⟩
            go_wp2_with fail
            refine (C9 _).out.mono ?_
            rintro e w' ⟨rfl, rfl⟩
            go_wp2_with fail
            go_ret
            exact ⟨rfl, HB8.out⟩
      · have hn : ¬ (Set27 s ∧ Set27 t) := fun h => hs2 h.2
        have C1 := fun w => Lib.hid (implPWithin_no s t w hn)
        have C2 := fun w => Lib.hid (specPWithin_no s t w hn (Nat.le_trans s2 (by decide)) (Nat.le_trans t2 (by decide)))
        have V1 := fun w => Lib.hid (implPredValid_yes s w hs1)
        have V2 := fun w => Lib.hid (implPredValid_no t w hs2)
        clear hs1 hs2 hn
        go_wp2_with fail
        refine (C1 _).out.mono ?_
        rintro e w' ⟨rfl, rfl⟩
        go_wp2_with fail
        refine (C2 _).out.mono ?_
        rintro e w2 ⟨rfl, hb⟩
        have HB2 := Lib.hid (bnext HB1.out hb)
        clear hb
        go_wp2_with fail
        refine (V1 _).out.mono ?_
        rintro e w' ⟨rfl, rfl⟩
        go_wp2_with fail
        refine (V2 _).out.mono ?_
        rintro e w' ⟨rfl, rfl⟩
        go_wp2_with fail
        refine (C2 _).out.mono ?_
        rintro e w3 ⟨rfl, hb⟩
        have HB3 := Lib.hid (bnext HB2.out hb)
        clear hb
        go_wp2_with fail
        go_ret
        exact ⟨rfl, HB3.out⟩
    · have hn : ¬ (Set27 s ∧ Set27 t) := fun h => hs1 h.1
      have C1 := fun w => Lib.hid (implPWithin_no s t w hn)
      have C2 := fun w => Lib.hid (specPWithin_no s t w hn (Nat.le_trans s2 (by decide)) (Nat.le_trans t2 (by decide)))
      have V1 := fun w => Lib.hid (implPredValid_no s w hs1)
      clear hs1 hn
      go_wp2_with fail
      refine (C1 _).out.mono ?_
      rintro e w' ⟨rfl, rfl⟩
      go_wp2_with fail
      refine (C2 _).out.mono ?_
      rintro e w2 ⟨rfl, hb⟩
      have HB2 := Lib.hid (bnext HB1.out hb)
      clear hb
      go_wp2_with fail
      refine (V1 _).out.mono ?_
      rintro e w' ⟨rfl, rfl⟩
      go_wp2_with fail
      refine (C2 _).out.mono ?_
      rintro e w3 ⟨rfl, hb⟩
      have HB3 := Lib.hid (bnext HB2.out hb)
      clear hb
      go_wp2_with fail
      go_ret
      exact ⟨rfl, HB3.out⟩

set_option linter.unusedVariables false in
set_option maxRecDepth 100000 in
theorem liftedWithin (os : Os) (started : os.Started) (H : Type) (enc : TypeId × Value → H) :
    ReturnsInHanded {} Try.checked os 6 .any (Rows.fnWithinSpec.pre6 enc Try.prog Try.f6 Rows.fnWithinRow.domain false) (Rows.fnWithinSpec.post enc Try.prog Try.f6 false true false false) := by
  refine returnsInHanded_of_change (C := Try.checked) Try.own started (by kernel_rfl) Try.func6
    (ChangeSpec.witness6 (enc := enc) (C := Try.checked) false ⟨#[], #[.slice none 0 0], []⟩ 8 (by kernel_rfl) (by kernel_rfl) (by kernel_rfl) (by kernel_rfl)) ?_
  intro W base args ds gs before hval0 hW hcnd _
  have hval : ∀ (j : Nat) t v, Try.f6.params[j]? = some t → args[j]? = some v → Value.okWide Try.prog W .any base t v := hval0
  have hW' := hW
  obtain ⟨p, q, hA0, hV, rfl, hfz, hnd⟩ := hW
  have hA : DataW.TrodAll enc Try.prog W 0 (fun _ => true) true Try.f6.params.toList args.toList ds p := hA0
  rw [Try.params6] at hA hval
  obtain ⟨v0, vs0, d0, ds0, p0, q0, hargs, rfl, rfl, h0, r0⟩ := trodAll_cons hA
  obtain ⟨rfl, rfl, rfl⟩ := trodAll_nil r0
  obtain rfl : args = #[v0] := by cases args; simp_all
  obtain ⟨rfl, rfl⟩ := trodVars_none hV
  obtain ⟨a0, len0, cap0, rfl⟩ := okWide_slice Try.underlying22 (hval 0 22 v0 rfl rfl)
  have k0 := h0
  have lt0 : ∀ x ∈ p0, x.block < W.heap.size := by obtain ⟨m, hm⟩ := k0; exact DataW.trod_lt m _ _ _ hm
  obtain ⟨z0, w0⟩ : ∃ zs, IsRow W a0 len0 cap0 zs := by
    obtain ⟨fuel, hf⟩ := h0
    rcases open_ints Try.underlying22 Try.underlying5 (by kernel_rfl) hf with ⟨hcs, _⟩ | ⟨x, l, c, zs, hcs, _, hl, hm, hz, _, hcell, hwz⟩
    · simp [Value.cells] at hcs
      obtain ⟨rfl, rfl, rfl⟩ := hcs
      exact ⟨[], .inl ⟨rfl, rfl, rfl, rfl⟩⟩
    · simp [Value.cells] at hcs
      obtain ⟨rfl, rfl, rfl⟩ := hcs
      exact ⟨zs, .inr ⟨_, rfl, hl, hm, by simpa using hz, hcell, hwz⟩⟩
  clear hA0 hval0
  refine (walkWithin W w0).mono fun e W' ⟨he, bel⟩ => ?_
  subst he
  exact ⟨_, rfl, _, _, _, [], _, [], hW', trodAll_mk1 (shut_bool Try.underlying4 _), (trodAll_cons_mk (Below.trod laidOut (by kernel_rfl) (of_decide_eq_true (by kernel_rfl)) k0 bel lt0) trodAll_mk0), rfl, bel.frame _, fun h => by cases h⟩

theorem within_holds : Rows.FnWithinSaid :=
  OpenClaim.holds_of_wide 6 Try.f6 rfl rfl rfl rfl rfl rfl rfl ⟨rfl, rfl, rfl, rfl, rfl⟩ rfl rfl rfl rfl rfl (by kernel_rfl) Try.func6 (by kernel_rfl)
    (of_decide_eq_true (by kernel_rfl)) (by unfold Func.isWrapper; first | (rw [if_pos (by decide +kernel)]; kernel_rfl) | (rw [if_neg (by decide +kernel)]; exact ⟨rfl, rfl⟩))
    (fun os started H enc _ => liftedWithin os started H enc)

#print axioms within_holds
end Go.Proofs.Ytnhadmeadegckaa
