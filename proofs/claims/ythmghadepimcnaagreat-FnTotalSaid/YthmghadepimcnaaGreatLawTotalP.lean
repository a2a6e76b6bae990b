/-
  The law of total triples is true at all bytes: no condition.
-/
import Derived.Test.YthmghadepimcnaaGreatRows
import Derived.Test.YthmghadepimcnaaGreatTopE
import Derived.Deep.RegionHeld3
import Derived.Test.YthmghadepimcnaaGreatTopC
import Derived.ProofKit
import Derived.OpenShut
import Derived.ShutString
import Derived.ChangeOld
namespace Go.Proofs.YthmghadepimcnaaGreat
open Go.ChangeShapes Go.WideShapes Go.ChangeAt Go.RowKit
open Go.ChangeMaps (open_string shut_string)

theorem Tryz.own : ownKnob Tryz.prog.godebug = none := by kernel_rfl
theorem laidOut : laidOutB Tryz.prog = true := by kernel_rfl

theorem total_facts {p : Pg} (a q : ByteArray) : ∃ (S : ByteArray) (d f : Bool), Set27 S ∧ bs (tb (fun i => !rL p i && !rK p i)) = S ∧ wi 27 (hs a.data.toList) (hs (bs (tb (wT p (hs q.data.toList)))).data.toList) = (d && f) ∧ wi 27 (hs a.data.toList) (hs (bs (tb (wF p (hs q.data.toList)))).data.toList) = d ∧ wi 27 (hs a.data.toList) (hs S.data.toList) = f := by
  refine ⟨_, _, _, set27_tb _, rfl, ?_, rfl, rfl⟩
  rw [Bool.eq_iff_iff, Bool.and_eq_true, wi_iff, wi_iff, wi_iff]
  constructor
  · intro h
    refine ⟨fun i hi ha => ?_, fun i hi ha => ?_⟩
    · have := h i hi ha
      rw [hs_bs _ i hi] at this ⊢
      unfold wT at this
      rw [Bool.and_eq_true] at this
      exact this.2
    · have := h i hi ha
      rw [hs_bs _ i hi] at this ⊢
      unfold wT at this
      rw [Bool.and_eq_true] at this
      exact this.1
  · rintro ⟨h1, h2⟩ i hi ha
    have k1 := h1 i hi ha
    have k2 := h2 i hi ha
    rw [hs_bs _ i hi] at k1 k2 ⊢
    unfold wT
    rw [Bool.and_eq_true]
    exact ⟨k2, k1⟩

set_option maxRecDepth 100000 in
set_option maxHeartbeats 16000000 in
theorem walkTotal {a0 : Option Addr} {len0 cap0 : Nat} {z0 : List Int} (w : World) (h0 : IsRow w a0 len0 cap0 z0) :
    Calls Tryz.prog 4 #[.slice a0 len0 cap0] w fun e w' => e = .returned (.bool true) ∧ Below w.heap.size w w' := by
  have D := Lib.hid (dTotal h0)
  clear h0
  by_cases hl : (1048576 : Int) < len0
  · go_enter Tryz.func4, Tryz.ntmps4
    go_wp2_with fail
    go_ret
    exact ⟨rfl, Below.refl _ _⟩
  · go_enter Tryz.func4, Tryz.ntmps4
    go_wp2_with fail
    refine D.out.mono ?_
    rintro e w1 ⟨a, s, q, a1, s1, q1, rfl, hb⟩
    have HB1 := Lib.hid hb
    clear hb D
    by_cases hv : IsP s ∧ Set27 q
    · by_cases ha : Set27 a
      · obtain ⟨⟨⟨p, hp, he⟩, hl⟩, hq⟩ := hv
        obtain ⟨S, d, f, hS, e1, e2, e3, e4⟩ := total_facts (p := p) a q
        have C1 := fun w => Lib.hid (implTotalH_yes a s q hp he hl hq ha w)
        have C2 := fun w => Lib.hid (specTotalH_yes a s q hp he hl hq ha (Nat.le_trans q1 (by decide)) w)
        have C3 := fun w => Lib.hid (implSurelyEnds_yes s hp he hl w)
        have C4 := fun w => Lib.hid (implTriple_yes a s q hp he hl hq ha w)
        have C5 := fun w => Lib.hid (implPWithin_yes a S w ha hS)
        unfold TextPost at C3
        rw [e2] at C1 C2
        rw [e1] at C3
        rw [e3] at C4
        rw [e4] at C5
        clear hp he hl hq hS ha e1 e2 e3 e4 a1 s1 q1
        cases d
        · go_wp2_with fail
          refine (C1 _).out.mono ?_
          rintro e w2 ⟨rfl, hb⟩
          have HB2 := Lib.hid (bnext HB1.out hb)
          clear hb
          go_wp2_with fail
          refine (C2 _).out.mono ?_
          rintro e w3 ⟨rfl, hb⟩
          have HB3 := Lib.hid (bnext HB2.out hb)
          clear hb
          go_wp2_with fail
          refine (C3 _).out.mono ?_
          rintro e w4 ⟨rfl, hb⟩
          have HB4 := Lib.hid (bnext HB3.out hb)
          clear hb
          go_wp2_with fail
          refine (C4 _).out.mono ?_
          rintro e w5 ⟨rfl, hb⟩
          have HB5 := Lib.hid (bnext HB4.out hb)
          clear hb
          go_wp2_with fail
          go_ret
          exact ⟨rfl, HB5.out⟩
        · cases f
          · go_wp2_with fail
            refine (C1 _).out.mono ?_
            rintro e w2 ⟨rfl, hb⟩
            have HB2 := Lib.hid (bnext HB1.out hb)
            clear hb
            go_wp2_with fail
            refine (C2 _).out.mono ?_
            rintro e w3 ⟨rfl, hb⟩
            have HB3 := Lib.hid (bnext HB2.out hb)
            clear hb
            go_wp2_with fail
            refine (C3 _).out.mono ?_
            rintro e w4 ⟨rfl, hb⟩
            have HB4 := Lib.hid (bnext HB3.out hb)
            clear hb
            go_wp2_with fail
            refine (C4 _).out.mono ?_
            rintro e w5 ⟨rfl, hb⟩
            have HB5 := Lib.hid (bnext HB4.out hb)
            clear hb
            go_wp2_with fail
            refine (C5 _).out.mono ?_
            rintro e w' ⟨rfl, rfl⟩
            go_wp2_with fail
            go_ret
            exact ⟨rfl, HB5.out⟩
          · go_wp2_with fail
            refine (C1 _).out.mono ?_
            rintro e w2 ⟨rfl, hb⟩
            have HB2 := Lib.hid (bnext HB1.out hb)
            clear hb
            go_wp2_with fail
            refine (C2 _).out.mono ?_
            rintro e w3 ⟨rfl, hb⟩
            have HB3 := Lib.hid (bnext HB2.out hb)
            clear hb
            go_wp2_with fail
            refine (C3 _).out.mono ?_
            rintro e w4 ⟨rfl, hb⟩
            have HB4 := Lib.hid (bnext HB3.out hb)
            clear hb
            go_wp2_with fail
            refine (C4 _).out.mono ?_
            rintro e w5 ⟨rfl, hb⟩
            have HB5 := Lib.hid (bnext HB4.out hb)
            clear hb
            go_wp2_with fail
            refine (C5 _).out.mono ?_
            rintro e w' ⟨rfl, rfl⟩
            go_wp2_with fail
            go_ret
            exact ⟨rfl, HB5.out⟩
      · obtain ⟨⟨⟨p, hp, he⟩, hl⟩, hq⟩ := hv
        have C1 := fun w => Lib.hid (implTotalH_out a s q hp he hl hq ha w)
        have C2 := fun w => Lib.hid (specTotalH_out a s q hp he hl hq ha (Nat.le_trans a1 (by decide)) (Nat.le_trans q1 (by decide)) w)
        have C3 := fun w => Lib.hid (implSurelyEnds_yes s hp he hl w)
        have C4 := fun w => Lib.hid (implTriple_out a s q hp he hl hq ha w)
        unfold TextPost at C3
        generalize bs (tb (fun i => !rL p i && !rK p i)) = S at *
        clear hp he hl hq ha a1 s1 q1
        go_wp2_with fail
        refine (C1 _).out.mono ?_
        rintro e w2 ⟨rfl, hb⟩
        have HB2 := Lib.hid (bnext HB1.out hb)
        clear hb
        go_wp2_with fail
        refine (C2 _).out.mono ?_
        rintro e w3 ⟨rfl, hb⟩
        have HB3 := Lib.hid (bnext HB2.out hb)
        clear hb
        go_wp2_with fail
        refine (C3 _).out.mono ?_
        rintro e w4 ⟨rfl, hb⟩
        have HB4 := Lib.hid (bnext HB3.out hb)
        clear hb
        go_wp2_with fail
        refine (C4 _).out.mono ?_
        rintro e w5 ⟨rfl, hb⟩
        have HB5 := Lib.hid (bnext HB4.out hb)
        clear hb
        go_wp2_with fail
        go_ret
        exact ⟨rfl, HB5.out⟩
    · have C1 := fun w => Lib.hid (implTotalH_no a s q hv w)
      have C2 := fun w => Lib.hid (specTotalH_no a s q hv (Nat.le_trans q1 (by decide)) w)
      have C4 := fun w => Lib.hid (implTriple_no a s q hv w)
      by_cases hs : IsP s
      · obtain ⟨⟨p, hp, he⟩, hl⟩ := hs
        have C3 := fun w => Lib.hid (implSurelyEnds_yes s hp he hl w)
        unfold TextPost at C3
        generalize bs (tb (fun i => !rL p i && !rK p i)) = S at *
        clear hp he hl hv a1 s1 q1
        go_wp2_with fail
        refine (C1 _).out.mono ?_
        rintro e w2 ⟨rfl, hb⟩
        have HB2 := Lib.hid (bnext HB1.out hb)
        clear hb
        go_wp2_with fail
        refine (C2 _).out.mono ?_
        rintro e w3 ⟨rfl, hb⟩
        have HB3 := Lib.hid (bnext HB2.out hb)
        clear hb
        go_wp2_with fail
        refine (C3 _).out.mono ?_
        rintro e w4 ⟨rfl, hb⟩
        have HB4 := Lib.hid (bnext HB3.out hb)
        clear hb
        go_wp2_with fail
        refine (C4 _).out.mono ?_
        rintro e w5 ⟨rfl, hb⟩
        have HB5 := Lib.hid (bnext HB4.out hb)
        clear hb
        go_wp2_with fail
        go_ret
        exact ⟨rfl, HB5.out⟩
      · have C3 := fun w => Lib.hid (implSurelyEnds_no s hs w)
        unfold NoPost at C3
        clear hv hs a1 s1 q1
        go_wp2_with fail
        refine (C1 _).out.mono ?_
        rintro e w2 ⟨rfl, hb⟩
        have HB2 := Lib.hid (bnext HB1.out hb)
        clear hb
        go_wp2_with fail
        refine (C2 _).out.mono ?_
        rintro e w3 ⟨rfl, hb⟩
        have HB3 := Lib.hid (bnext HB2.out hb)
        clear hb
        go_wp2_with fail
        refine (C3 _).out.mono ?_
        rintro e w4 ⟨rfl, hb⟩
        have HB4 := Lib.hid (bnext HB3.out hb)
        clear hb
        go_wp2_with fail
        refine (C4 _).out.mono ?_
        rintro e w5 ⟨rfl, hb⟩
        have HB5 := Lib.hid (bnext HB4.out hb)
        clear hb
        go_wp2_with fail
        go_ret
        exact ⟨rfl, HB5.out⟩

set_option linter.unusedVariables false in
set_option maxRecDepth 100000 in
theorem liftedTotal (os : Os) (started : os.Started) (H : Type) (enc : TypeId × Value → H) :
    ReturnsInHanded {} Tryz.checked os 4 .any (Rows.fnTotalSpec.pre6 enc Tryz.prog Tryz.f4 Rows.fnTotalRow.domain false) (Rows.fnTotalSpec.post enc Tryz.prog Tryz.f4 false true false false) := by
  refine returnsInHanded_of_change (C := Tryz.checked) Tryz.own started (by kernel_rfl) Tryz.func4
    (ChangeSpec.witness6 (enc := enc) (C := Tryz.checked) false ⟨#[], #[.slice none 0 0], []⟩ 8 (by kernel_rfl) (by kernel_rfl) (by kernel_rfl) (by kernel_rfl)) ?_
  intro W base args ds gs before hval0 hW hcnd _
  have hval : ∀ (j : Nat) t v, Tryz.f4.params[j]? = some t → args[j]? = some v → Value.okWide Tryz.prog W .any base t v := hval0
  have hW' := hW
  obtain ⟨p, q, hA0, hV, rfl, hfz, hnd⟩ := hW
  have hA : DataW.TrodAll enc Tryz.prog W 0 (fun _ => true) true Tryz.f4.params.toList args.toList ds p := hA0
  rw [Tryz.params4] at hA hval
  obtain ⟨v0, vs0, d0, ds0, p0, q0, hargs, rfl, rfl, h0, r0⟩ := trodAll_cons hA
  obtain ⟨rfl, rfl, rfl⟩ := trodAll_nil r0
  obtain rfl : args = #[v0] := by cases args; simp_all
  obtain ⟨rfl, rfl⟩ := trodVars_none hV
  obtain ⟨a0, len0, cap0, rfl⟩ := okWide_slice Tryz.underlying22 (hval 0 22 v0 rfl rfl)
  have k0 := h0
  have lt0 : ∀ x ∈ p0, x.block < W.heap.size := by obtain ⟨m, hm⟩ := k0; exact DataW.trod_lt m _ _ _ hm
  obtain ⟨z0, w0⟩ : ∃ zs, IsRow W a0 len0 cap0 zs := by
    obtain ⟨fuel, hf⟩ := h0
    rcases open_ints Tryz.underlying22 Tryz.underlying5 (by kernel_rfl) hf with ⟨hcs, _⟩ | ⟨x, l, c, zs, hcs, _, hl, hm, hz, _, hcell, hwz⟩
    · simp [Value.cells] at hcs
      obtain ⟨rfl, rfl, rfl⟩ := hcs
      exact ⟨[], .inl ⟨rfl, rfl, rfl, rfl⟩⟩
    · simp [Value.cells] at hcs
      obtain ⟨rfl, rfl, rfl⟩ := hcs
      exact ⟨zs, .inr ⟨_, rfl, hl, hm, by simpa using hz, hcell, hwz⟩⟩
  clear hA0 hval0
  refine (walkTotal W w0).mono fun e W' ⟨he, bel⟩ => ?_
  subst he
  exact ⟨_, rfl, _, _, _, [], _, [], hW', trodAll_mk1 (shut_bool Tryz.underlying4 _), (trodAll_cons_mk (Below.trod laidOut (by kernel_rfl) (of_decide_eq_true (by kernel_rfl)) k0 bel lt0) trodAll_mk0), rfl, bel.frame _, fun h => by cases h⟩

theorem total_holds : Rows.FnTotalSaid :=
  OpenClaim.holds_of_wide 4 Tryz.f4 rfl rfl rfl rfl rfl rfl rfl ⟨rfl, rfl, rfl, rfl, rfl⟩ rfl rfl rfl rfl rfl (by kernel_rfl) Tryz.func4 (by kernel_rfl)
    (of_decide_eq_true (by kernel_rfl)) (by unfold Func.isWrapper; first | (rw [if_pos (by decide +kernel)]; kernel_rfl) | (rw [if_neg (by decide +kernel)]; exact ⟨rfl, rfl⟩))
    (fun os started H enc _ => liftedTotal os started H enc)

#print axioms total_holds
end Go.Proofs.YthmghadepimcnaaGreat
