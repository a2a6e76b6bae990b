/-
  The law of final states from unions is true at all bytes: no condition.
-/
import Derived.Test.YthmghadepimcnaaGreatRows
import Derived.Test.YthmghadepimcnaaGreatTopE
import Derived.Deep.RegionHeld3
import Derived.Test.YthmghadepimcnaaGreatTopC
import Derived.ProofKit
import Derived.OpenShut
import Derived.ShutString
import Derived.ChangeOld
namespace Go.Proofs.YthmghadepimcnaaGreat
open Go.ChangeShapes Go.WideShapes Go.ChangeAt Go.RowKit
open Go.ChangeMaps (open_string shut_string)

theorem Tryz.own : ownKnob Tryz.prog.godebug = none := by kernel_rfl
theorem laidOut : laidOutB Tryz.prog = true := by kernel_rfl

theorem union_facts {p : Pg} (q o : ByteArray) : ∃ (X T Z O U Y : ByteArray) (A Hd : Nat → ByteArray), Set27 X ∧ Set27 T ∧ Set27 O ∧ Set27 Y ∧ bs (tb (poS p (hs q.data.toList))) = X ∧ bs (tb (fun _ => true)) = T ∧ bs (tb (fun i => !hs T.data.toList i)) = Z ∧ A 0 = Z ∧ A 27 = X ∧
    bs (tb (fun i => hs q.data.toList i || hs o.data.toList i)) = O ∧ bs (tb (poS p (hs O.data.toList))) = U ∧ bs (tb (poS p (hs o.data.toList))) = Y ∧ bs (tb (fun i => hs X.data.toList i || hs Y.data.toList i)) = U ∧
    ∀ k, k < 27 → Set27 (A k) ∧ Set27 (Hd k) ∧ bs (tb (rT p k)) = Hd k ∧ (hs q.data.toList k = false → A k = A (k + 1)) ∧ (hs q.data.toList k = true → bs (tb (fun i => hs (A k).data.toList i || hs (Hd k).data.toList i)) = A (k + 1)) := by
  refine ⟨_, _, _, _, _, _, fun k => bs (tb (fun j => upto k (fun i => hs q.data.toList i && rT p i j))), fun k => bs (tb (rT p k)), set27_tb _, set27_tb _, set27_tb _, set27_tb _, rfl, rfl, rfl, ?_, rfl, rfl, rfl, rfl, ?_, ?_⟩
  · refine bs_ext fun i hi => ?_
    rw [hs_bs _ i hi]; rfl
  · refine bs_ext fun j hj => ?_
    rw [hs_bs _ j hj, hs_bs _ j hj, ← poS_or]
    exact (poS_congr (fun i hi => hs_bs (fun i => hs q.data.toList i || hs o.data.toList i) i hi) j).symm
  · refine fun k hk => ⟨set27_tb _, set27_tb _, rfl, fun h => ?_, fun h => ?_⟩
    · refine bs_ext fun j _ => ?_
      rw [upto_succ, h, Bool.false_and, Bool.or_false]
    · refine bs_ext fun j hj => ?_
      rw [hs_bs _ j hj, hs_bs _ j hj, upto_succ, h, Bool.true_and]

set_option maxRecDepth 100000 in
set_option maxHeartbeats 16000000 in
theorem walkPostUnion {a0 : Option Addr} {len0 cap0 : Nat} {z0 : List Int} {a1 : Option Addr} {len1 cap1 : Nat} {z1 : List Int} (w : World) (h0 : IsRow w a0 len0 cap0 z0) (h1 : IsRow w a1 len1 cap1 z1) :
    Calls Tryz.prog 12 #[.slice a0 len0 cap0, .slice a1 len1 cap1] w fun e w' => e = .returned (.bool true) ∧ Below w.heap.size w w' := by
  have D := Lib.hid (dPostOf h0)
  have HR1 := Lib.hid h1
  clear h0 h1
  by_cases hl : (1048576 : Int) < len0
  · go_enter Tryz.func12, Tryz.ntmps12
    go_wp2_with fail
    go_ret
    exact ⟨rfl, Below.refl _ _⟩
  · by_cases hl1 : (1048576 : Int) < len1
    · go_enter Tryz.func12, Tryz.ntmps12
      go_wp2_with fail
      go_ret
      exact ⟨rfl, Below.refl _ _⟩
    · go_enter Tryz.func12, Tryz.ntmps12
      go_wp2_with fail
      refine D.out.mono ?_
      rintro e w1 ⟨t, q, t1, q1, rfl, hb⟩
      have HB1 := Lib.hid hb
      clear hb D
      by_cases hv : IsP t ∧ Set27 q
      · obtain ⟨⟨⟨p, hp, he⟩, hl⟩, hq⟩ := hv
        have HQ := Lib.hid hq
        have HP := Lib.hid hp
        have HE := Lib.hid he
        have HL := Lib.hid hl
        have C1 := fun w => Lib.hid (implPostOf_yes t q hp he hl hq w)
        have C2 := fun w => Lib.hid (specPostOf_yes t q hp he hl hq w)
        unfold TextPost at C1 C2
        obtain ⟨X0, hX0⟩ : ∃ X0, bs (tb (poS p (hs q.data.toList))) = X0 := ⟨_, rfl⟩
        rw [hX0] at C1 C2
        have HX0 := Lib.hid hX0
        clear hp he hl hq t1 q1 hX0
        go_wp2_with fail
        refine (C1 _).out.mono ?_
        rintro e w2 ⟨rfl, hb⟩
        have HB2 := Lib.hid (bnext HB1.out hb)
        clear hb
        go_wp2_with fail
        refine (C2 _).out.mono ?_
        rintro e w3 ⟨rfl, hb⟩
        have HB3 := Lib.hid (bnext HB2.out hb)
        clear hb
        have D2 := Lib.hid (dPostOf (HR1.out.kept HB3.out))
        go_wp2_with fail
        refine D2.out.mono ?_
        rintro e w4 ⟨_, o, _, o1, rfl, hb⟩
        have HB4 := Lib.hid (bnext HB3.out hb)
        clear hb D2 HR1
        by_cases ho : Set27 o
        · obtain ⟨X, T, Z, O, U, Y, A, Hd, hX, hT, hO, hY, e1, e2, e3, e4, e5, e6, e7, e8, e9, hf⟩ := union_facts (p := p) q o
          obtain rfl : X0 = X := HX0.out.symm.trans e1
          have HF := Lib.hid hf
          have V3 := fun w => Lib.hid (implPredValid_yes o w ho)
          have CH := Lib.hid (fun k (hk : k < 27) w => Lib.hid (finals_at t HP.out HE.out HL.out k hk w))
          have PT := fun w => Lib.hid (ppAll w)
          have CN := fun w => Lib.hid (implNotP_yes T w hT)
          have CO := fun w => Lib.hid (implOr_yes q o w HQ.out ho)
          have CU := fun w => Lib.hid (implPostOf_yes t O HP.out HE.out HL.out hO w)
          have CY := fun w => Lib.hid (implPostOf_yes t o HP.out HE.out HL.out ho w)
          have CV := fun w => Lib.hid (implOr_yes X0 Y w hX hY)
          unfold TextPost at CU CY
          rw [e2] at PT
          rw [e3] at CN
          rw [e6] at CO
          rw [e7] at CU
          rw [e8] at CY
          rw [e9] at CV
          have PN := fun w => Lib.hid (ppNot_of T Z true CN w)
          have PO := fun w => Lib.hid (ppOr_of q o O true CO w)
          have PU := fun w => Lib.hid (ppPost_of t O U true CU w)
          have PY := fun w => Lib.hid (ppPost_of t o Y true CY w)
          have PV := fun w => Lib.hid (ppOr_of X0 Y U true CV w)
          have HA0 := Lib.hid e4
          have HA27 := Lib.hid e5
          clear ho hX hT hO hY e1 e2 e3 e4 e5 e6 e7 e8 e9 CN CO CU CY CV hf o1 C1 C2
          go_wp2_with fail
          refine (V3 _).out.mono ?_
          rintro e w' ⟨rfl, rfl⟩
          go_wp2_with fail
          refine (PT _).out.mono ?_
          rintro e w5 ⟨rfl, hb⟩
          have HB5 := Lib.hid (bnext HB4.out hb)
          clear hb
          go_wp2_with fail
          refine (PN _).out.mono ?_
          rintro e w6 ⟨rfl, hb⟩
          have HB6 := Lib.hid (bnext HB5.out hb)
          clear hb
          go_wp2_with fail
          refine (states_any _).mono ?_
          rintro e w7 ⟨g, cap, hcap, hg, rfl, hs, hb⟩
          have HB7 := Lib.hid (bnext HB6.out hb)
          have HS7 := Lib.hid hs
          clear hb hs
          clear PT PN V3 HB1 HB2 HB3 HB4 HB5 HB6
          go_wp2_with fail
          go_loopw [13, 15] (fun v i wr => ∃ k : Nat, k ≤ 27 ∧ v = .string (A k) ∧ i = .int .i64 k ∧ Hid (Below w.heap.size w wr) ∧ Hid (Sts wr g)) (fun _ i _ => 27 - (intOf i).toNat)
          case atStart => exact ⟨0, by omega, congrArg Value.string HA0.out.symm, rfl, HB7, HS7⟩
          case round =>
            clear HB7 HS7
            obtain ⟨k, hk, rfl, rfl, HB, HS⟩ := hrel
            by_cases hlt : k < 27
            · have hk0 : (0 : Int) ≤ (k : Int) := by omega
              have hk1 : (k : Int) < 27 := by omega
              obtain ⟨a1, a2, a3, a4, a5⟩ := HF.out k hlt
              have H1 := fun w => Lib.hid (has_at q HQ.out k hlt w)
              have H2 := CH.out k hlt
              have H3 := fun w => Lib.hid (implOr_yes (A k) (Hd k) w a1 a2)
              rw [a3] at H2
              clear a1 a2 a3
              cases hX : hs q.data.toList k
              · rw [hX] at H1
                have hA := Lib.hid (a4 hX)
                clear a4 a5 hX H2 H3
                obtain ⟨c0, c1, c2⟩ := HS.out k hlt
                go_wp2_with fail
                refine (H1 _).out.mono ?_
                rintro e v1 ⟨rfl, hb⟩
                have HX1 := Lib.hid (bnext HB.out hb)
                have HZ1 := Lib.hid (HS.out.kept hb)
                clear hb c0 c1 c2
                obtain ⟨c0, c1, c2⟩ := HZ1.out k hlt
                go_wp2_with fail
                go_round
                case rel => exact ⟨k + 1, by omega, congrArg Value.string hA.out, by go_num, HX1, HZ1⟩
                case measure => simp [intOf]; omega
              · rw [hX] at H1
                rw [a5 hX] at H3
                have P3 := fun w => Lib.hid (ppOr_of (A k) (Hd k) (A (k + 1)) true H3 w)
                clear a4 a5 hX H3
                obtain ⟨c0, c1, c2⟩ := HS.out k hlt
                go_wp2_with fail
                refine (H1 _).out.mono ?_
                rintro e v1 ⟨rfl, hb⟩
                have HX1 := Lib.hid (bnext HB.out hb)
                have HZ1 := Lib.hid (HS.out.kept hb)
                clear hb c0 c1 c2
                obtain ⟨c0, c1, c2⟩ := HZ1.out k hlt
                go_wp2_with fail
                refine (H2 _).out.mono ?_
                rintro e v2 ⟨rfl, hb⟩
                have HX2 := Lib.hid (bnext HX1.out hb)
                have HZ2 := Lib.hid (HZ1.out.kept hb)
                clear hb c0 c1 c2
                obtain ⟨c0, c1, c2⟩ := HZ2.out k hlt
                go_wp2_with fail
                refine (P3 _).out.mono ?_
                rintro e v3 ⟨rfl, hb⟩
                have HX3 := Lib.hid (bnext HX2.out hb)
                have HZ3 := Lib.hid (HZ2.out.kept hb)
                clear hb c0 c1 c2
                obtain ⟨c0, c1, c2⟩ := HZ3.out k hlt
                go_wp2_with fail
                go_round
                case rel => exact ⟨k + 1, by omega, rfl, by go_num, HX3, HZ3⟩
                case measure => simp [intOf]; omega
            · obtain rfl : k = 27 := by omega
              rw [HA27.out]
              go_wp2_with fail
              refine (PO _).out.mono ?_
              rintro e u1 ⟨rfl, hb⟩
              have HY1 := Lib.hid (bnext HB.out hb)
              clear hb
              go_wp2_with fail
              refine (PU _).out.mono ?_
              rintro e u2 ⟨rfl, hb⟩
              have HY2 := Lib.hid (bnext HY1.out hb)
              clear hb
              go_wp2_with fail
              refine (PY _).out.mono ?_
              rintro e u3 ⟨rfl, hb⟩
              have HY3 := Lib.hid (bnext HY2.out hb)
              clear hb
              go_wp2_with fail
              refine (PV _).out.mono ?_
              rintro e u4 ⟨rfl, hb⟩
              have HY4 := Lib.hid (bnext HY3.out hb)
              clear hb
              go_wp2_with fail
              go_ret
              exact ⟨rfl, HY4.out⟩
        · have V3 := fun w => Lib.hid (implPredValid_no o w ho)
          clear ho o1 C1 C2
          go_wp2_with fail
          refine (V3 _).out.mono ?_
          rintro e w' ⟨rfl, rfl⟩
          go_wp2_with fail
          go_ret
          exact ⟨rfl, HB4.out⟩
      · have C1 := fun w => Lib.hid (implPostOf_no t q hv w)
        have C2 := fun w => Lib.hid (specPostOf_no t q (Nat.le_trans q1 (by decide)) hv w)
        unfold NoPost at C1 C2
        clear hv t1 q1
        go_wp2_with fail
        refine (C1 _).out.mono ?_
        rintro e w2 ⟨rfl, hb⟩
        have HB2 := Lib.hid (bnext HB1.out hb)
        clear hb
        go_wp2_with fail
        refine (C2 _).out.mono ?_
        rintro e w3 ⟨rfl, hb⟩
        have HB3 := Lib.hid (bnext HB2.out hb)
        clear hb
        have D2 := Lib.hid (dPostOf (HR1.out.kept HB3.out))
        go_wp2_with fail
        refine D2.out.mono ?_
        rintro e w4 ⟨_, o, _, o1, rfl, hb⟩
        have HB4 := Lib.hid (bnext HB3.out hb)
        clear hb D2 HR1
        go_wp2_with fail
        go_ret
        exact ⟨rfl, HB4.out⟩

set_option linter.unusedVariables false in
set_option maxRecDepth 100000 in
theorem liftedPostUnion (os : Os) (started : os.Started) (H : Type) (enc : TypeId × Value → H) :
    ReturnsInHanded {} Tryz.checked os 12 .any (Rows.fnPostUnionSpec.pre6 enc Tryz.prog Tryz.f12 Rows.fnPostUnionRow.domain false) (Rows.fnPostUnionSpec.post enc Tryz.prog Tryz.f12 false true false false) := by
  refine returnsInHanded_of_change (C := Tryz.checked) Tryz.own started (by kernel_rfl) Tryz.func12
    (ChangeSpec.witness6 (enc := enc) (C := Tryz.checked) false ⟨#[], #[.slice none 0 0, .slice none 0 0], []⟩ 8 (by kernel_rfl) (by kernel_rfl) (by kernel_rfl) (by kernel_rfl)) ?_
  intro W base args ds gs before hval0 hW hcnd _
  have hval : ∀ (j : Nat) t v, Tryz.f12.params[j]? = some t → args[j]? = some v → Value.okWide Tryz.prog W .any base t v := hval0
  have hW' := hW
  obtain ⟨p, q, hA0, hV, rfl, hfz, hnd⟩ := hW
  have hA : DataW.TrodAll enc Tryz.prog W 0 (fun _ => true) true Tryz.f12.params.toList args.toList ds p := hA0
  rw [Tryz.params12] at hA hval
  obtain ⟨v0, vs0, d0, ds0, p0, q0, hargs, rfl, rfl, h0, r0⟩ := trodAll_cons hA
  obtain ⟨v1, vs1, d1, ds1, p1, q1, rfl, rfl, rfl, h1, r1⟩ := trodAll_cons r0
  obtain ⟨rfl, rfl, rfl⟩ := trodAll_nil r1
  obtain rfl : args = #[v0, v1] := by cases args; simp_all
  obtain ⟨rfl, rfl⟩ := trodVars_none hV
  obtain ⟨a0, len0, cap0, rfl⟩ := okWide_slice Tryz.underlying22 (hval 0 22 v0 rfl rfl)
  have k0 := h0
  have lt0 : ∀ x ∈ p0, x.block < W.heap.size := by obtain ⟨m, hm⟩ := k0; exact DataW.trod_lt m _ _ _ hm
  obtain ⟨z0, w0⟩ : ∃ zs, IsRow W a0 len0 cap0 zs := by
    obtain ⟨fuel, hf⟩ := h0
    rcases open_ints Tryz.underlying22 Tryz.underlying5 (by kernel_rfl) hf with ⟨hcs, _⟩ | ⟨x, l, c, zs, hcs, _, hl, hm, hz, _, hcell, hwz⟩
    · simp [Value.cells] at hcs
      obtain ⟨rfl, rfl, rfl⟩ := hcs
      exact ⟨[], .inl ⟨rfl, rfl, rfl, rfl⟩⟩
    · simp [Value.cells] at hcs
      obtain ⟨rfl, rfl, rfl⟩ := hcs
      exact ⟨zs, .inr ⟨_, rfl, hl, hm, by simpa using hz, hcell, hwz⟩⟩
  obtain ⟨a1, len1, cap1, rfl⟩ := okWide_slice Tryz.underlying22 (hval 1 22 v1 rfl rfl)
  have k1 := h1
  have lt1 : ∀ x ∈ p1, x.block < W.heap.size := by obtain ⟨m, hm⟩ := k1; exact DataW.trod_lt m _ _ _ hm
  obtain ⟨z1, w1⟩ : ∃ zs, IsRow W a1 len1 cap1 zs := by
    obtain ⟨fuel, hf⟩ := h1
    rcases open_ints Tryz.underlying22 Tryz.underlying5 (by kernel_rfl) hf with ⟨hcs, _⟩ | ⟨x, l, c, zs, hcs, _, hl, hm, hz, _, hcell, hwz⟩
    · simp [Value.cells] at hcs
      obtain ⟨rfl, rfl, rfl⟩ := hcs
      exact ⟨[], .inl ⟨rfl, rfl, rfl, rfl⟩⟩
    · simp [Value.cells] at hcs
      obtain ⟨rfl, rfl, rfl⟩ := hcs
      exact ⟨zs, .inr ⟨_, rfl, hl, hm, by simpa using hz, hcell, hwz⟩⟩
  clear hA0 hval0
  refine (walkPostUnion W w0 w1).mono fun e W' ⟨he, bel⟩ => ?_
  subst he
  exact ⟨_, rfl, _, _, _, [], _, [], hW', trodAll_mk1 (shut_bool Tryz.underlying4 _), (trodAll_cons_mk (Below.trod laidOut (by kernel_rfl) (of_decide_eq_true (by kernel_rfl)) k0 bel lt0) (trodAll_cons_mk (Below.trod laidOut (by kernel_rfl) (of_decide_eq_true (by kernel_rfl)) k1 bel lt1) trodAll_mk0)), rfl, bel.frame _, fun h => by cases h⟩

theorem postUnion_holds : Rows.FnPostUnionSaid :=
  OpenClaim.holds_of_wide 12 Tryz.f12 rfl rfl rfl rfl rfl rfl rfl ⟨rfl, rfl, rfl, rfl, rfl⟩ rfl rfl rfl rfl rfl (by kernel_rfl) Tryz.func12 (by kernel_rfl)
    (of_decide_eq_true (by kernel_rfl)) (by unfold Func.isWrapper; first | (rw [if_pos (by decide +kernel)]; kernel_rfl) | (rw [if_neg (by decide +kernel)]; exact ⟨rfl, rfl⟩))
    (fun os started H enc _ => liftedPostUnion os started H enc)

#print axioms postUnion_holds
end Go.Proofs.YthmghadepimcnaaGreat
