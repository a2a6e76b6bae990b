/-
  The law of the strongest invariant is true at all bytes: no condition.
-/
import Derived.Test.YthmghadepimcnaaGreatRows
import Derived.Test.YthmghadepimcnaaGreatTopE
import Derived.Deep.RegionHeld3
import Derived.Test.YthmghadepimcnaaGreatTopC
import Derived.ProofKit
import Derived.OpenShut
import Derived.ShutString
import Derived.ChangeOld
namespace Go.Proofs.YthmghadepimcnaaGreat
open Go.ChangeShapes Go.WideShapes Go.ChangeAt Go.RowKit
open Go.ChangeMaps (open_string shut_string)

theorem Tryz.own : ownKnob Tryz.prog.godebug = none := by kernel_rfl
theorem laidOut : laidOutB Tryz.prog = true := by kernel_rfl

theorem strong_facts (t : Tm) {p : Pg} (hp : p.ok false) (q : ByteArray) : ∃ (X T Z : ByteArray) (A Hd : Nat → ByteArray), Set27 X ∧ Set27 T ∧ bs (tb (stS (tst t) (rT p) (hs q.data.toList))) = X ∧ bs (tb (fun _ => true)) = T ∧ bs (tb (fun i => !hs T.data.toList i)) = Z ∧ A 0 = Z ∧ A 27 = X ∧
    kpS t p (hs X.data.toList) = true ∧ wi 27 (hs q.data.toList) (hs X.data.toList) = true ∧ bs (tb (stS (tst t) (rT p) (hs X.data.toList))) = X ∧
    ∀ k, k < 27 → Set27 (A k) ∧ Set27 (Hd k) ∧ bs (tb (hdS (tst t) (rT p) k)) = Hd k ∧ (hs q.data.toList k = false → A k = A (k + 1)) ∧ (hs q.data.toList k = true → bs (tb (fun i => hs (A k).data.toList i || hs (Hd k).data.toList i)) = A (k + 1)) := by
  refine ⟨_, _, _, fun k => bs (tb (fun j => upto k (fun i => hs q.data.toList i && hdS (tst t) (rT p) i j))), fun k => bs (tb (hdS (tst t) (rT p) k)), set27_tb _, set27_tb _, rfl, rfl, rfl, ?_, rfl, ?_, ?_, ?_, ?_⟩
  · refine bs_ext fun i hi => ?_
    rw [hs_bs _ i hi]; rfl
  · rw [kpS_congr hp (fun i hi => hs_bs _ i hi)]
    exact st_kept hp _
  · rw [wi_iff]
    intro i hi h
    rw [hs_bs _ i hi]
    exact st_in hi h
  · refine bs_ext fun j _ => ?_
    rw [st_congr (fun i hi => hs_bs _ i hi) j, st_st]
  · refine fun k hk => ⟨set27_tb _, set27_tb _, rfl, fun h => ?_, fun h => ?_⟩
    · refine bs_ext fun j _ => ?_
      rw [upto_succ, h, Bool.false_and, Bool.or_false]
    · refine bs_ext fun j hj => ?_
      rw [hs_bs _ j hj, hs_bs _ j hj, upto_succ, h, Bool.true_and]

set_option maxRecDepth 100000 in
set_option maxHeartbeats 16000000 in
theorem walkStrongest {a0 : Option Addr} {len0 cap0 : Nat} {z0 : List Int} (w : World) (h0 : IsRow w a0 len0 cap0 z0) :
    Calls Tryz.prog 8 #[.slice a0 len0 cap0] w fun e w' => e = .returned (.bool true) ∧ Below w.heap.size w w' := by
  have D := Lib.hid (dStrong h0)
  clear h0
  by_cases hl : (1048576 : Int) < len0
  · go_enter Tryz.func8, Tryz.ntmps8
    go_wp2_with fail
    go_ret
    exact ⟨rfl, Below.refl _ _⟩
  · go_enter Tryz.func8, Tryz.ntmps8
    go_wp2_with fail
    refine D.out.mono ?_
    rintro e w1 ⟨q, t, b, q1, t1, b1, rfl, hb⟩
    have HB1 := Lib.hid hb
    clear hb D
    by_cases hv : (IsT t ∧ IsP b) ∧ Set27 q
    · obtain ⟨⟨⟨⟨tm, htm, hts⟩, htl⟩, ⟨⟨p, hp, he⟩, hl⟩⟩, hq⟩ := hv
      obtain ⟨X, T, Z, A, Hd, hX, hT, e1, e2, e3, e4, e5, e6, e7, e8, hf⟩ := strong_facts tm hp q
      have HF := Lib.hid hf
      have HQ := Lib.hid hq
      have C1 := fun w => Lib.hid (implStrong_yes q t b htm hts htl hp he hl hq w)
      have C2 := fun w => Lib.hid (specStrong_yes q t b htm hts htl hp he hl hq w)
      have CH := Lib.hid (fun k (hk : k < 27) w => Lib.hid (head_at t b htm hts htl hp he hl k hk w))
      have C3 := fun w => Lib.hid (implStrong_yes X t b htm hts htl hp he hl hX w)
      have C4 := fun w => Lib.hid (implKeeps_yes X t b htm hts htl hp he hl hX w)
      have C5 := fun w => Lib.hid (implPWithin_yes q X w hq hX)
      have PT := fun w => Lib.hid (ppAll w)
      have CN := fun w => Lib.hid (implNotP_yes T w hT)
      unfold TextPost at C1 C2 C3
      rw [e1] at C1 C2
      rw [e8] at C3
      rw [e6] at C4
      rw [e7] at C5
      rw [e2] at PT
      rw [e3] at CN
      have PN := fun w => Lib.hid (ppNot_of T Z true CN w)
      have HA0 := Lib.hid e4
      have HA27 := Lib.hid e5
      clear htm hts htl hp he hl hq hX hT e1 e2 e3 e4 e5 e6 e7 e8 CN hf t1 b1 q1
      go_wp2_with fail
      refine (C1 _).out.mono ?_
      rintro e w2 ⟨rfl, hb⟩
      have HB2 := Lib.hid (bnext HB1.out hb)
      clear hb
      go_wp2_with fail
      refine (C2 _).out.mono ?_
      rintro e w3 ⟨rfl, hb⟩
      have HB3 := Lib.hid (bnext HB2.out hb)
      clear hb
      go_wp2_with fail
      refine (PT _).out.mono ?_
      rintro e w4 ⟨rfl, hb⟩
      have HB4 := Lib.hid (bnext HB3.out hb)
      clear hb
      go_wp2_with fail
      refine (PN _).out.mono ?_
      rintro e w5 ⟨rfl, hb⟩
      have HB5 := Lib.hid (bnext HB4.out hb)
      clear hb
      go_wp2_with fail
      refine (states_any _).mono ?_
      rintro e w6 ⟨g, cap, hcap, hg, rfl, hs, hb⟩
      have HB6 := Lib.hid (bnext HB5.out hb)
      have HS6 := Lib.hid hs
      clear hb hs
      clear C1 C2 PT PN HB1 HB2 HB3 HB4 HB5
      go_wp2_with fail
      go_loopw [10, 12] (fun v i wr => ∃ k : Nat, k ≤ 27 ∧ v = .string (A k) ∧ i = .int .i64 k ∧ Hid (Below w.heap.size w wr) ∧ Hid (Sts wr g)) (fun _ i _ => 27 - (intOf i).toNat)
      case atStart => exact ⟨0, by omega, congrArg Value.string HA0.out.symm, rfl, HB6, HS6⟩
      case round =>
        clear HB6 HS6
        obtain ⟨k, hk, rfl, rfl, HB, HS⟩ := hrel
        by_cases hlt : k < 27
        · have hk0 : (0 : Int) ≤ (k : Int) := by omega
          have hk1 : (k : Int) < 27 := by omega
          obtain ⟨a1, a2, a3, a4, a5⟩ := HF.out k hlt
          have H1 := fun w => Lib.hid (has_at q HQ.out k hlt w)
          have H2 := CH.out k hlt
          have H3 := fun w => Lib.hid (implOr_yes (A k) (Hd k) w a1 a2)
          rw [a3] at H2
          clear a1 a2 a3
          cases hX : hs q.data.toList k
          · rw [hX] at H1
            have hA := Lib.hid (a4 hX)
            clear a4 a5 hX H2 H3
            obtain ⟨c0, c1, c2⟩ := HS.out k hlt
            go_wp2_with fail
            refine (H1 _).out.mono ?_
            rintro e v1 ⟨rfl, hb⟩
            have HX1 := Lib.hid (bnext HB.out hb)
            have HZ1 := Lib.hid (HS.out.kept hb)
            clear hb c0 c1 c2
            obtain ⟨c0, c1, c2⟩ := HZ1.out k hlt
            go_wp2_with fail
            go_round
            case rel => exact ⟨k + 1, by omega, congrArg Value.string hA.out, by go_num, HX1, HZ1⟩
            case measure => simp [intOf]; omega
          · rw [hX] at H1
            rw [a5 hX] at H3
            have P3 := fun w => Lib.hid (ppOr_of (A k) (Hd k) (A (k + 1)) true H3 w)
            clear a4 a5 hX H3
            obtain ⟨c0, c1, c2⟩ := HS.out k hlt
            go_wp2_with fail
            refine (H1 _).out.mono ?_
            rintro e v1 ⟨rfl, hb⟩
            have HX1 := Lib.hid (bnext HB.out hb)
            have HZ1 := Lib.hid (HS.out.kept hb)
            clear hb c0 c1 c2
            obtain ⟨c0, c1, c2⟩ := HZ1.out k hlt
            go_wp2_with fail
            refine (H2 _).out.mono ?_
            rintro e v2 ⟨rfl, hb⟩
            have HX2 := Lib.hid (bnext HX1.out hb)
            have HZ2 := Lib.hid (HZ1.out.kept hb)
            clear hb c0 c1 c2
            obtain ⟨c0, c1, c2⟩ := HZ2.out k hlt
            go_wp2_with fail
            refine (P3 _).out.mono ?_
            rintro e v3 ⟨rfl, hb⟩
            have HX3 := Lib.hid (bnext HX2.out hb)
            have HZ3 := Lib.hid (HZ2.out.kept hb)
            clear hb c0 c1 c2
            obtain ⟨c0, c1, c2⟩ := HZ3.out k hlt
            go_wp2_with fail
            go_round
            case rel => exact ⟨k + 1, by omega, rfl, by go_num, HX3, HZ3⟩
            case measure => simp [intOf]; omega
        · obtain rfl : k = 27 := by omega
          rw [HA27.out]
          go_wp2_with fail
          refine (C3 _).out.mono ?_
          rintro e u1 ⟨rfl, hb⟩
          have HY1 := Lib.hid (bnext HB.out hb)
          clear hb
          go_wp2_with fail
          refine (C4 _).out.mono ?_
          rintro e u2 ⟨rfl, hb⟩
          have HY2 := Lib.hid (bnext HY1.out hb)
          clear hb
          go_wp2_with fail
          refine (C5 _).out.mono ?_
          rintro e w' ⟨rfl, rfl⟩
          go_wp2_with fail
          go_ret
          exact ⟨rfl, HY2.out⟩
    · have C1 := fun w => Lib.hid (implStrong_no q t b hv w)
      have C2 := fun w => Lib.hid (specStrong_no q t b hv (Nat.le_trans q1 (by decide)) w)
      unfold NoPost at C1 C2
      clear hv t1 b1 q1
      go_wp2_with fail
      refine (C1 _).out.mono ?_
      rintro e w2 ⟨rfl, hb⟩
      have HB2 := Lib.hid (bnext HB1.out hb)
      clear hb
      go_wp2_with fail
      refine (C2 _).out.mono ?_
      rintro e w3 ⟨rfl, hb⟩
      have HB3 := Lib.hid (bnext HB2.out hb)
      clear hb
      go_wp2_with fail
      go_ret
      exact ⟨rfl, HB3.out⟩

set_option linter.unusedVariables false in
set_option maxRecDepth 100000 in
theorem liftedStrongest (os : Os) (started : os.Started) (H : Type) (enc : TypeId × Value → H) :
    ReturnsInHanded {} Tryz.checked os 8 .any (Rows.fnStrongestSpec.pre6 enc Tryz.prog Tryz.f8 Rows.fnStrongestRow.domain false) (Rows.fnStrongestSpec.post enc Tryz.prog Tryz.f8 false true false false) := by
  refine returnsInHanded_of_change (C := Tryz.checked) Tryz.own started (by kernel_rfl) Tryz.func8
    (ChangeSpec.witness6 (enc := enc) (C := Tryz.checked) false ⟨#[], #[.slice none 0 0], []⟩ 8 (by kernel_rfl) (by kernel_rfl) (by kernel_rfl) (by kernel_rfl)) ?_
  intro W base args ds gs before hval0 hW hcnd _
  have hval : ∀ (j : Nat) t v, Tryz.f8.params[j]? = some t → args[j]? = some v → Value.okWide Tryz.prog W .any base t v := hval0
  have hW' := hW
  obtain ⟨p, q, hA0, hV, rfl, hfz, hnd⟩ := hW
  have hA : DataW.TrodAll enc Tryz.prog W 0 (fun _ => true) true Tryz.f8.params.toList args.toList ds p := hA0
  rw [Tryz.params8] at hA hval
  obtain ⟨v0, vs0, d0, ds0, p0, q0, hargs, rfl, rfl, h0, r0⟩ := trodAll_cons hA
  obtain ⟨rfl, rfl, rfl⟩ := trodAll_nil r0
  obtain rfl : args = #[v0] := by cases args; simp_all
  obtain ⟨rfl, rfl⟩ := trodVars_none hV
  obtain ⟨a0, len0, cap0, rfl⟩ := okWide_slice Tryz.underlying22 (hval 0 22 v0 rfl rfl)
  have k0 := h0
  have lt0 : ∀ x ∈ p0, x.block < W.heap.size := by obtain ⟨m, hm⟩ := k0; exact DataW.trod_lt m _ _ _ hm
  obtain ⟨z0, w0⟩ : ∃ zs, IsRow W a0 len0 cap0 zs := by
    obtain ⟨fuel, hf⟩ := h0
    rcases open_ints Tryz.underlying22 Tryz.underlying5 (by kernel_rfl) hf with ⟨hcs, _⟩ | ⟨x, l, c, zs, hcs, _, hl, hm, hz, _, hcell, hwz⟩
    · simp [Value.cells] at hcs
      obtain ⟨rfl, rfl, rfl⟩ := hcs
      exact ⟨[], .inl ⟨rfl, rfl, rfl, rfl⟩⟩
    · simp [Value.cells] at hcs
      obtain ⟨rfl, rfl, rfl⟩ := hcs
      exact ⟨zs, .inr ⟨_, rfl, hl, hm, by simpa using hz, hcell, hwz⟩⟩
  clear hA0 hval0
  refine (walkStrongest W w0).mono fun e W' ⟨he, bel⟩ => ?_
  subst he
  exact ⟨_, rfl, _, _, _, [], _, [], hW', trodAll_mk1 (shut_bool Tryz.underlying4 _), (trodAll_cons_mk (Below.trod laidOut (by kernel_rfl) (of_decide_eq_true (by kernel_rfl)) k0 bel lt0) trodAll_mk0), rfl, bel.frame _, fun h => by cases h⟩

theorem strongest_holds : Rows.FnStrongestSaid :=
  OpenClaim.holds_of_wide 8 Tryz.f8 rfl rfl rfl rfl rfl rfl rfl ⟨rfl, rfl, rfl, rfl, rfl⟩ rfl rfl rfl rfl rfl (by kernel_rfl) Tryz.func8 (by kernel_rfl)
    (of_decide_eq_true (by kernel_rfl)) (by unfold Func.isWrapper; first | (rw [if_pos (by decide +kernel)]; kernel_rfl) | (rw [if_neg (by decide +kernel)]; exact ⟨rfl, rfl⟩))
    (fun os started H enc _ => liftedStrongest os started H enc)

#print axioms strongest_holds
end Go.Proofs.YthmghadepimcnaaGreat
