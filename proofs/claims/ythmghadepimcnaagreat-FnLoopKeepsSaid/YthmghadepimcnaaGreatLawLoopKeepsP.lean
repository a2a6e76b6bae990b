/-
  The law of what a loop keeps is true at all bytes: no condition.
-/
import Derived.Test.YthmghadepimcnaaGreatRows
import Derived.Test.YthmghadepimcnaaGreatTopE
import Derived.Deep.RegionHeld3
import Derived.Test.YthmghadepimcnaaGreatTopC
import Derived.ProofKit
import Derived.OpenShut
import Derived.ShutString
import Derived.ChangeOld
namespace Go.Proofs.YthmghadepimcnaaGreat
open Go.ChangeShapes Go.WideShapes Go.ChangeAt Go.RowKit
open Go.ChangeMaps (open_string shut_string)

theorem Tryz.own : ownKnob Tryz.prog.godebug = none := by kernel_rfl
theorem laidOut : laidOutB Tryz.prog = true := by kernel_rfl

theorem keeps_facts (t : Tm) {p : Pg} (hp : p.ok false) (q : ByteArray) : ∃ (S A P : ByteArray) (Hd : Nat → ByteArray) (st : Nat → Bool) (d : Bool), Set27 S ∧ Set27 A ∧ Set27 P ∧ kpS t p (hs q.data.toList) = d ∧ bs (tb (tst t)) = S ∧ bs (tb (fun i => hs q.data.toList i && hs S.data.toList i)) = A ∧ bs (tb (poS p (hs A.data.toList))) = P ∧
    wi 27 (hs P.data.toList) (hs q.data.toList) = d ∧ st 0 = true ∧ st 27 = d ∧ ∀ k, k < 27 → Set27 (Hd k) ∧ bs (tb (hdS (tst t) (rT p) k)) = Hd k ∧ st (k + 1) = (st k && (!hs q.data.toList k || wi 27 (hs (Hd k).data.toList) (hs q.data.toList))) := by
  refine ⟨_, _, _, fun k => bs (tb (hdS (tst t) (rT p) k)), fun k => (List.range k).all (fun i => !hs q.data.toList i || wi 27 (hs (bs (tb (hdS (tst t) (rT p) i))).data.toList) (hs q.data.toList)), _, set27_tb _, set27_tb _, set27_tb _, rfl, rfl, rfl, rfl, ?_, rfl, ?_, fun k hk => ⟨set27_tb _, rfl, ?_⟩⟩
  · rw [kpS_post hp]
    refine wi_congr (fun j hj => ?_) (fun _ _ => rfl)
    rw [hs_bs _ j hj]
    exact poS_congr (fun i hi => by rw [hs_bs _ i hi, hs_bs _ i hi]) j
  · rw [Bool.eq_iff_iff, List.all_eq_true, kpS_heads hp]
    constructor
    · intro h i hi hq
      have := h i (by simpa using hi)
      rw [hq, Bool.not_true, Bool.false_or] at this
      rw [← this]
      exact wi_congr (fun j hj => (hs_bs _ j hj).symm) (fun _ _ => rfl)
    · intro h i hi
      cases hq : hs q.data.toList i
      · rfl
      · rw [Bool.not_true, Bool.false_or, ← h i (by simpa using hi) hq]
        exact wi_congr (fun j hj => hs_bs _ j hj) (fun _ _ => rfl)
  · show (List.range (k + 1)).all _ = ((List.range k).all _ && _)
    rw [List.range_succ, List.all_append]
    simp

set_option maxRecDepth 100000 in
set_option maxHeartbeats 16000000 in
theorem walkLoopKeeps {a0 : Option Addr} {len0 cap0 : Nat} {z0 : List Int} (w : World) (h0 : IsRow w a0 len0 cap0 z0) :
    Calls Tryz.prog 9 #[.slice a0 len0 cap0] w fun e w' => e = .returned (.bool true) ∧ Below w.heap.size w w' := by
  have D := Lib.hid (dKeeps h0)
  clear h0
  by_cases hl : (1048576 : Int) < len0
  · go_enter Tryz.func9, Tryz.ntmps9
    go_wp2_with fail
    go_ret
    exact ⟨rfl, Below.refl _ _⟩
  · go_enter Tryz.func9, Tryz.ntmps9
    go_wp2_with fail
    refine D.out.mono ?_
    rintro e w1 ⟨t, b, q, t1, b1, q1, rfl, hb⟩
    have HB1 := Lib.hid hb
    clear hb D
    by_cases hv : (IsT t ∧ IsP b) ∧ Set27 q
    · obtain ⟨⟨⟨⟨tm, htm, hts⟩, htl⟩, ⟨⟨p, hp, he⟩, hl⟩⟩, hq⟩ := hv
      obtain ⟨S, A, P, Hd, st, d, hS, hA, hP, e1, e2, e3, e4, e5, e6, e7, hf⟩ := keeps_facts tm hp q
      have HF := Lib.hid hf
      have HQ := Lib.hid hq
      have C1 := fun w => Lib.hid (implKeeps_yes q t b htm hts htl hp he hl hq w)
      have C2 := fun w => Lib.hid (specKeeps_yes q t b htm hts htl hp he hl hq w)
      have V1 := fun w => Lib.hid (implTest_yes t w ⟨tm, htm, hts⟩ htl)
      have V2 := fun w => Lib.hid (implPV_yes b w hp he hl)
      have V3 := fun w => Lib.hid (implPredValid_yes q w hq)
      have CH := Lib.hid (fun k (hk : k < 27) w => Lib.hid (head_at t b htm hts htl hp he hl k hk w))
      have C3 := fun w => Lib.hid (ppSet_of t _ true (fun w => Lib.hid (implPredOf_yes t w htm hts htl)) w)
      have C4 := fun w => Lib.hid (implAnd_yes q S w hq hS)
      have C5 := fun w => Lib.hid (implPostOf_yes b A hp he hl hA w)
      have C6 := fun w => Lib.hid (implPWithin_yes P q w hP hq)
      unfold TextPost at C5
      rw [e1] at C1 C2
      rw [e2] at C3
      rw [e3] at C4
      rw [e4] at C5
      rw [e5] at C6
      have PA := fun w => Lib.hid (ppAnd_of q S A true C4 w)
      have PP := fun w => Lib.hid (ppPost_of b A P true C5 w)
      have HS0 := Lib.hid e6
      have HST := Lib.hid e7
      clear htm hts htl hp he hl hq hS hA hP e1 e2 e3 e4 e5 e6 e7 C4 C5 hf t1 b1 q1
      go_wp2_with fail
      refine (C1 _).out.mono ?_
      rintro e w2 ⟨rfl, hb⟩
      have HB2 := Lib.hid (bnext HB1.out hb)
      clear hb
      go_wp2_with fail
      refine (C2 _).out.mono ?_
      rintro e w3 ⟨rfl, hb⟩
      have HB3 := Lib.hid (bnext HB2.out hb)
      clear hb
      go_wp2_with fail
      refine (V1 _).out.mono ?_
      rintro e w4 ⟨rfl, hb⟩
      have HB4 := Lib.hid (bnext HB3.out hb)
      clear hb
      go_wp2_with fail
      refine (V2 _).out.mono ?_
      rintro e w5 ⟨rfl, hb⟩
      have HB5 := Lib.hid (bnext HB4.out hb)
      clear hb
      go_wp2_with fail
      refine (V3 _).out.mono ?_
      rintro e w' ⟨rfl, rfl⟩
      go_wp2_with fail
      refine (states_any _).mono ?_
      rintro e w6 ⟨g, cap, hcap, hg, rfl, hs, hb⟩
      have HB6 := Lib.hid (bnext HB5.out hb)
      have HS6 := Lib.hid hs
      clear hb hs
      clear C1 C2 V1 V2 V3 HB1 HB2 HB3 HB4 HB5
      go_wp2_with fail
      go_loopw [7, 9] (fun v i wr => ∃ k : Nat, k ≤ 27 ∧ v = .bool (st k) ∧ i = .int .i64 k ∧ Hid (Below w.heap.size w wr) ∧ Hid (Sts wr g)) (fun _ i _ => 27 - (intOf i).toNat)
      case atStart => exact ⟨0, by omega, congrArg Value.bool HS0.out.symm, rfl, HB6, HS6⟩
      case round =>
        clear HB6 HS6
        obtain ⟨k, hk, rfl, rfl, HB, HS⟩ := hrel
        by_cases hlt : k < 27
        · have hk0 : (0 : Int) ≤ (k : Int) := by omega
          have hk1 : (k : Int) < 27 := by omega
          obtain ⟨a1, a2, a3⟩ := HF.out k hlt
          have H1 := fun w => Lib.hid (has_at q HQ.out k hlt w)
          have H2 := CH.out k hlt
          have H3 := fun w => Lib.hid (implPWithin_yes (Hd k) q w a1 HQ.out)
          rw [a2] at H2
          clear a1 a2
          obtain ⟨X, hX⟩ : ∃ X, hs q.data.toList k = X := ⟨_, rfl⟩
          obtain ⟨c, hc⟩ : ∃ c, wi 27 (hs (Hd k).data.toList) (hs q.data.toList) = c := ⟨_, rfl⟩
          obtain ⟨s1, hs1⟩ : ∃ s1, st (k + 1) = s1 := ⟨_, rfl⟩
          obtain ⟨s0, hs0⟩ : ∃ s0, st k = s0 := ⟨_, rfl⟩
          rw [hX] at H1
          rw [hc] at H3
          rw [hs1, hs0, hX, hc] at a3
          rw [hs0]
          have HS1 := Lib.hid hs1
          have G3 := Lib.hid a3
          clear hs1 hs0 hX hc a3
          cases s0
          · obtain rfl : s1 = false := G3.out
            clear G3
            obtain ⟨c0, c1, c2⟩ := HS.out k hlt
            go_wp2_with fail
            refine (H2 _).out.mono ?_
            rintro e v1 ⟨rfl, hb⟩
            have HX1 := Lib.hid (bnext HB.out hb)
            have HZ1 := Lib.hid (HS.out.kept hb)
            clear hb c0 c1 c2
            obtain ⟨c0, c1, c2⟩ := HZ1.out k hlt
            go_wp2_with fail
            go_round
            case rel => exact ⟨k + 1, by omega, congrArg Value.bool HS1.out.symm, by go_num, HX1, HZ1⟩
            case measure => simp [intOf]; omega
          · cases X
            · obtain rfl : s1 = true := G3.out
              clear G3
              obtain ⟨c0, c1, c2⟩ := HS.out k hlt
              go_wp2_with fail
              refine (H2 _).out.mono ?_
              rintro e v1 ⟨rfl, hb⟩
              have HX1 := Lib.hid (bnext HB.out hb)
              have HZ1 := Lib.hid (HS.out.kept hb)
              clear hb c0 c1 c2
              obtain ⟨c0, c1, c2⟩ := HZ1.out k hlt
              go_wp2_with fail
              refine (H1 _).out.mono ?_
              rintro e v2 ⟨rfl, hb⟩
              have HX2 := Lib.hid (bnext HX1.out hb)
              have HZ2 := Lib.hid (HZ1.out.kept hb)
              clear hb c0 c1 c2
              obtain ⟨c0, c1, c2⟩ := HZ2.out k hlt
              go_wp2_with fail
              go_round
              case rel => exact ⟨k + 1, by omega, congrArg Value.bool HS1.out.symm, by go_num, HX2, HZ2⟩
              case measure => simp [intOf]; omega
            · cases c
              · obtain rfl : s1 = false := G3.out
                clear G3
                obtain ⟨c0, c1, c2⟩ := HS.out k hlt
                go_wp2_with fail
                refine (H2 _).out.mono ?_
                rintro e v1 ⟨rfl, hb⟩
                have HX1 := Lib.hid (bnext HB.out hb)
                have HZ1 := Lib.hid (HS.out.kept hb)
                clear hb c0 c1 c2
                obtain ⟨c0, c1, c2⟩ := HZ1.out k hlt
                go_wp2_with fail
                refine (H1 _).out.mono ?_
                rintro e v2 ⟨rfl, hb⟩
                have HX2 := Lib.hid (bnext HX1.out hb)
                have HZ2 := Lib.hid (HZ1.out.kept hb)
                clear hb c0 c1 c2
                obtain ⟨c0, c1, c2⟩ := HZ2.out k hlt
                go_wp2_with fail
                refine (H3 _).out.mono ?_
                rintro e w' ⟨rfl, rfl⟩
                clear c0 c1 c2
                obtain ⟨c0, c1, c2⟩ := HZ2.out k hlt
                go_wp2_with fail
                go_round
                case rel => exact ⟨k + 1, by omega, congrArg Value.bool HS1.out.symm, by go_num, HX2, HZ2⟩
                case measure => simp [intOf]; omega
              · obtain rfl : s1 = true := G3.out
                clear G3
                obtain ⟨c0, c1, c2⟩ := HS.out k hlt
                go_wp2_with fail
                refine (H2 _).out.mono ?_
                rintro e v1 ⟨rfl, hb⟩
                have HX1 := Lib.hid (bnext HB.out hb)
                have HZ1 := Lib.hid (HS.out.kept hb)
                clear hb c0 c1 c2
                obtain ⟨c0, c1, c2⟩ := HZ1.out k hlt
                go_wp2_with fail
                refine (H1 _).out.mono ?_
                rintro e v2 ⟨rfl, hb⟩
                have HX2 := Lib.hid (bnext HX1.out hb)
                have HZ2 := Lib.hid (HZ1.out.kept hb)
                clear hb c0 c1 c2
                obtain ⟨c0, c1, c2⟩ := HZ2.out k hlt
                go_wp2_with fail
                refine (H3 _).out.mono ?_
                rintro e w' ⟨rfl, rfl⟩
                clear c0 c1 c2
                obtain ⟨c0, c1, c2⟩ := HZ2.out k hlt
                go_wp2_with fail
                go_round
                case rel => exact ⟨k + 1, by omega, congrArg Value.bool HS1.out.symm, by go_num, HX2, HZ2⟩
                case measure => simp [intOf]; omega
        · obtain rfl : k = 27 := by omega
          cases d
          · rw [HST.out]
            go_wp2_with fail
            refine (C3 _).out.mono ?_
            rintro e u1 ⟨rfl, hb⟩
            have HY1 := Lib.hid (bnext HB.out hb)
            clear hb
            go_wp2_with fail
            refine (PA _).out.mono ?_
            rintro e u2 ⟨rfl, hb⟩
            have HY2 := Lib.hid (bnext HY1.out hb)
            clear hb
            go_wp2_with fail
            refine (PP _).out.mono ?_
            rintro e u3 ⟨rfl, hb⟩
            have HY3 := Lib.hid (bnext HY2.out hb)
            clear hb
            go_wp2_with fail
            refine (C6 _).out.mono ?_
            rintro e w' ⟨rfl, rfl⟩
            go_wp2_with fail
            go_ret
            exact ⟨rfl, HY3.out⟩
          · rw [HST.out]
            go_wp2_with fail
            refine (C3 _).out.mono ?_
            rintro e u1 ⟨rfl, hb⟩
            have HY1 := Lib.hid (bnext HB.out hb)
            clear hb
            go_wp2_with fail
            refine (PA _).out.mono ?_
            rintro e u2 ⟨rfl, hb⟩
            have HY2 := Lib.hid (bnext HY1.out hb)
            clear hb
            go_wp2_with fail
            refine (PP _).out.mono ?_
            rintro e u3 ⟨rfl, hb⟩
            have HY3 := Lib.hid (bnext HY2.out hb)
            clear hb
            go_wp2_with fail
            refine (C6 _).out.mono ?_
            rintro e w' ⟨rfl, rfl⟩
            go_wp2_with fail
            go_ret
            exact ⟨rfl, HY3.out⟩
    · have C1 := fun w => Lib.hid (implKeeps_no q t b hv w)
      have C2 := fun w => Lib.hid (specKeeps_no q t b hv (Nat.le_trans q1 (by decide)) w)
      by_cases v1 : IsT t
      · have V1 := fun w => Lib.hid (implTest_yes t w v1.1 v1.2)
        by_cases v2 : IsP b
        · obtain ⟨⟨p, hp, he⟩, hl⟩ := v2
          have V2 := fun w => Lib.hid (implPV_yes b w hp he hl)
          have V3 := fun w => Lib.hid (implPredValid_no q w (fun h => hv ⟨⟨v1, ⟨⟨p, hp, he⟩, hl⟩⟩, h⟩))
          clear hv v1 hp he hl t1 b1 q1
          go_wp2_with fail
          refine (C1 _).out.mono ?_
          rintro e w2 ⟨rfl, hb⟩
          have HB2 := Lib.hid (bnext HB1.out hb)
          clear hb
          go_wp2_with fail
          refine (C2 _).out.mono ?_
          rintro e w3 ⟨rfl, hb⟩
          have HB3 := Lib.hid (bnext HB2.out hb)
          clear hb
          go_wp2_with fail
          refine (V1 _).out.mono ?_
          rintro e w4 ⟨rfl, hb⟩
          have HB4 := Lib.hid (bnext HB3.out hb)
          clear hb
          go_wp2_with fail
          refine (V2 _).out.mono ?_
          rintro e w5 ⟨rfl, hb⟩
          have HB5 := Lib.hid (bnext HB4.out hb)
          clear hb
          go_wp2_with fail
          refine (V3 _).out.mono ?_
          rintro e w' ⟨rfl, rfl⟩
          go_wp2_with fail
          refine (C2 _).out.mono ?_
          rintro e w6 ⟨rfl, hb⟩
          have HB6 := Lib.hid (bnext HB5.out hb)
          clear hb
          go_wp2_with fail
          go_ret
          exact ⟨rfl, HB6.out⟩
        · have V2 := fun w => Lib.hid (implPV_no b w v2)
          clear hv v1 v2 t1 b1 q1
          go_wp2_with fail
          refine (C1 _).out.mono ?_
          rintro e w2 ⟨rfl, hb⟩
          have HB2 := Lib.hid (bnext HB1.out hb)
          clear hb
          go_wp2_with fail
          refine (C2 _).out.mono ?_
          rintro e w3 ⟨rfl, hb⟩
          have HB3 := Lib.hid (bnext HB2.out hb)
          clear hb
          go_wp2_with fail
          refine (V1 _).out.mono ?_
          rintro e w4 ⟨rfl, hb⟩
          have HB4 := Lib.hid (bnext HB3.out hb)
          clear hb
          go_wp2_with fail
          refine (V2 _).out.mono ?_
          rintro e w5 ⟨rfl, hb⟩
          have HB5 := Lib.hid (bnext HB4.out hb)
          clear hb
          go_wp2_with fail
          refine (C2 _).out.mono ?_
          rintro e w6 ⟨rfl, hb⟩
          have HB6 := Lib.hid (bnext HB5.out hb)
          clear hb
          go_wp2_with fail
          go_ret
          exact ⟨rfl, HB6.out⟩
      · have V1 := fun w => Lib.hid (implTest_no t w v1)
        clear hv v1 t1 b1 q1
        go_wp2_with fail
        refine (C1 _).out.mono ?_
        rintro e w2 ⟨rfl, hb⟩
        have HB2 := Lib.hid (bnext HB1.out hb)
        clear hb
        go_wp2_with fail
        refine (C2 _).out.mono ?_
        rintro e w3 ⟨rfl, hb⟩
        have HB3 := Lib.hid (bnext HB2.out hb)
        clear hb
        go_wp2_with fail
        refine (V1 _).out.mono ?_
        rintro e w4 ⟨rfl, hb⟩
        have HB4 := Lib.hid (bnext HB3.out hb)
        clear hb
        go_wp2_with fail
        refine (C2 _).out.mono ?_
        rintro e w5 ⟨rfl, hb⟩
        have HB5 := Lib.hid (bnext HB4.out hb)
        clear hb
        go_wp2_with fail
        go_ret
        exact ⟨rfl, HB5.out⟩

set_option linter.unusedVariables false in
set_option maxRecDepth 100000 in
theorem liftedLoopKeeps (os : Os) (started : os.Started) (H : Type) (enc : TypeId × Value → H) :
    ReturnsInHanded {} Tryz.checked os 9 .any (Rows.fnLoopKeepsSpec.pre6 enc Tryz.prog Tryz.f9 Rows.fnLoopKeepsRow.domain false) (Rows.fnLoopKeepsSpec.post enc Tryz.prog Tryz.f9 false true false false) := by
  refine returnsInHanded_of_change (C := Tryz.checked) Tryz.own started (by kernel_rfl) Tryz.func9
    (ChangeSpec.witness6 (enc := enc) (C := Tryz.checked) false ⟨#[], #[.slice none 0 0], []⟩ 8 (by kernel_rfl) (by kernel_rfl) (by kernel_rfl) (by kernel_rfl)) ?_
  intro W base args ds gs before hval0 hW hcnd _
  have hval : ∀ (j : Nat) t v, Tryz.f9.params[j]? = some t → args[j]? = some v → Value.okWide Tryz.prog W .any base t v := hval0
  have hW' := hW
  obtain ⟨p, q, hA0, hV, rfl, hfz, hnd⟩ := hW
  have hA : DataW.TrodAll enc Tryz.prog W 0 (fun _ => true) true Tryz.f9.params.toList args.toList ds p := hA0
  rw [Tryz.params9] at hA hval
  obtain ⟨v0, vs0, d0, ds0, p0, q0, hargs, rfl, rfl, h0, r0⟩ := trodAll_cons hA
  obtain ⟨rfl, rfl, rfl⟩ := trodAll_nil r0
  obtain rfl : args = #[v0] := by cases args; simp_all
  obtain ⟨rfl, rfl⟩ := trodVars_none hV
  obtain ⟨a0, len0, cap0, rfl⟩ := okWide_slice Tryz.underlying22 (hval 0 22 v0 rfl rfl)
  have k0 := h0
  have lt0 : ∀ x ∈ p0, x.block < W.heap.size := by obtain ⟨m, hm⟩ := k0; exact DataW.trod_lt m _ _ _ hm
  obtain ⟨z0, w0⟩ : ∃ zs, IsRow W a0 len0 cap0 zs := by
    obtain ⟨fuel, hf⟩ := h0
    rcases open_ints Tryz.underlying22 Tryz.underlying5 (by kernel_rfl) hf with ⟨hcs, _⟩ | ⟨x, l, c, zs, hcs, _, hl, hm, hz, _, hcell, hwz⟩
    · simp [Value.cells] at hcs
      obtain ⟨rfl, rfl, rfl⟩ := hcs
      exact ⟨[], .inl ⟨rfl, rfl, rfl, rfl⟩⟩
    · simp [Value.cells] at hcs
      obtain ⟨rfl, rfl, rfl⟩ := hcs
      exact ⟨zs, .inr ⟨_, rfl, hl, hm, by simpa using hz, hcell, hwz⟩⟩
  clear hA0 hval0
  refine (walkLoopKeeps W w0).mono fun e W' ⟨he, bel⟩ => ?_
  subst he
  exact ⟨_, rfl, _, _, _, [], _, [], hW', trodAll_mk1 (shut_bool Tryz.underlying4 _), (trodAll_cons_mk (Below.trod laidOut (by kernel_rfl) (of_decide_eq_true (by kernel_rfl)) k0 bel lt0) trodAll_mk0), rfl, bel.frame _, fun h => by cases h⟩

theorem loopKeeps_holds : Rows.FnLoopKeepsSaid :=
  OpenClaim.holds_of_wide 9 Tryz.f9 rfl rfl rfl rfl rfl rfl rfl ⟨rfl, rfl, rfl, rfl, rfl⟩ rfl rfl rfl rfl rfl (by kernel_rfl) Tryz.func9 (by kernel_rfl)
    (of_decide_eq_true (by kernel_rfl)) (by unfold Func.isWrapper; first | (rw [if_pos (by decide +kernel)]; kernel_rfl) | (rw [if_neg (by decide +kernel)]; exact ⟨rfl, rfl⟩))
    (fun os started H enc _ => liftedLoopKeeps os started H enc)

#print axioms loopKeeps_holds
end Go.Proofs.YthmghadepimcnaaGreat
