/-
  The law of the weakest invariant is true at all bytes: no condition.
-/
import Derived.Test.YthmghadepimcnaaGreatRows
import Derived.Test.YthmghadepimcnaaGreatTopE
import Derived.Deep.RegionHeld3
import Derived.Test.YthmghadepimcnaaGreatTopC
import Derived.ProofKit
import Derived.OpenShut
import Derived.ShutString
import Derived.ChangeOld
namespace Go.Proofs.YthmghadepimcnaaGreat
open Go.ChangeShapes Go.WideShapes Go.ChangeAt Go.RowKit
open Go.ChangeMaps (open_string shut_string)

theorem Tryz.own : ownKnob Tryz.prog.godebug = none := by kernel_rfl
theorem laidOut : laidOutB Tryz.prog = true := by kernel_rfl

theorem at_ser {s b : ByteArray} {t : Tm} {p : Pg} (hs : s.data.toList = t.ser) (he : b.data.toList = p.ser) : ((⟨#[64]⟩ : ByteArray) ++ s ++ b).data.toList = (Pg.whl t p).ser := by
  rw [ByteArray.data_append, ByteArray.data_append, Array.toList_append, Array.toList_append, hs, he]
  rfl
theorem at_size (s b : ByteArray) : ((⟨#[64]⟩ : ByteArray) ++ s ++ b).size = 1 + s.size + b.size := by
  rw [ByteArray.size_append, ByteArray.size_append]; rfl
theorem weak_facts (t : Tm) {p : Pg} (hp : p.ok false) (q : ByteArray) : ∃ (X S N A : ByteArray), Set27 X ∧ Set27 S ∧ Set27 N ∧ Set27 A ∧ bs (tb (wF (.whl t p) (hs q.data.toList))) = X ∧ kpS t p (hs X.data.toList) = true ∧ bs (tb (tst t)) = S ∧ bs (tb (fun i => !hs S.data.toList i)) = N ∧
    bs (tb (fun i => hs X.data.toList i && hs N.data.toList i)) = A ∧ wi 27 (hs A.data.toList) (hs q.data.toList) = true ∧ (kpS t p (hs X.data.toList) && wi 27 (hs X.data.toList) (hs X.data.toList) && wi 27 (fun i => hs X.data.toList i && !tst t i) (hs q.data.toList)) = true := by
  have hk : kpS t p (hs (bs (tb (wF (.whl t p) (hs q.data.toList)))).data.toList) = true := by
    rw [kpS_congr hp (fun i hi => hs_bs _ i hi)]
    exact whl_kept _ _ _
  have ho : ∀ i, i < 27 → hs (bs (tb (wF (.whl t p) (hs q.data.toList)))).data.toList i = true → tst t i = false → hs q.data.toList i = true := by
    intro i hi h h2
    rw [hs_bs _ i hi] at h
    exact whl_out h h2
  refine ⟨_, _, _, _, set27_tb _, set27_tb _, set27_tb _, set27_tb _, rfl, hk, rfl, rfl, rfl, ?_, ?_⟩
  · rw [wi_iff]
    intro i hi h
    rw [hs_bs _ i hi, hs_bs (fun i => !hs (bs (tb (tst t))).data.toList i) i hi, hs_bs (tst t) i hi, Bool.and_eq_true, Bool.not_eq_true'] at h
    exact ho i hi h.1 h.2
  · rw [hk, wi_refl, Bool.true_and, Bool.true_and, wi_iff]
    intro i hi h
    rw [Bool.and_eq_true, Bool.not_eq_true'] at h
    exact ho i hi h.1 h.2

set_option maxRecDepth 100000 in
set_option maxHeartbeats 16000000 in
theorem walkWeakest {a0 : Option Addr} {len0 cap0 : Nat} {z0 : List Int} (w : World) (h0 : IsRow w a0 len0 cap0 z0) :
    Calls Tryz.prog 6 #[.slice a0 len0 cap0] w fun e w' => e = .returned (.bool true) ∧ Below w.heap.size w w' := by
  have D := Lib.hid (dWeakInv h0)
  clear h0
  by_cases hl : (1048576 : Int) < len0
  · go_enter Tryz.func6, Tryz.ntmps6
    go_wp2_with fail
    go_ret
    exact ⟨rfl, Below.refl _ _⟩
  · go_enter Tryz.func6, Tryz.ntmps6
    go_wp2_with fail
    refine D.out.mono ?_
    rintro e w1 ⟨t, b, q, t1, b1, q1, rfl, hb⟩
    have HB1 := Lib.hid hb
    clear hb D
    by_cases hv : (IsT t ∧ IsP b) ∧ Set27 q
    · obtain ⟨⟨⟨⟨tm, htm, hts⟩, htl⟩, ⟨⟨p, hp, he⟩, hl⟩⟩, hq⟩ := hv
      obtain ⟨X, S, N, A, hX, hS, hN, hA, e1, e2, e3, e4, e5, e6, e7⟩ := weak_facts tm hp q
      have C1 := fun w => Lib.hid (implWeak_yes q t b htm hts htl hp he hl hq w)
      have C2 := fun w => Lib.hid (specWeak_yes q t b htm hts htl hp he hl hq w)
      have ew : IntKind.i64.wrap ((t.size : Int) + (b.size : Int)) = ((t.size + b.size : Nat) : Int) := (IntWalk.i64_in _ (by omega)).trans (by omega)
      have n1 : ¬ 9223372036854775807 < 1 + t.size := by omega
      have n2 : ¬ 9223372036854775807 < 1 + t.size + b.size := by omega
      by_cases hn : t.size + b.size ≤ 190
      · have g1 : ¬ (190 : Int) < ((t.size + b.size : Nat) : Int) := by omega
        have C3 := fun w => Lib.hid (implKeeps_yes X t b htm hts htl hp he hl hX w)
        have C4 := fun w => Lib.hid (ppSet_of t _ true (fun w => Lib.hid (implPredOf_yes t w htm hts htl)) w)
        have C5 := fun w => Lib.hid (implNotP_yes S w hS)
        have C6 := fun w => Lib.hid (implAnd_yes X N w hX hN)
        have C7 := fun w => Lib.hid (implPWithin_yes A q w hA hq)
        have C8 := fun w => Lib.hid (implFree_yes (⟨#[64]⟩ ++ t ++ b) q (whl_ok htm hp) (at_ser hts he) (by rw [at_size]; omega) hq w)
        have C9 := fun w => Lib.hid (implProves_yes X t b X q htm hts htl hp he hl hX hX hq w)
        unfold TextPost at C1 C2 C8
        rw [e1] at C1 C2 C8
        rw [e7] at C9
        rw [e2] at C3
        rw [e3] at C4
        rw [e4] at C5
        rw [e5] at C6
        rw [e6] at C7
        have PN := fun w => Lib.hid (ppNot_of S N true C5 w)
        have PA := fun w => Lib.hid (ppAnd_of X N A true C6 w)
        have PF := fun w => Lib.hid (ppFree_of _ q X true C8 w)
        clear htm hts htl hp he hl hq hX hS hN hA e1 e2 e3 e4 e5 e6 e7 t1 b1 q1 C5 C6 C8
        go_wp2_with fail
        refine (C1 _).out.mono ?_
        rintro e w2 ⟨rfl, hb⟩
        have HB2 := Lib.hid (bnext HB1.out hb)
        clear hb
        go_wp2_with fail
        refine (C2 _).out.mono ?_
        rintro e w3 ⟨rfl, hb⟩
        have HB3 := Lib.hid (bnext HB2.out hb)
        clear hb
        go_wp2_with fail
        refine (C3 _).out.mono ?_
        rintro e w4 ⟨rfl, hb⟩
        have HB4 := Lib.hid (bnext HB3.out hb)
        clear hb
        go_wp2_with fail
        refine (C4 _).out.mono ?_
        rintro e w5 ⟨rfl, hb⟩
        have HB5 := Lib.hid (bnext HB4.out hb)
        clear hb
        go_wp2_with fail
        refine (PN _).out.mono ?_
        rintro e w6 ⟨rfl, hb⟩
        have HB6 := Lib.hid (bnext HB5.out hb)
        clear hb
        go_wp2_with fail
        refine (PA _).out.mono ?_
        rintro e w7 ⟨rfl, hb⟩
        have HB7 := Lib.hid (bnext HB6.out hb)
        clear hb
        go_wp2_with fail
        refine (C7 _).out.mono ?_
        rintro e w' ⟨rfl, rfl⟩
        go_wp2_with fail
        refine (PF _).out.mono ?_
        rintro e w8 ⟨rfl, hb⟩
        have HB8 := Lib.hid (bnext HB7.out hb)
        clear hb
        go_wp2_with fail
        refine (C9 _).out.mono ?_
        rintro e w9 ⟨rfl, hb⟩
        have HB9 := Lib.hid (bnext HB8.out hb)
        clear hb
        go_wp2_with fail
        go_ret
        exact ⟨rfl, HB9.out⟩
      · have g1 : (190 : Int) < ((t.size + b.size : Nat) : Int) := by omega
        unfold TextPost at C1 C2
        rw [e1] at C1 C2
        clear htm hts htl hp he hl hq hX hS hN hA e1 e2 e3 e4 e5 e6 e7 t1 b1 q1
        go_wp2_with fail
        refine (C1 _).out.mono ?_
        rintro e w2 ⟨rfl, hb⟩
        have HB2 := Lib.hid (bnext HB1.out hb)
        clear hb
        go_wp2_with fail
        refine (C2 _).out.mono ?_
        rintro e w3 ⟨rfl, hb⟩
        have HB3 := Lib.hid (bnext HB2.out hb)
        clear hb
        go_wp2_with fail
        go_ret
        exact ⟨rfl, HB3.out⟩
    · have C1 := fun w => Lib.hid (implWeak_no q t b hv w)
      have C2 := fun w => Lib.hid (specWeak_no q t b hv (Nat.le_trans q1 (by decide)) w)
      unfold NoPost at C1 C2
      clear hv t1 b1 q1
      go_wp2_with fail
      refine (C1 _).out.mono ?_
      rintro e w2 ⟨rfl, hb⟩
      have HB2 := Lib.hid (bnext HB1.out hb)
      clear hb
      go_wp2_with fail
      refine (C2 _).out.mono ?_
      rintro e w3 ⟨rfl, hb⟩
      have HB3 := Lib.hid (bnext HB2.out hb)
      clear hb
      go_wp2_with fail
      go_ret
      exact ⟨rfl, HB3.out⟩

set_option linter.unusedVariables false in
set_option maxRecDepth 100000 in
theorem liftedWeakest (os : Os) (started : os.Started) (H : Type) (enc : TypeId × Value → H) :
    ReturnsInHanded {} Tryz.checked os 6 .any (Rows.fnWeakestSpec.pre6 enc Tryz.prog Tryz.f6 Rows.fnWeakestRow.domain false) (Rows.fnWeakestSpec.post enc Tryz.prog Tryz.f6 false true false false) := by
  refine returnsInHanded_of_change (C := Tryz.checked) Tryz.own started (by kernel_rfl) Tryz.func6
    (ChangeSpec.witness6 (enc := enc) (C := Tryz.checked) false ⟨#[], #[.slice none 0 0], []⟩ 8 (by kernel_rfl) (by kernel_rfl) (by kernel_rfl) (by kernel_rfl)) ?_
  intro W base args ds gs before hval0 hW hcnd _
  have hval : ∀ (j : Nat) t v, Tryz.f6.params[j]? = some t → args[j]? = some v → Value.okWide Tryz.prog W .any base t v := hval0
  have hW' := hW
  obtain ⟨p, q, hA0, hV, rfl, hfz, hnd⟩ := hW
  have hA : DataW.TrodAll enc Tryz.prog W 0 (fun _ => true) true Tryz.f6.params.toList args.toList ds p := hA0
  rw [Tryz.params6] at hA hval
  obtain ⟨v0, vs0, d0, ds0, p0, q0, hargs, rfl, rfl, h0, r0⟩ := trodAll_cons hA
  obtain ⟨rfl, rfl, rfl⟩ := trodAll_nil r0
  obtain rfl : args = #[v0] := by cases args; simp_all
  obtain ⟨rfl, rfl⟩ := trodVars_none hV
  obtain ⟨a0, len0, cap0, rfl⟩ := okWide_slice Tryz.underlying22 (hval 0 22 v0 rfl rfl)
  have k0 := h0
  have lt0 : ∀ x ∈ p0, x.block < W.heap.size := by obtain ⟨m, hm⟩ := k0; exact DataW.trod_lt m _ _ _ hm
  obtain ⟨z0, w0⟩ : ∃ zs, IsRow W a0 len0 cap0 zs := by
    obtain ⟨fuel, hf⟩ := h0
    rcases open_ints Tryz.underlying22 Tryz.underlying5 (by kernel_rfl) hf with ⟨hcs, _⟩ | ⟨x, l, c, zs, hcs, _, hl, hm, hz, _, hcell, hwz⟩
    · simp [Value.cells] at hcs
      obtain ⟨rfl, rfl, rfl⟩ := hcs
      exact ⟨[], .inl ⟨rfl, rfl, rfl, rfl⟩⟩
    · simp [Value.cells] at hcs
      obtain ⟨rfl, rfl, rfl⟩ := hcs
      exact ⟨zs, .inr ⟨_, rfl, hl, hm, by simpa using hz, hcell, hwz⟩⟩
  clear hA0 hval0
  refine (walkWeakest W w0).mono fun e W' ⟨he, bel⟩ => ?_
  subst he
  exact ⟨_, rfl, _, _, _, [], _, [], hW', trodAll_mk1 (shut_bool Tryz.underlying4 _), (trodAll_cons_mk (Below.trod laidOut (by kernel_rfl) (of_decide_eq_true (by kernel_rfl)) k0 bel lt0) trodAll_mk0), rfl, bel.frame _, fun h => by cases h⟩

theorem weakest_holds : Rows.FnWeakestSaid :=
  OpenClaim.holds_of_wide 6 Tryz.f6 rfl rfl rfl rfl rfl rfl rfl ⟨rfl, rfl, rfl, rfl, rfl⟩ rfl rfl rfl rfl rfl (by kernel_rfl) Tryz.func6 (by kernel_rfl)
    (of_decide_eq_true (by kernel_rfl)) (by unfold Func.isWrapper; first | (rw [if_pos (by decide +kernel)]; kernel_rfl) | (rw [if_neg (by decide +kernel)]; exact ⟨rfl, rfl⟩))
    (fun os started H enc _ => liftedWeakest os started H enc)

#print axioms weakest_holds
end Go.Proofs.YthmghadepimcnaaGreat
