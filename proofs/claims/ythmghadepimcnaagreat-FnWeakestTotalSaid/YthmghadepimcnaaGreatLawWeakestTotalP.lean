/-
  The law of the weakest sets of total triples is true at all bytes: no condition.
-/
import Derived.Test.YthmghadepimcnaaGreatRows
import Derived.Test.YthmghadepimcnaaGreatTopE
import Derived.Deep.RegionHeld3
import Derived.Test.YthmghadepimcnaaGreatTopC
import Derived.ProofKit
import Derived.OpenShut
import Derived.ShutString
import Derived.ChangeOld
namespace Go.Proofs.YthmghadepimcnaaGreat
open Go.ChangeShapes Go.WideShapes Go.ChangeAt Go.RowKit
open Go.ChangeMaps (open_string shut_string)

theorem Tryz.own : ownKnob Tryz.prog.godebug = none := by kernel_rfl
theorem laidOut : laidOutB Tryz.prog = true := by kernel_rfl

set_option maxRecDepth 100000 in
set_option maxHeartbeats 16000000 in
theorem walkWeakestTotal {a0 : Option Addr} {len0 cap0 : Nat} {z0 : List Int} (w : World) (h0 : IsRow w a0 len0 cap0 z0) :
    Calls Tryz.prog 3 #[.slice a0 len0 cap0] w fun e w' => e = .returned (.bool true) ∧ Below w.heap.size w w' := by
  have D := Lib.hid (dWeakTotal h0)
  clear h0
  by_cases hl : (1048576 : Int) < len0
  · go_enter Tryz.func3, Tryz.ntmps3
    go_wp2_with fail
    go_ret
    exact ⟨rfl, Below.refl _ _⟩
  · go_enter Tryz.func3, Tryz.ntmps3
    go_wp2_with fail
    refine D.out.mono ?_
    rintro e w1 ⟨t, q, t1, q1, rfl, hb⟩
    have HB1 := Lib.hid hb
    clear hb D
    by_cases hv : IsP t ∧ Set27 q
    · obtain ⟨⟨⟨p, hp, he⟩, hl⟩, hq⟩ := hv
      obtain ⟨W, S, N, Fr, T, E, hS, hN, hFr, hT, hE, e1, e2, e3, e4, e5, e6, e7, e8, e9⟩ := wtot_facts hp q
      have C1 := fun w => Lib.hid (implTotal_yes t q hp he hl hq w)
      have C2 := fun w => Lib.hid (specTotal_yes t q hp he hl hq (Nat.le_trans q1 (by decide)) w)
      have C3 := fun w => Lib.hid (implSurelyEnds_yes t hp he hl w)
      have PT := fun w => Lib.hid (ppAll w)
      have C4 := fun w => Lib.hid (implNotP_yes T w hT)
      have C5 := fun w => Lib.hid (implTotal_yes t E hp he hl hE w)
      have C6 := fun w => Lib.hid (implTotal_yes t T hp he hl hT w)
      have C7 := fun w => Lib.hid (implFree_yes t q hp he hl hq w)
      have C8 := fun w => Lib.hid (implAnd_yes Fr S w hFr hS)
      have C9 := fun w => Lib.hid (implCountP_yes N w hN)
      unfold TextPost at C1 C2 C3 C5 C6 C7
      rw [e1] at C1 C2
      rw [e2] at C3
      rw [e3] at PT
      rw [e4] at C4
      rw [e5] at C5
      rw [e6] at C6
      rw [e7] at C7
      rw [e8] at C8
      rw [e9] at C9
      have PN := fun w => Lib.hid (ppNot_of T E true C4 w)
      have PF := fun w => Lib.hid (ppFree_of t q Fr true C7 w)
      have PA := fun w => Lib.hid (ppAnd_of Fr S W true C8 w)
      clear hp he hl hq hS hN hFr hT hE e1 e2 e3 e4 e5 e6 e7 e8 e9 C4 C7 C8 t1 q1
      go_wp2_with fail
      refine (C1 _).out.mono ?_
      rintro e w2 ⟨rfl, hb⟩
      have HB2 := Lib.hid (bnext HB1.out hb)
      clear hb
      go_wp2_with fail
      refine (C2 _).out.mono ?_
      rintro e w3 ⟨rfl, hb⟩
      have HB3 := Lib.hid (bnext HB2.out hb)
      clear hb
      go_wp2_with fail
      refine (C3 _).out.mono ?_
      rintro e w4 ⟨rfl, hb⟩
      have HB4 := Lib.hid (bnext HB3.out hb)
      clear hb
      go_wp2_with fail
      refine (PT _).out.mono ?_
      rintro e w5 ⟨rfl, hb⟩
      have HB5 := Lib.hid (bnext HB4.out hb)
      clear hb
      go_wp2_with fail
      refine (PN _).out.mono ?_
      rintro e w6 ⟨rfl, hb⟩
      have HB6 := Lib.hid (bnext HB5.out hb)
      clear hb
      go_wp2_with fail
      refine (C5 _).out.mono ?_
      rintro e w7 ⟨rfl, hb⟩
      have HB7 := Lib.hid (bnext HB6.out hb)
      clear hb
      go_wp2_with fail
      refine (PT _).out.mono ?_
      rintro e w8 ⟨rfl, hb⟩
      have HB8 := Lib.hid (bnext HB7.out hb)
      clear hb
      go_wp2_with fail
      refine (C6 _).out.mono ?_
      rintro e w9 ⟨rfl, hb⟩
      have HB9 := Lib.hid (bnext HB8.out hb)
      clear hb
      go_wp2_with fail
      refine (PF _).out.mono ?_
      rintro e w10 ⟨rfl, hb⟩
      have HB10 := Lib.hid (bnext HB9.out hb)
      clear hb
      go_wp2_with fail
      refine (PA _).out.mono ?_
      rintro e w11 ⟨rfl, hb⟩
      have HB11 := Lib.hid (bnext HB10.out hb)
      clear hb
      go_wp2_with fail
      refine (C9 _).out.mono ?_
      rintro e w12 ⟨rfl, hb⟩
      have HB12 := Lib.hid (bnext HB11.out hb)
      clear hb
      go_wp2_with fail
      go_ret
      exact ⟨rfl, HB12.out⟩
    · have C1 := fun w => Lib.hid (implTotal_no t q hv w)
      have C2 := fun w => Lib.hid (specTotal_no t q (Nat.le_trans q1 (by decide)) hv w)
      unfold NoPost at C1 C2
      clear hv t1 q1
      go_wp2_with fail
      refine (C1 _).out.mono ?_
      rintro e w2 ⟨rfl, hb⟩
      have HB2 := Lib.hid (bnext HB1.out hb)
      clear hb
      go_wp2_with fail
      refine (C2 _).out.mono ?_
      rintro e w3 ⟨rfl, hb⟩
      have HB3 := Lib.hid (bnext HB2.out hb)
      clear hb
      go_wp2_with fail
      go_ret
      exact ⟨rfl, HB3.out⟩

set_option linter.unusedVariables false in
set_option maxRecDepth 100000 in
theorem liftedWeakestTotal (os : Os) (started : os.Started) (H : Type) (enc : TypeId × Value → H) :
    ReturnsInHanded {} Tryz.checked os 3 .any (Rows.fnWeakestTotalSpec.pre6 enc Tryz.prog Tryz.f3 Rows.fnWeakestTotalRow.domain false) (Rows.fnWeakestTotalSpec.post enc Tryz.prog Tryz.f3 false true false false) := by
  refine returnsInHanded_of_change (C := Tryz.checked) Tryz.own started (by kernel_rfl) Tryz.func3
    (ChangeSpec.witness6 (enc := enc) (C := Tryz.checked) false ⟨#[], #[.slice none 0 0], []⟩ 8 (by kernel_rfl) (by kernel_rfl) (by kernel_rfl) (by kernel_rfl)) ?_
  intro W base args ds gs before hval0 hW hcnd _
  have hval : ∀ (j : Nat) t v, Tryz.f3.params[j]? = some t → args[j]? = some v → Value.okWide Tryz.prog W .any base t v := hval0
  have hW' := hW
  obtain ⟨p, q, hA0, hV, rfl, hfz, hnd⟩ := hW
  have hA : DataW.TrodAll enc Tryz.prog W 0 (fun _ => true) true Tryz.f3.params.toList args.toList ds p := hA0
  rw [Tryz.params3] at hA hval
  obtain ⟨v0, vs0, d0, ds0, p0, q0, hargs, rfl, rfl, h0, r0⟩ := trodAll_cons hA
  obtain ⟨rfl, rfl, rfl⟩ := trodAll_nil r0
  obtain rfl : args = #[v0] := by cases args; simp_all
  obtain ⟨rfl, rfl⟩ := trodVars_none hV
  obtain ⟨a0, len0, cap0, rfl⟩ := okWide_slice Tryz.underlying22 (hval 0 22 v0 rfl rfl)
  have k0 := h0
  have lt0 : ∀ x ∈ p0, x.block < W.heap.size := by obtain ⟨m, hm⟩ := k0; exact DataW.trod_lt m _ _ _ hm
  obtain ⟨z0, w0⟩ : ∃ zs, IsRow W a0 len0 cap0 zs := by
    obtain ⟨fuel, hf⟩ := h0
    rcases open_ints Tryz.underlying22 Tryz.underlying5 (by kernel_rfl) hf with ⟨hcs, _⟩ | ⟨x, l, c, zs, hcs, _, hl, hm, hz, _, hcell, hwz⟩
    · simp [Value.cells] at hcs
      obtain ⟨rfl, rfl, rfl⟩ := hcs
      exact ⟨[], .inl ⟨rfl, rfl, rfl, rfl⟩⟩
    · simp [Value.cells] at hcs
      obtain ⟨rfl, rfl, rfl⟩ := hcs
      exact ⟨zs, .inr ⟨_, rfl, hl, hm, by simpa using hz, hcell, hwz⟩⟩
  clear hA0 hval0
  refine (walkWeakestTotal W w0).mono fun e W' ⟨he, bel⟩ => ?_
  subst he
  exact ⟨_, rfl, _, _, _, [], _, [], hW', trodAll_mk1 (shut_bool Tryz.underlying4 _), (trodAll_cons_mk (Below.trod laidOut (by kernel_rfl) (of_decide_eq_true (by kernel_rfl)) k0 bel lt0) trodAll_mk0), rfl, bel.frame _, fun h => by cases h⟩

theorem weakestTotal_holds : Rows.FnWeakestTotalSaid :=
  OpenClaim.holds_of_wide 3 Tryz.f3 rfl rfl rfl rfl rfl rfl rfl ⟨rfl, rfl, rfl, rfl, rfl⟩ rfl rfl rfl rfl rfl (by kernel_rfl) Tryz.func3 (by kernel_rfl)
    (of_decide_eq_true (by kernel_rfl)) (by unfold Func.isWrapper; first | (rw [if_pos (by decide +kernel)]; kernel_rfl) | (rw [if_neg (by decide +kernel)]; exact ⟨rfl, rfl⟩))
    (fun os started H enc _ => liftedWeakestTotal os started H enc)

#print axioms weakestTotal_holds
end Go.Proofs.YthmghadepimcnaaGreat
