/-
  The law of images and shadows is true at all bytes: no condition.
-/
import Derived.Test.YtjhdimkplkfilaaRows
import Derived.Test.YtjhdimkplkfilaaR9
import Derived.Deep.RegionHeld3
import Derived.Test.YtjhdimkplkfilaaR8
import Derived.Test.YtjhdimkplkfilaaPpF
import Derived.ProofKit
import Derived.OpenShut
import Derived.ShutString
import Derived.ChangeOld
namespace Go.Proofs.Ytjhdimkplkfilaa
open Go.ChangeShapes Go.WideShapes Go.ChangeAt Go.RowKit
open Go.ChangeMaps (open_string shut_string)

theorem Try.own : ownKnob Try.prog.godebug = none := by kernel_rfl
theorem laidOut : laidOutB Try.prog = true := by kernel_rfl

set_option maxRecDepth 100000 in
set_option maxHeartbeats 16000000 in
theorem walkImages {a0 : Option Addr} {len0 cap0 : Nat} {z0 : List Int} {a1 : Option Addr} {len1 cap1 : Nat} {z1 : List Int} (w : World) (h0 : IsRow w a0 len0 cap0 z0) (h1 : IsRow w a1 len1 cap1 z1) :
    Calls Try.prog 6 #[.slice a0 len0 cap0, .slice a1 len1 cap1] w fun e w' => e = .returned (.bool true) ∧ Below w.heap.size w w' := by
  have D := Lib.hid (dImageOf h0)
  have HR1 := Lib.hid h1
  clear h0 h1
  by_cases hl : (1048576 : Int) < len0
  · go_enter Try.func6, Try.ntmps6
    go_wp2_with fail
    go_ret
    exact ⟨rfl, Below.refl _ _⟩
  · by_cases hl1 : (1048576 : Int) < len1
    · go_enter Try.func6, Try.ntmps6
      go_wp2_with fail
      go_ret
      exact ⟨rfl, Below.refl _ _⟩
    · go_enter Try.func6, Try.ntmps6
      go_wp2_with fail
      refine D.out.mono ?_
      rintro e w1 ⟨s, t, s1, t1, rfl, hb⟩
      have HB1 := Lib.hid hb
      clear hb D
      by_cases hv : Rel729 s ∧ Set27 t
      · obtain ⟨R, rfl⟩ : ∃ R, s = bs (relT R) := ⟨_, rel_bs hv.1⟩
        obtain ⟨F, rfl⟩ : ∃ F, t = bs (tb F) := ⟨_, (bs_hs hv.2).symm⟩
        have hE : ((bs (tb (shaR R F))).toList == (bs (tb (fun i => !postS (fun i => !F i) (turnR R) 27 i))).toList) = true := tb_eq _ _ (sha_img R F)
        have N2 := img_not F
        have N3 := img_not (postS (fun i => !F i) (turnR R) 27)
        have KG := img_good R F
        have KN := img_bad R
        have C1 := iImage R F
        unfold Gives at C1
        have C2 := sImage R F
        unfold Gives at C2
        have C3 := iShadow R F
        unfold Gives at C3
        have C4 := sShadow R F
        unfold Gives at C4
        have P1 := ppTurn_of (iTurn R)
        unfold Gives at P1
        have C6 := iImage (turnR R) (fun i => !F i)
        unfold Gives at C6
        replace KG := Lib.hid KG
        replace KN := Lib.hid KN
        clear hv s1 t1
        generalize bs (tb (fun i => !postS (fun i => !F i) (turnR R) 27 i)) = Y5 at *
        generalize bs (tb (postS (fun i => !F i) (turnR R) 27)) = Y4 at *
        generalize bs (tb (fun i => !F i)) = Y3 at *
        generalize bs (tb (shaR R F)) = Y2 at *
        generalize bs (tb (postS F R 27)) = Y1 at *
        generalize bs (tb F) = Y0 at *
        generalize bs (relT (turnR R)) = X2 at *
        generalize bs (relT R) = X1 at *
        go_wp2_with fail
        refine (C1 _).out.mono ?_
        rintro e w2 ⟨rfl, hb⟩
        have HB2 := Lib.hid (bnext HB1.out hb)
        clear hb
        go_wp2_with fail
        refine (C2 _).out.mono ?_
        rintro e w3 ⟨rfl, hb⟩
        have HB3 := Lib.hid (bnext HB2.out hb)
        clear hb
        go_wp2_with fail
        refine (C3 _).out.mono ?_
        rintro e w4 ⟨rfl, hb⟩
        have HB4 := Lib.hid (bnext HB3.out hb)
        clear hb
        go_wp2_with fail
        refine (C4 _).out.mono ?_
        rintro e w5 ⟨rfl, hb⟩
        have HB5 := Lib.hid (bnext HB4.out hb)
        clear hb
        have DM := Lib.hid (dImageOf (HR1.out.kept6 HB5.out))
        go_wp2_with fail
        refine DM.out.mono ?_
        rintro e w6 ⟨s', q, s1', q1, rfl, hb⟩
        have HB6 := Lib.hid (bnext HB5.out hb)
        clear hb DM
        by_cases hg : Set27 q
        · obtain ⟨y, b, C5, K1, K2⟩ := KG.out q hg
          clear KG KN hg q1 s1'
          cases b
          · go_wp2_with fail
            refine (C5 _).out.mono ?_
            rintro e w7 ⟨rfl, hb⟩
            have HB7 := Lib.hid (bnext HB6.out hb)
            clear hb
            go_wp2_with fail
            refine (K1 _).out.mono ?_
            rintro e w' ⟨rfl, rfl⟩
            go_wp2_with fail
            refine (K2 _).out.mono ?_
            rintro e w' ⟨rfl, rfl⟩
            go_wp2_with fail
            refine (P1 _).out.mono ?_
            rintro e w8 ⟨rfl, hb⟩
            have HB8 := Lib.hid (bnext HB7.out hb)
            clear hb
            go_wp2_with fail
            refine (N2 _).out.mono ?_
            rintro e w9 ⟨rfl, hb⟩
            have HB9 := Lib.hid (bnext HB8.out hb)
            clear hb
            go_wp2_with fail
            refine (C6 _).out.mono ?_
            rintro e w10 ⟨rfl, hb⟩
            have HB10 := Lib.hid (bnext HB9.out hb)
            clear hb
            go_wp2_with fail
            refine (N3 _).out.mono ?_
            rintro e w11 ⟨rfl, hb⟩
            have HB11 := Lib.hid (bnext HB10.out hb)
            clear hb
            go_wp2_with fail
            go_ret
            exact ⟨rfl, HB11.out⟩
          · go_wp2_with fail
            refine (C5 _).out.mono ?_
            rintro e w7 ⟨rfl, hb⟩
            have HB7 := Lib.hid (bnext HB6.out hb)
            clear hb
            go_wp2_with fail
            refine (K1 _).out.mono ?_
            rintro e w' ⟨rfl, rfl⟩
            go_wp2_with fail
            refine (K2 _).out.mono ?_
            rintro e w' ⟨rfl, rfl⟩
            go_wp2_with fail
            refine (P1 _).out.mono ?_
            rintro e w8 ⟨rfl, hb⟩
            have HB8 := Lib.hid (bnext HB7.out hb)
            clear hb
            go_wp2_with fail
            refine (N2 _).out.mono ?_
            rintro e w9 ⟨rfl, hb⟩
            have HB9 := Lib.hid (bnext HB8.out hb)
            clear hb
            go_wp2_with fail
            refine (C6 _).out.mono ?_
            rintro e w10 ⟨rfl, hb⟩
            have HB10 := Lib.hid (bnext HB9.out hb)
            clear hb
            go_wp2_with fail
            refine (N3 _).out.mono ?_
            rintro e w11 ⟨rfl, hb⟩
            have HB11 := Lib.hid (bnext HB10.out hb)
            clear hb
            go_wp2_with fail
            go_ret
            exact ⟨rfl, HB11.out⟩
        · have C5 := KN.out q hg
          clear KG KN hg q1 s1'
          go_wp2_with fail
          refine (C5 _).out.mono ?_
          rintro e w7 ⟨rfl, hb⟩
          have HB7 := Lib.hid (bnext HB6.out hb)
          clear hb
          go_wp2_with fail
          refine (P1 _).out.mono ?_
          rintro e w8 ⟨rfl, hb⟩
          have HB8 := Lib.hid (bnext HB7.out hb)
          clear hb
          go_wp2_with fail
          refine (N2 _).out.mono ?_
          rintro e w9 ⟨rfl, hb⟩
          have HB9 := Lib.hid (bnext HB8.out hb)
          clear hb
          go_wp2_with fail
          refine (C6 _).out.mono ?_
          rintro e w10 ⟨rfl, hb⟩
          have HB10 := Lib.hid (bnext HB9.out hb)
          clear hb
          go_wp2_with fail
          refine (N3 _).out.mono ?_
          rintro e w11 ⟨rfl, hb⟩
          have HB11 := Lib.hid (bnext HB10.out hb)
          clear hb
          go_wp2_with fail
          go_ret
          exact ⟨rfl, HB11.out⟩
      · have C1 := fun w => Lib.hid (implImageOf_no s t hv w)
        have C2 := fun w => Lib.hid (specImageOf_no s t hv (Nat.le_trans s1 (by decide)) (Nat.le_trans t1 (by decide)) w)
        have C3 := fun w => Lib.hid (implShadowOf_no s t hv w)
        have C4 := fun w => Lib.hid (specShadowOf_no s t hv (Nat.le_trans s1 (by decide)) (Nat.le_trans t1 (by decide)) w)
        unfold TextOk at C1 C2 C3 C4
        clear hv s1 t1
        go_wp2_with fail
        refine (C1 _).out.mono ?_
        rintro e w2 ⟨rfl, hb⟩
        have HB2 := Lib.hid (bnext HB1.out hb)
        clear hb
        go_wp2_with fail
        refine (C2 _).out.mono ?_
        rintro e w3 ⟨rfl, hb⟩
        have HB3 := Lib.hid (bnext HB2.out hb)
        clear hb
        go_wp2_with fail
        refine (C3 _).out.mono ?_
        rintro e w4 ⟨rfl, hb⟩
        have HB4 := Lib.hid (bnext HB3.out hb)
        clear hb
        go_wp2_with fail
        refine (C4 _).out.mono ?_
        rintro e w5 ⟨rfl, hb⟩
        have HB5 := Lib.hid (bnext HB4.out hb)
        clear hb
        go_wp2_with fail
        go_ret
        exact ⟨rfl, HB5.out⟩

set_option linter.unusedVariables false in
set_option maxRecDepth 100000 in
theorem liftedImages (os : Os) (started : os.Started) (H : Type) (enc : TypeId × Value → H) :
    ReturnsInHanded {} Try.checked os 6 .any (Rows.fnImagesSpec.pre6 enc Try.prog Try.f6 Rows.fnImagesRow.domain false) (Rows.fnImagesSpec.post enc Try.prog Try.f6 false true false false) := by
  refine returnsInHanded_of_change (C := Try.checked) Try.own started (by kernel_rfl) Try.func6
    (ChangeSpec.witness6 (enc := enc) (C := Try.checked) false ⟨#[], #[.slice none 0 0, .slice none 0 0], []⟩ 8 (by kernel_rfl) (by kernel_rfl) (by kernel_rfl) (by kernel_rfl)) ?_
  intro W base args ds gs before hval0 hW hcnd _
  have hval : ∀ (j : Nat) t v, Try.f6.params[j]? = some t → args[j]? = some v → Value.okWide Try.prog W .any base t v := hval0
  have hW' := hW
  obtain ⟨p, q, hA0, hV, rfl, hfz, hnd⟩ := hW
  have hA : DataW.TrodAll enc Try.prog W 0 (fun _ => true) true Try.f6.params.toList args.toList ds p := hA0
  rw [Try.params6] at hA hval
  obtain ⟨v0, vs0, d0, ds0, p0, q0, hargs, rfl, rfl, h0, r0⟩ := trodAll_cons hA
  obtain ⟨v1, vs1, d1, ds1, p1, q1, rfl, rfl, rfl, h1, r1⟩ := trodAll_cons r0
  obtain ⟨rfl, rfl, rfl⟩ := trodAll_nil r1
  obtain rfl : args = #[v0, v1] := by cases args; simp_all
  obtain ⟨rfl, rfl⟩ := trodVars_none hV
  obtain ⟨a0, len0, cap0, rfl⟩ := okWide_slice Try.underlying22 (hval 0 22 v0 rfl rfl)
  have k0 := h0
  have lt0 : ∀ x ∈ p0, x.block < W.heap.size := by obtain ⟨m, hm⟩ := k0; exact DataW.trod_lt m _ _ _ hm
  obtain ⟨z0, w0⟩ : ∃ zs, IsRow W a0 len0 cap0 zs := by
    obtain ⟨fuel, hf⟩ := h0
    rcases open_ints Try.underlying22 Try.underlying5 (by kernel_rfl) hf with ⟨hcs, _⟩ | ⟨x, l, c, zs, hcs, _, hl, hm, hz, _, hcell, hwz⟩
    · simp [Value.cells] at hcs
      obtain ⟨rfl, rfl, rfl⟩ := hcs
      exact ⟨[], .inl ⟨rfl, rfl, rfl, rfl⟩⟩
    · simp [Value.cells] at hcs
      obtain ⟨rfl, rfl, rfl⟩ := hcs
      exact ⟨zs, .inr ⟨_, rfl, hl, hm, by simpa using hz, hcell, hwz⟩⟩
  obtain ⟨a1, len1, cap1, rfl⟩ := okWide_slice Try.underlying22 (hval 1 22 v1 rfl rfl)
  have k1 := h1
  have lt1 : ∀ x ∈ p1, x.block < W.heap.size := by obtain ⟨m, hm⟩ := k1; exact DataW.trod_lt m _ _ _ hm
  obtain ⟨z1, w1⟩ : ∃ zs, IsRow W a1 len1 cap1 zs := by
    obtain ⟨fuel, hf⟩ := h1
    rcases open_ints Try.underlying22 Try.underlying5 (by kernel_rfl) hf with ⟨hcs, _⟩ | ⟨x, l, c, zs, hcs, _, hl, hm, hz, _, hcell, hwz⟩
    · simp [Value.cells] at hcs
      obtain ⟨rfl, rfl, rfl⟩ := hcs
      exact ⟨[], .inl ⟨rfl, rfl, rfl, rfl⟩⟩
    · simp [Value.cells] at hcs
      obtain ⟨rfl, rfl, rfl⟩ := hcs
      exact ⟨zs, .inr ⟨_, rfl, hl, hm, by simpa using hz, hcell, hwz⟩⟩
  clear hA0 hval0
  refine (walkImages W w0 w1).mono fun e W' ⟨he, bel⟩ => ?_
  subst he
  exact ⟨_, rfl, _, _, _, [], _, [], hW', trodAll_mk1 (shut_bool Try.underlying4 _), (trodAll_cons_mk (Below.trod laidOut (by kernel_rfl) (of_decide_eq_true (by kernel_rfl)) k0 bel lt0) (trodAll_cons_mk (Below.trod laidOut (by kernel_rfl) (of_decide_eq_true (by kernel_rfl)) k1 bel lt1) trodAll_mk0)), rfl, bel.frame _, fun h => by cases h⟩

theorem images_holds : Rows.FnImagesSaid :=
  OpenClaim.holds_of_wide 6 Try.f6 rfl rfl rfl rfl rfl rfl rfl ⟨rfl, rfl, rfl, rfl, rfl⟩ rfl rfl rfl rfl rfl (by kernel_rfl) Try.func6 (by kernel_rfl)
    (of_decide_eq_true (by kernel_rfl)) (by unfold Func.isWrapper; first | (rw [if_pos (by decide +kernel)]; kernel_rfl) | (rw [if_neg (by decide +kernel)]; exact ⟨rfl, rfl⟩))
    (fun os started H enc _ => liftedImages os started H enc)

#print axioms images_holds
end Go.Proofs.Ytjhdimkplkfilaa
