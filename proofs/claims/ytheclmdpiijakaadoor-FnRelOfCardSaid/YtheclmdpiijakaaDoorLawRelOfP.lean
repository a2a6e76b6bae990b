/-
  The law of relations of tests is true at all bytes: no condition. The card.
-/
import Derived.Test.YtheclmdpiijakaaDoorCards
import Derived.Test.YtheclmdpiijakaaDoorTie
import Derived.Test.YtheclmdpiijakaaDoorTopX
import Derived.Test.YtheclmdpiijakaaDoorTopQ8
import Derived.Test.YtheclmdpiijakaaDoorPpS
import Derived.Deep.RegionHeld3
import Derived.ProofKit
import Derived.ChangeOld
import Derived.Deep.DeepHandedRow
import Derived.Lib.SmallJoins
import Derived.ChangeSame
import Derived.JoinedOf
import Derived.JoinedAt
import Derived.RowKit3
import Derived.ShutString
import Derived.OpenShut
import Derived.LaidMore
import Derived.Lay
import Derived.SevenTiedAt
import Derived.Stop.Joined
namespace Go.Proofs.YtheclmdpiijakaaDoor
open Go.ChangeShapes Go.WideShapes Go.ChangeAt Go.RowKit Go.Joins
open Go.WideMaps Go.WideElems Tm
open Go.ChangeMaps (open_string shut_string)

set_option maxRecDepth 100000 in
set_option maxHeartbeats 16000000 in
theorem walkRelOf {a0 : Option Addr} {len0 cap0 : Nat} {z0 : List Int} (w : World) (h0 : IsRow w a0 len0 cap0 z0) :
    Calls Tryd.prog 3 #[.slice a0 len0 cap0] w fun e w' => e = .returned (.bool true) ∧ Below w.heap.size w w' := by
  have D := Lib.hid (dRelOf h0)
  clear h0
  by_cases hl : (1048576 : Int) < len0
  · go_enter Tryd.func3, Tryd.ntmps3
    go_wp2_with fail
    go_ret
    exact ⟨rfl, Below.refl _ _⟩
  · go_enter Tryd.func3, Tryd.ntmps3
    go_wp2_with fail
    refine D.out.mono ?_
    rintro e w1 ⟨t, ht, rfl, hb⟩
    have HB1 := Lib.hid hb
    clear hb D
    by_cases hv : Valid true true t.data.toList
    · have hv' := hv
      obtain ⟨tt, hok, he⟩ := hv
      have hl2 : t.size ≤ 200 := by omega
      have C1 := fun w => Lib.hid (implRelOf_yes t w hok he hl2)
      have C2 := fun w => Lib.hid (specRelOf_yes t w hok he hl2)
      have V1 := fun w => Lib.hid (implWide_yes t w hv' hl2)
      have HE := fun i j hi hj w => Lib.hid (wide_at t w hok he hl2 i j hi hj)
      have HP := fun i j hi hj w => Lib.hid (hasp_at (wdR tt) i j hi hj w)
      have hz : (⟨#[33]⟩ ++ t : ByteArray).size = 1 + t.size := by rw [ByteArray.size_append]; rfl
      have N1 := fun w => Lib.hid (implRelOf_yes (⟨#[33]⟩ ++ t) w (t := .un 33 tt) ⟨true, rfl, hok⟩ (by simp [ByteArray.data_append, he, ser]) (by omega))
      rw [wd_not] at N1
      have hcat : ¬ 9223372036854775807 < 1 + t.size := by omega
      have RV := iValid (wdR tt)
      have P1 := ppNotRel_of (iNot (wdR tt))
      unfold Gives at RV P1
      generalize wdR tt = T at *
      generalize bs (relT T) = r at *
      generalize bs (relT fun i j => !T i j) = nr at *
      clear hv' he hok hl2 hz ht
      go_wp2_with fail
      refine (C1 _).out.mono ?_
      rintro e w2 ⟨rfl, hb⟩
      have HB2 := Lib.hid (bnext HB1.out hb)
      clear hb
      go_wp2_with fail
      refine (C2 _).out.mono ?_
      rintro e w3 ⟨rfl, hb⟩
      have HB3 := Lib.hid (bnext HB2.out hb)
      clear hb
      go_wp2_with fail
      refine (V1 _).out.mono ?_
      rintro e w4 ⟨rfl, hb⟩
      have HB4 := Lib.hid (bnext HB3.out hb)
      clear hb
      go_wp2_with fail
      refine (states_any _).mono ?_
      rintro e w5 ⟨g, cap, hcap, hg, rfl, hs, hb⟩
      have HB5 := Lib.hid (bnext HB4.out hb)
      have HS5 := Lib.hid hs
      clear hb hs
      go_wp2_with fail
      go_loopw [9, 10, 11, 12] (fun iv _ _ _ wr => ∃ i : Nat, i ≤ 27 ∧ iv = .int .i64 i ∧ Hid (Below w.heap.size w wr) ∧ Hid (Sts wr g)) (fun iv _ _ _ _ => 27 - (intOf iv).toNat)
      case atStart => exact ⟨0, by omega, rfl, HB5, HS5⟩
      case round =>
        obtain ⟨i, hi, rfl, HBi, HSi⟩ := hrel
        by_cases hlt : i < 27
        · have hi0 : (0 : Int) ≤ (i : Int) := by omega
          have hi1 : (i : Int) < 27 := by omega
          go_wp2_with fail
          obtain ⟨wo, rfl⟩ : ∃ wo : World, wo = wr := ⟨_, rfl⟩
          go_loopw [10, 11, 12] (fun kv _ _ wr => ∃ k : Nat, k ≤ 27 ∧ kv = .int .i64 k ∧ Hid (Below w.heap.size w wr) ∧ Hid (Sts wr g)) (fun kv _ _ _ => 27 - (intOf kv).toNat)
          case atStart => exact ⟨0, by omega, rfl, HBi, HSi⟩
          case round =>
            clear HBi HSi
            obtain ⟨k, hk, rfl, HBk, HSk⟩ := hrel
            by_cases hlt2 : k < 27
            · have H1 := HE i k hlt hlt2
              have H2 := HP i k hlt hlt2
              have hk0 : (0 : Int) ≤ (k : Int) := by omega
              have hk1 : (k : Int) < 27 := by omega
              clear HE HP C1 C2 V1 N1 RV P1
              generalize T i k = b at *
              cases b
              all_goals
                obtain ⟨c0, c1, c2⟩ := HSk.out k hlt2
                obtain ⟨d0, d1, d2⟩ := HSk.out i hlt
                go_wp2_with fail
                have RG : ∀ w', Below wr.heap.size wr w' → Below wr.heap.size wr w' ∧ w'.cell? ⟨g, k * 3, none⟩ = some (.int .i64 (ax k)) ∧ w'.cell? ⟨g, k * 3 + 1, none⟩ = some (.int .i64 (ay k)) ∧ w'.cell? ⟨g, k * 3 + 2, none⟩ = some (.int .i64 (az k)) ∧ w'.cell? ⟨g, i * 3, none⟩ = some (.int .i64 (ax i)) ∧ w'.cell? ⟨g, i * 3 + 1, none⟩ = some (.int .i64 (ay i)) ∧ w'.cell? ⟨g, i * 3 + 2, none⟩ = some (.int .i64 (az i)) := fun w' h => ⟨h, ckeep h c0, ckeep h c1, ckeep h c2, ckeep h d0, ckeep h d1, ckeep h d2⟩
                have RG' := Lib.hid RG
                have hbb := (Below.refl wr.heap.size wr).drew
                clear RG c0 c1 c2 d0 d1 d2
                go_region_held3 (fun w' => Below wr.heap.size wr w' ∧ w'.cell? ⟨g, k * 3, none⟩ = some (.int .i64 (ax k)) ∧ w'.cell? ⟨g, k * 3 + 1, none⟩ = some (.int .i64 (ay k)) ∧ w'.cell? ⟨g, k * 3 + 2, none⟩ = some (.int .i64 (az k)) ∧ w'.cell? ⟨g, i * 3, none⟩ = some (.int .i64 (ax i)) ∧ w'.cell? ⟨g, i * 3 + 1, none⟩ = some (.int .i64 (ay i)) ∧ w'.cell? ⟨g, i * 3 + 2, none⟩ = some (.int .i64 (az i))) ((first | assumption | exact RG'.out _ (by assumption) | (go_split_ands; exact RG'.out _ (by assumption)) | (go_split_ands; exact RG'.out _ (bnext (by assumption) hq)))) (first | ((with_reducible refine (H1 _).out.mono ?_); rintro e w5 ⟨rfl, hq⟩))
                all_goals
                  go_split_ands
                  rename_i hbw _ _ _ _ _ _
                  replace HSk := Lib.hid (HSk.out.kept hbw)
                  replace HBk := Lib.hid (bnext HBk.out hbw)
                  clear hbb hbw RG'
                  obtain ⟨c0, c1, c2⟩ := HSk.out k hlt2
                  obtain ⟨d0, d1, d2⟩ := HSk.out i hlt
                  go_wp2_with fail
                  have RG : ∀ w', Below w5.heap.size w5 w' → Below w5.heap.size w5 w' ∧ w'.cell? ⟨g, k * 3, none⟩ = some (.int .i64 (ax k)) ∧ w'.cell? ⟨g, k * 3 + 1, none⟩ = some (.int .i64 (ay k)) ∧ w'.cell? ⟨g, k * 3 + 2, none⟩ = some (.int .i64 (az k)) ∧ w'.cell? ⟨g, i * 3, none⟩ = some (.int .i64 (ax i)) ∧ w'.cell? ⟨g, i * 3 + 1, none⟩ = some (.int .i64 (ay i)) ∧ w'.cell? ⟨g, i * 3 + 2, none⟩ = some (.int .i64 (az i)) := fun w' h => ⟨h, ckeep h c0, ckeep h c1, ckeep h c2, ckeep h d0, ckeep h d1, ckeep h d2⟩
                  have RG' := Lib.hid RG
                  have hbb := (Below.refl w5.heap.size w5).drew
                  clear RG c0 c1 c2 d0 d1 d2
                  go_region_held3 (fun w' => Below w5.heap.size w5 w' ∧ w'.cell? ⟨g, k * 3, none⟩ = some (.int .i64 (ax k)) ∧ w'.cell? ⟨g, k * 3 + 1, none⟩ = some (.int .i64 (ay k)) ∧ w'.cell? ⟨g, k * 3 + 2, none⟩ = some (.int .i64 (az k)) ∧ w'.cell? ⟨g, i * 3, none⟩ = some (.int .i64 (ax i)) ∧ w'.cell? ⟨g, i * 3 + 1, none⟩ = some (.int .i64 (ay i)) ∧ w'.cell? ⟨g, i * 3 + 2, none⟩ = some (.int .i64 (az i))) ((first | assumption | exact RG'.out _ (by assumption) | (go_split_ands; exact RG'.out _ (by assumption)) | (go_split_ands; exact RG'.out _ (bnext (by assumption) hq)))) (first | ((with_reducible refine (H2 _).out.mono ?_); rintro e w6 ⟨rfl, hq⟩))
                  all_goals
                    go_split_ands
                    rename_i hbw _ _ _ _ _ _
                    replace HSk := Lib.hid (HSk.out.kept hbw)
                    replace HBk := Lib.hid (bnext HBk.out hbw)
                    clear hbb hbw RG'
                    go_wp2_with fail
                    exact ⟨⟨k + 1, by omega, by go_num, HBk, HSk⟩, by simp [intOf]; omega⟩
            · have hk2 : k = 27 := by omega
              subst hk2
              go_wp2_with fail
              exact ⟨⟨i + 1, by omega, by go_num, HBk, HSk⟩, by simp [intOf]; omega⟩
        · have hi2 : i = 27 := by omega
          subst hi2
          clear HSi
          have HB0 := HBi
          clear HE HP
          go_wp2_with fail
          refine (N1 _).out.mono ?_
          rintro e w1 ⟨rfl, hb⟩
          have HB1 := Lib.hid (bnext HB0.out hb)
          clear hb
          go_wp2_with fail
          refine (RV _).out.mono ?_
          rintro e w2 ⟨rfl, hb⟩
          have HB2 := Lib.hid (bnext HB1.out hb)
          clear hb
          go_wp2_with fail
          refine (P1 _).out.mono ?_
          rintro e w3 ⟨rfl, hb⟩
          have HB3 := Lib.hid (bnext HB2.out hb)
          clear hb
          go_wp2_with fail
          go_ret
          exact ⟨rfl, HB3.out⟩
    · have hn : ¬ (Valid true true t.data.toList ∧ t.size ≤ 200) := fun h => hv h.1
      have C1 := fun w => Lib.hid (implRelOf_no t w hn)
      have C2 := fun w => Lib.hid (specRelOf_no t w hn)
      have V1 := fun w => Lib.hid (implWide_no t w hn)
      clear hv hn ht
      go_wp2_with fail
      refine (C1 _).out.mono ?_
      rintro e w2 ⟨rfl, hb⟩
      have HB2 := Lib.hid (bnext HB1.out hb)
      clear hb
      go_wp2_with fail
      refine (C2 _).out.mono ?_
      rintro e w3 ⟨rfl, hb⟩
      have HB3 := Lib.hid (bnext HB2.out hb)
      clear hb
      go_wp2_with fail
      refine (V1 _).out.mono ?_
      rintro e w4 ⟨rfl, hb⟩
      have HB4 := Lib.hid (bnext HB3.out hb)
      clear hb
      go_wp2_with fail
      refine (V1 _).out.mono ?_
      rintro e w5 ⟨rfl, hb⟩
      have HB5 := Lib.hid (bnext HB4.out hb)
      clear hb
      go_wp2_with fail
      go_ret
      exact ⟨rfl, HB5.out⟩

theorem Tryd.own : ownKnob Tryd.prog.godebug = none := by kernel_rfl
theorem laidOut : laidOutB Tryd.prog = true := by kernel_rfl

set_option linter.unusedVariables false in
set_option maxRecDepth 100000 in
set_option maxHeartbeats 2000000 in
theorem lifted (os : Os) (started : os.Started) (H : Type) (enc : TypeId × Value → H) :
    ReturnsInHanded {} Tryd.checked os 3 .any (fun w args => (Rows.fnRelOfSpec.pre enc Tryd.prog Tryd.f3 Rows.fnRelOfRow.domain false w args ∧ laidMetH Tryd.prog Rows.fnRelOfRow.laid w) ∧ sizedMet enc Tryd.prog Tryd.f3 (OpenSpec.ofChange Rows.fnRelOfSpec) false w args)
      (Rows.fnRelOfSpec.post enc Tryd.prog Tryd.f3 false true false false) := by
  refine returnsInHanded_of_change_and (C := Tryd.checked) (X := fun w _ => laidMetH Tryd.prog Rows.fnRelOfRow.laid w) (fun _ _ _ hh h => h.of_heap hh) Tryd.own started (by kernel_rfl) Tryd.func3
    (ChangeSpec.witness_shaped (enc := enc) (C := Tryd.checked) (os := os) (X := fun w _ => laidMetH Tryd.prog Rows.fnRelOfRow.laid w) false (World.laidAll Tryd.prog os Rows.fnRelOfRow.laid) #[.slice none 0 0] 8 (World.laidAll_os _ _ _)
      (World.shaped_of_ZipB (by kernel_rfl) (by kernel_rfl)) (by kernel_rfl) (by kernel_rfl) (by kernel_rfl)
      (by rw [MakeChecks.laidMetH_plain _ _ _ (by kernel_rfl)]; exact laidMet_laidAll _ (by kernel_rfl) (by kernel_rfl))) ?_
  intro W base args ds gs before hval0 hW _ _ hL _
  have hval : ∀ (j : Nat) t v, Tryd.f3.params[j]? = some t → args[j]? = some v → Value.okWide Tryd.prog W .any base t v := hval0
  have hW' := hW
  obtain ⟨p, q, hA0, hV, rfl, _, _⟩ := hW
  have hA : DataW.TrodAll enc Tryd.prog W 0 (fun _ => true) true Tryd.f3.params.toList args.toList ds p := hA0
  rw [Tryd.params3] at hA hval
  obtain ⟨v0, vs0, d0, ds0, p0, q0, hargs, rfl, rfl, h0, r0⟩ := trodAll_cons hA
  obtain ⟨rfl, rfl, rfl⟩ := trodAll_nil r0
  obtain rfl : args = #[v0] := by cases args; simp_all
  obtain ⟨rfl, rfl⟩ := trodVars_none hV
  obtain ⟨a0, len0, cap0, rfl⟩ := okWide_slice Tryd.underlying22 (hval 0 22 v0 rfl rfl)
  have k0 := h0
  have lt0 : ∀ x ∈ p0, x.block < W.heap.size := by obtain ⟨m, hm⟩ := k0; exact DataW.trod_lt m _ _ _ hm
  obtain ⟨z0, w0⟩ : ∃ zs, IsRow W a0 len0 cap0 zs := by
    obtain ⟨fuel, hf⟩ := h0
    rcases open_ints Tryd.underlying22 Tryd.underlying5 (by kernel_rfl) hf with ⟨hcs, _⟩ | ⟨x, l, c, zs, hcs, _, hl, hm, hz, _, hcell, hwz⟩
    · simp [Value.cells] at hcs
      obtain ⟨rfl, rfl, rfl⟩ := hcs
      exact ⟨[], .inl ⟨rfl, rfl, rfl, rfl⟩⟩
    · simp [Value.cells] at hcs
      obtain ⟨rfl, rfl, rfl⟩ := hcs
      exact ⟨zs, .inr ⟨_, rfl, hl, hm, by simpa using hz, hcell, hwz⟩⟩
  clear hA0 hval0
  refine (walkRelOf W w0).mono fun e W' ⟨he, bel⟩ => ?_
  subst he
  exact ⟨_, rfl, _, _, _, [], _, [], hW', trodAll_mk1 (shut_bool Tryd.underlying4 _), (trodAll_cons_mk (Below.trod laidOut (by kernel_rfl) (of_decide_eq_true (by kernel_rfl)) k0 bel lt0) trodAll_mk0), rfl, bel.frame _, fun h => by cases h⟩

-- each of the three walks over the program by itself: together they are too much for the kernel's memory
theorem jf1 : (Rows.fnRelOfRow.inPlace == Tryd.prog.inPlace 3) = true := by kernel_rfl
theorem jf2 : (Rows.fnRelOfRow.unfollowed == Tryd.prog.unfollowed 3) = true := by kernel_rfl
theorem jf3 : (Rows.fnRelOfRow.recurses == Tryd.prog.recurses 3) = true := by kernel_rfl
theorem closed : joinedFacts Tryd.prog 3 Tryd.f3 Rows.fnRelOfSpec Rows.fnRelOfRow = true := by
  unfold joinedFacts
  rw [jf1, jf2, jf3]
  kernel_rfl

theorem said : Rows.FnRelOfSaid :=
  OpenClaim.holds_of_wide 3 Tryd.f3 rfl rfl rfl rfl rfl rfl rfl ⟨rfl, rfl, rfl, rfl, rfl⟩ rfl rfl rfl rfl rfl (by kernel_rfl) Tryd.func3 closed
    (of_decide_eq_true (by kernel_rfl)) (by unfold Func.isWrapper; first | (rw [if_pos (by decide +kernel)]; kernel_rfl) | (rw [if_neg (by decide +kernel)]; exact ⟨rfl, rfl⟩))
    (fun os started H enc _ => by rw [OpenClaim.pre_eq_preRow]; exact lifted os started H enc)

theorem plain (f : FuncId) (fn : Func) (hf : Tryd.pinned.checked.prog.funcNamed Rows.fnRelOfRow.func = some f) (hfn : Tryd.pinned.checked.prog.funcs[f]? = some fn) :
    true = Tryd.pinned.checked.prog.looks [] ∧ ∀ (j : Nat) t, fn.params[j]? = some t → Tryd.pinned.checked.prog.wantsStandIn t = false := by
  obtain rfl : f = 3 := Option.some.inj ((show Tryd.prog.funcNamed Rows.fnRelOfRow.func = some 3 by kernel_rfl).symm.trans hf) |>.symm
  obtain rfl : fn = Tryd.f3 := (Option.some.inj (Tryd.func3.symm.trans hfn)).symm
  refine ⟨by kernel_rfl, fun j t ht => ?_⟩
  rw [Tryd.params3] at ht
  obtain rfl : t = 22 := by
    have := Array.mem_of_getElem? ht
    simpa using this
  exact (show Tryd.prog.wantsStandIn 22 = false by kernel_rfl)

theorem relOf_card : Rows.FnRelOfCardSaid :=
  Claim7.holds_tied_plain_at .later [] _ _ _ _ said (fun _ h => by cases h) (by kernel_rfl) (fun _ h => by cases h) fnRelOf_row_tie rfl ⟨rfl, rfl⟩ (by kernel_rfl) rfl plain (by kernel_rfl)

#print axioms relOf_card
end Go.Proofs.YtheclmdpiijakaaDoor
