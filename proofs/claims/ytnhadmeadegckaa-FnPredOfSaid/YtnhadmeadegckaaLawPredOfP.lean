/-
  The law of the set of a test is true at all bytes: no condition.
-/
import Derived.Test.YtnhadmeadegckaaRows
import Derived.Test.YtnhadmeadegckaaTopP
import Derived.Deep.RegionHeld3
import Derived.ProofKit
import Derived.OpenShut
import Derived.ShutString
import Derived.ChangeOld
namespace Go.Proofs.Ytnhadmeadegckaa
open Go.ChangeShapes Go.WideShapes Go.ChangeAt Go.RowKit
open Go.ChangeMaps (open_string shut_string)

theorem Try.own : ownKnob Try.prog.godebug = none := by kernel_rfl
theorem laidOut : laidOutB Try.prog = true := by kernel_rfl

set_option maxHeartbeats 4000000 in
theorem drawPO {a : Option Addr} {len cap : Nat} {zs : List Int} {w : World} (h : IsRow w a len cap zs) :
    Calls Try.prog 9 #[.slice a len cap] w fun e w' => ∃ t : ByteArray, t.size ≤ 40 ∧ e = .returned (.string t) ∧ Below w.heap.size w w' := by
  have HO := Lib.hid (drawTV h)
  clear h
  go_enter Try.func9, Try.ntmps9
  go_wp2_with fail
  refine HO.out.mono ?_
  rintro e w1 ⟨t, ht, rfl, hb⟩
  have HW1 := Lib.hid hb
  clear hb
  go_wp2_with fail
  go_ret
  exact ⟨t, ht, rfl, HW1.out⟩

theorem env_set : ∀ c ∈ [(120 : UInt8), 121, 122], ∀ i, i < 27 → ∀ d ∈ [(120 : UInt8), 121, 122], d ≠ c → env i (d.toNat - 120) = env (setN c 0 i) (d.toNat - 120) := by decide +kernel
theorem tst_free {tm : Tm} (ht : Ok false true tm) {c : UInt8} (hc : c = 120 ∨ c = 121 ∨ c = 122) (hn : c ∉ tm.ser) : depB c (tst tm) = false := by
  rw [depB_false hc]
  intro i hi
  unfold tst
  refine tru_free tm ht fun d j hd hm => ?_
  have hne : d ≠ c := by rintro rfl; exact hn hm
  have := env_set c (letter_mem hc) i hi d (by rcases hd with ⟨rfl, _⟩ | ⟨rfl, _⟩ | ⟨rfl, _⟩ <;> simp) hne
  rcases hd with ⟨rfl, rfl⟩ | ⟨rfl, rfl⟩ | ⟨rfl, rfl⟩ <;> exact this
theorem po_facts {t : ByteArray} {tm : Tm} (ht : Ok false true tm) (hst : t.data.toList = tm.ser) : ∃ (p V X n : ByteArray), Set27 p ∧ bs (tb (tst tm)) = p ∧ (∀ k, k < 27 → hs p.data.toList k = tst tm k) ∧ bs (depL (hs p.data.toList)) = V ∧ V.size ≤ 3 ∧ bs (vlist [120, 121, 122] t.data.toList) = X ∧ X.size ≤ 3 ∧
    (∀ c ∈ V.data.toList, decide (c ∈ X.data.toList) = true) ∧ bs (tb (fun i => !hs p.data.toList i)) = n ∧ bs (tb (tst (.un 33 tm))) = n := by
  have e : ∀ F : Nat → Bool, (bs (depL F)).data.toList = depL F := fun F => by simp [bs]
  refine ⟨_, _, _, _, set27_tb _, rfl, fun k hk => hs_bs _ k hk, rfl, depL_size _, rfl, vlist_size _, ?_, rfl, ?_⟩
  · intro c hm
    rw [e] at hm
    have hc : c = 120 ∨ c = 121 ∨ c = 122 := by
      have k : ∀ (b : Bool) (d : UInt8), c ∈ lst b d → c = d := by
        intro b d h
        cases b
        · simp [lst] at h
        · simpa [lst] using h
      rw [depL, List.mem_append, List.mem_append] at hm
      rcases hm with (h | h) | h
      · exact .inl (k _ _ h)
      · exact .inr (.inl (k _ _ h))
      · exact .inr (.inr (k _ _ h))
    have hd := (depL_mem hc _).1 hm
    rw [decide_eq_true_eq, show (bs (vlist [120, 121, 122] t.data.toList)).data.toList = vlist [120, 121, 122] t.data.toList by simp [bs], vlist_in _ _ hc, hst]
    refine Decidable.byContradiction fun hn => ?_
    have hf := tst_free ht hc hn
    rw [← depB_congr (letter_mem hc) (F := hs (bs (tb (tst tm))).data.toList) (fun i hi => hs_bs _ i hi), hd] at hf
    cases hf
  · exact bs_ext fun i hi => by rw [show tst (.un 33 tm) i = !tst tm i from rfl]; rw [show hs (bs (tb (tst tm))).data.toList i = tst tm i from hs_bs _ i hi]

set_option maxRecDepth 100000 in
set_option maxHeartbeats 16000000 in
theorem walkPredOf {a0 : Option Addr} {len0 cap0 : Nat} {z0 : List Int} (w : World) (h0 : IsRow w a0 len0 cap0 z0) :
    Calls Try.prog 3 #[.slice a0 len0 cap0] w fun e w' => e = .returned (.bool true) ∧ Below w.heap.size w w' := by
  have D := Lib.hid (drawPO h0)
  clear h0
  by_cases hl : (1048576 : Int) < len0
  · go_enter Try.func3, Try.ntmps3
    go_wp2_with fail
    go_ret
    exact ⟨rfl, Below.refl _ _⟩
  · go_enter Try.func3, Try.ntmps3
    go_wp2_with fail
    refine D.out.mono ?_
    rintro e w1 ⟨t, ht, rfl, hb⟩
    have HB1 := Lib.hid hb
    clear hb D
    by_cases hv : Valid false true t.data.toList ∧ t.size ≤ 200
    · obtain ⟨⟨tm, htm, hst⟩, hsz⟩ := hv
      have C1 := fun w => Lib.hid (implPredOf_yes t w htm hst hsz)
      have C2 := fun w => Lib.hid (specPredOf_yes t w htm hst hsz)
      obtain ⟨p, V, X, n, hp, e1, hpk, e2, hVs, e3, hXs, hsub, e4, e5⟩ := po_facts htm hst
      have n1 : ¬ 9223372036854775807 < 1 + t.size := by omega
      have C4 := fun w => Lib.hid (implPredOf_yes ((⟨#[33]⟩ : ByteArray) ++ t) w (t := .un 33 tm) ⟨true, rfl, htm⟩ (by simp [ByteArray.data_append, hst, Tm.ser]) (by rw [ByteArray.size_append, show ByteArray.size ⟨#[33]⟩ = 1 from rfl]; omega))
      have V1 := fun w => Lib.hid (implPV_yes p w hp)
      have V2 := fun w => Lib.hid (implVarsTest_yes t w htm hst hsz)
      have PV := fun w => Lib.hid (implPredValid_yes p w hp)
      have N1 := fun w => Lib.hid (implNotP_yes p w hp)
      rw [e1] at C1 C2
      rw [e5] at C4
      rw [e2] at V1
      rw [e3] at V2
      rw [e4] at N1
      have PN := fun w => Lib.hid (ppNot_of p n true N1 w)
      have HT := Lib.hid htm
      have HP := Lib.hid hp
      have HV := Lib.hid hpk
      have HS0 := Lib.hid hst
      have HSub := Lib.hid hsub
      clear htm hp hpk hst hsub e1 e2 e3 e4 e5 N1
      go_wp2_with fail
      refine (C1 _).out.mono ?_
      rintro e w2 ⟨rfl, hb⟩
      have HB2 := Lib.hid (bnext HB1.out hb)
      clear hb
      go_wp2_with fail
      refine (C2 _).out.mono ?_
      rintro e w3 ⟨rfl, hb⟩
      have HB3 := Lib.hid (bnext HB2.out hb)
      clear hb
      go_wp2_with fail
      refine (states_any _).mono ?_
      rintro e w4 ⟨g, cap, hcap, hg, rfl, hs, hb⟩
      have HB4 := Lib.hid (bnext HB3.out hb)
      have HS4 := Lib.hid hs
      clear hb hs
      clear C1 C2
      go_wp2_with fail
      go_loopw [9] (fun i wr => ∃ k : Nat, k ≤ 27 ∧ i = .int .i64 k ∧ Hid (Below w.heap.size w wr) ∧ Hid (Sts wr g)) (fun i _ => 27 - (intOf i).toNat)
      case atStart => exact ⟨0, by omega, rfl, HB4, HS4⟩
      case round =>
        obtain ⟨k, hk, rfl, HB, HS⟩ := hrel
        by_cases hlt : k < 27
        · have hk0 : (0 : Int) ≤ (k : Int) := by omega
          have hk1 : (k : Int) < 27 := by omega
          obtain ⟨c0, c1, c2⟩ := HS.out k hlt
          have hat := at_st3 (i := (k : Int)) hk0 hk1
          have H1 := fun w => Lib.hid (has_at p HP.out k hlt w)
          rw [HV.out k hlt] at H1
          have E2 := fun w => Lib.hid (implEvalT_yes t (ax k) (ay k) (az k) w HT.out HS0.out (by omega) hat)
          rw [show tru (one (ax k) (ay k) (az k)) tm = tst tm k from rfl] at E2
          generalize tst tm k = v at *
          have P2 := fun w => Lib.hid (ppTrue_of t (ax k) (ay k) (az k) v true E2 w)
          clear E2 hat
          have hS0 : Below w.heap.size w wr ∧ Sts wr g ∧ wr.cell? ⟨g, k * 3, none⟩ = some (.int .i64 (ax k)) ∧ wr.cell? ⟨g, k * 3 + 1, none⟩ = some (.int .i64 (ay k)) ∧ wr.cell? ⟨g, k * 3 + 2, none⟩ = some (.int .i64 (az k)) := ⟨HB.out, HS.out, c0, c1, c2⟩
          have hS := keepL (Q := fun w => Sts w g) hS0 (fun h => Sts.kept h (Below.refl wr.heap.size wr).drew) (Below.refl wr.heap.size wr).drew
          have evv : (v != v) = false := by cases v <;> rfl
          clear c0 c1 c2
          go_wp2_with fail
          first | (go_region_held3 (fun w' => Below w.heap.size w w' ∧ Sts w' g ∧ w'.cell? ⟨g, k * 3, none⟩ = some (.int .i64 (ax k)) ∧ w'.cell? ⟨g, k * 3 + 1, none⟩ = some (.int .i64 (ay k)) ∧ w'.cell? ⟨g, k * 3 + 2, none⟩ = some (.int .i64 (az k)))
              (first | assumption | exact keepL (Q := fun w => Sts w g) (by assumption) (fun h => Sts.kept h hq) hq)
              (first | (go_at_call 13; (with_reducible refine (H1 _).out.mono ?_); rintro e u1 ⟨rfl, hq⟩) | (go_at_call 14; (with_reducible refine (P2 _).out.mono ?_); rintro e u1 ⟨rfl, hq⟩))) | fail
          all_goals
            go_split_ands
            go_wp2_with fail
            go_round
            case rel => exact ⟨k + 1, by omega, by go_num, by assumption, by assumption⟩
            case measure => simp [intOf]; omega
        · have hk2 : k = 27 := by omega
          subst hk2
          clear HS
          have HB0 := HB
          clear HB
          go_wp2_with fail
          refine (V1 _).out.mono ?_
          rintro e w31 ⟨rfl, hb⟩
          have HY := Lib.hid (bnext HB0.out hb)
          clear hb
          go_wp2_with fail
          go_loopw [11] (fun i wr => ∃ k : Nat, k ≤ V.size ∧ i = .int .i64 k ∧ Hid (Below w.heap.size w wr)) (fun i _ => V.size - (intOf i).toNat)
          case atStart => exact ⟨0, by omega, rfl, HY⟩
          case round =>
            obtain ⟨k, hk, rfl, HB⟩ := hrel
            by_cases hlt : k < V.size
            · have h1 : (k : Int) < (V.size : Int) := by omega
              have h2 : (k : Int) + 1 ≤ (V.size : Int) := by omega
              have h3 : (k : Int) ≤ (V.size : Int) := by omega
              have ew : IntKind.i64.wrap ((k : Int) + 1) = (k : Int) + 1 := IntWalk.i64_in _ (by omega)
              have h4 : (0 : Int) ≤ (k : Int) + 1 := by omega
              have h5 : ((k : Int) + 1).toNat = k + 1 := by omega
              have h6 : (0 : Int) ≤ (k : Int) := by omega
              have h7 : (k : Int) ≤ (k : Int) + 1 := by omega
              have h8 : k ≤ V.size := by omega
              have h9 : min k V.size = k := by omega
              have h10 : k + 1 ≤ V.size := by omega
              have HX1 := Lib.hid (ext1 V k hlt)
              have HM : Hid (decide (V[k] ∈ X.data.toList) = true) := HSub.out V[k] (List.mem_of_getElem? (show V.data.toList[k]? = some V[k] from List.getElem?_eq_getElem (by simpa using hlt)))
              have P3 : ∀ w, Hid (Calls Try.prog 16 #[.string X, .string (V.extract k (k + 1))] w fun e w' => e = .returned (.bool true) ∧ w = w') := fun w => by
                show Calls _ _ _ _ _
                rw [HX1.out, ← HM.out]
                exact has_any X V[k] w (by omega)
              have hS0 : Below w.heap.size w wr := HB.out
              have hS : Below w.heap.size w wr.drew := bnext HB.out (Below.refl wr.heap.size wr).drew
              go_wp2_with fail
              first | (go_region_held3 (fun w' => Below w.heap.size w w')
                (first | assumption | exact bnext (by assumption) hq)
                (first | (go_at_call 17; (with_reducible refine (V2 _).out.mono ?_); rintro e u1 ⟨rfl, hq⟩) | (go_at_call 16; (with_reducible refine (P3 _).out.mono ?_); rintro e u2 ⟨rfl, rfl⟩))) | fail
              all_goals
                go_split_ands
                go_wp2_with fail
                go_round
                case rel => exact ⟨k + 1, by omega, by go_num, by assumption⟩
                case measure => simp [intOf]; omega
            · have hk2 : k = V.size := by omega
              subst hk2
              have HB0 := HB
              go_wp2_with fail
              refine (C4 _).out.mono ?_
              rintro e w41 ⟨rfl, hb⟩
              have HB1 := Lib.hid (bnext HB0.out hb)
              clear hb
              go_wp2_with fail
              refine (PV _).out.mono ?_
              rintro e w' ⟨rfl, rfl⟩
              go_wp2_with fail
              refine (PN _).out.mono ?_
              rintro e w42 ⟨rfl, hb⟩
              have HB2 := Lib.hid (bnext HB1.out hb)
              clear hb
              go_wp2_with fail
              go_ret
              exact ⟨rfl, HB2.out⟩
    · have C1 := fun w => Lib.hid (implPredOf_no t w hv)
      have C2 := fun w => Lib.hid (specPredOf_no t w hv)
      clear hv
      go_wp2_with fail
      refine (C1 _).out.mono ?_
      rintro e w2 ⟨rfl, hb⟩
      have HB2 := Lib.hid (bnext HB1.out hb)
      clear hb
      go_wp2_with fail
      refine (C2 _).out.mono ?_
      rintro e w3 ⟨rfl, hb⟩
      have HB3 := Lib.hid (bnext HB2.out hb)
      clear hb
      go_wp2_with fail
      go_ret
      exact ⟨rfl, HB3.out⟩

set_option linter.unusedVariables false in
set_option maxRecDepth 100000 in
theorem liftedPredOf (os : Os) (started : os.Started) (H : Type) (enc : TypeId × Value → H) :
    ReturnsInHanded {} Try.checked os 3 .any (Rows.fnPredOfSpec.pre6 enc Try.prog Try.f3 Rows.fnPredOfRow.domain false) (Rows.fnPredOfSpec.post enc Try.prog Try.f3 false true false false) := by
  refine returnsInHanded_of_change (C := Try.checked) Try.own started (by kernel_rfl) Try.func3
    (ChangeSpec.witness6 (enc := enc) (C := Try.checked) false ⟨#[], #[.slice none 0 0], []⟩ 8 (by kernel_rfl) (by kernel_rfl) (by kernel_rfl) (by kernel_rfl)) ?_
  intro W base args ds gs before hval0 hW hcnd _
  have hval : ∀ (j : Nat) t v, Try.f3.params[j]? = some t → args[j]? = some v → Value.okWide Try.prog W .any base t v := hval0
  have hW' := hW
  obtain ⟨p, q, hA0, hV, rfl, hfz, hnd⟩ := hW
  have hA : DataW.TrodAll enc Try.prog W 0 (fun _ => true) true Try.f3.params.toList args.toList ds p := hA0
  rw [Try.params3] at hA hval
  obtain ⟨v0, vs0, d0, ds0, p0, q0, hargs, rfl, rfl, h0, r0⟩ := trodAll_cons hA
  obtain ⟨rfl, rfl, rfl⟩ := trodAll_nil r0
  obtain rfl : args = #[v0] := by cases args; simp_all
  obtain ⟨rfl, rfl⟩ := trodVars_none hV
  obtain ⟨a0, len0, cap0, rfl⟩ := okWide_slice Try.underlying22 (hval 0 22 v0 rfl rfl)
  have k0 := h0
  have lt0 : ∀ x ∈ p0, x.block < W.heap.size := by obtain ⟨m, hm⟩ := k0; exact DataW.trod_lt m _ _ _ hm
  obtain ⟨z0, w0⟩ : ∃ zs, IsRow W a0 len0 cap0 zs := by
    obtain ⟨fuel, hf⟩ := h0
    rcases open_ints Try.underlying22 Try.underlying5 (by kernel_rfl) hf with ⟨hcs, _⟩ | ⟨x, l, c, zs, hcs, _, hl, hm, hz, _, hcell, hwz⟩
    · simp [Value.cells] at hcs
      obtain ⟨rfl, rfl, rfl⟩ := hcs
      exact ⟨[], .inl ⟨rfl, rfl, rfl, rfl⟩⟩
    · simp [Value.cells] at hcs
      obtain ⟨rfl, rfl, rfl⟩ := hcs
      exact ⟨zs, .inr ⟨_, rfl, hl, hm, by simpa using hz, hcell, hwz⟩⟩
  clear hA0 hval0
  refine (walkPredOf W w0).mono fun e W' ⟨he, bel⟩ => ?_
  subst he
  exact ⟨_, rfl, _, _, _, [], _, [], hW', trodAll_mk1 (shut_bool Try.underlying4 _), (trodAll_cons_mk (Below.trod laidOut (by kernel_rfl) (of_decide_eq_true (by kernel_rfl)) k0 bel lt0) trodAll_mk0), rfl, bel.frame _, fun h => by cases h⟩

theorem predOf_holds : Rows.FnPredOfSaid :=
  OpenClaim.holds_of_wide 3 Try.f3 rfl rfl rfl rfl rfl rfl rfl ⟨rfl, rfl, rfl, rfl, rfl⟩ rfl rfl rfl rfl rfl (by kernel_rfl) Try.func3 (by kernel_rfl)
    (of_decide_eq_true (by kernel_rfl)) (by unfold Func.isWrapper; first | (rw [if_pos (by decide +kernel)]; kernel_rfl) | (rw [if_neg (by decide +kernel)]; exact ⟨rfl, rfl⟩))
    (fun os started H enc _ => liftedPredOf os started H enc)

#print axioms predOf_holds
end Go.Proofs.Ytnhadmeadegckaa
