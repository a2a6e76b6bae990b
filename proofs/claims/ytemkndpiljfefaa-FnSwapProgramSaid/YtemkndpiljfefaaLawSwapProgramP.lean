/-
  The law of exchanged variables is true at all bytes: no condition.
-/
import Derived.Test.YtemkndpiljfefaaRows
import Derived.Test.YtemkndpiljfefaaTopQ
import Derived.Deep.RegionHeld3
import Derived.ProofKit
import Derived.OpenShut
import Derived.ShutString
import Derived.ChangeOld
namespace Go.Proofs.Ytemkndpiljfefaa
open Go.ChangeShapes Go.WideShapes Go.ChangeAt Go.RowKit
open Go.ChangeMaps (open_string shut_string)

theorem Try.own : ownKnob Try.prog.godebug = none := by kernel_rfl
theorem laidOut : laidOutB Try.prog = true := by kernel_rfl

set_option maxHeartbeats 4000000 in
theorem drawSwP {a : Option Addr} {len cap : Nat} {zs : List Int} {w : World} (h : IsRow w a len cap zs) :
    Calls Try.prog 23 #[.slice a len cap] w fun e w' => ∃ s t u : ByteArray, s.size ≤ 1000 ∧ t.size ≤ 2 ∧ u.size ≤ 2 ∧ e = .returned (.tuple #[.string s, .string t, .string u]) ∧ Below w.heap.size w w' := by
  have HO := Lib.hid (open_any h)
  clear h
  go_enter Try.func23, Try.ntmps23
  go_wp2_with fail
  refine HO.out.mono ?_
  rintro e w1 ⟨rfl, hr, hb⟩
  have HW1 := Lib.hid hb
  have HC := Lib.hid (open3 hr (by omega))
  clear hr hb
  go_wp2_with fail
  refine HC.out.mono ?_
  rintro e w2 ⟨t, q, t1, t2, hq, rfl, hr, hk⟩
  have HW2 := Lib.hid (HW1.out.trans (hk.below (Nat.le_refl _) HW1.out.size))
  have HC := Lib.hid (which_any hr (by omega))
  clear hr hk
  go_wp2_with fail
  refine HC.out.mono ?_
  rintro e w3 ⟨v, hv, rfl, hr, hk⟩
  have HW3 := Lib.hid (HW2.out.trans (hk.below (Nat.le_refl _) HW2.out.size))
  have HC := Lib.hid (which_any hr (by omega))
  clear hr hk
  go_wp2_with fail
  refine HC.out.mono ?_
  rintro e w4 ⟨u, hu, rfl, hr, hk⟩
  have HW4 := Lib.hid (HW3.out.trans (hk.below (Nat.le_refl _) HW3.out.size))
  clear hr hk
  go_wp2_with fail
  go_ret3
  exact ⟨t, v, u, by omega, hv, hu, rfl, HW4.out⟩
theorem letter_in {c : UInt8} (h : c = 120 ∨ c = 121 ∨ c = 122) : c ∈ [(120 : UInt8), 121, 122] := by simp [h]
theorem isvar_let {V : ByteArray} (h : IsVar V) : ∃ c : UInt8, (c = 120 ∨ c = 121 ∨ c = 122) ∧ V = ⟨#[c]⟩ := by
  rcases h with rfl | rfl | rfl
  · exact ⟨120, by simp, rfl⟩
  · exact ⟨121, by simp, rfl⟩
  · exact ⟨122, by simp, rfl⟩
theorem sw_facts {t : ByteArray} {p : Pg} (hp : p.ok false) (hs : t.data.toList = p.ser) {v u : UInt8} (hv : v = 120 ∨ v = 121 ∨ v = 122) (hu : u = 120 ∨ u = 121 ∨ u = 122) :
    ∃ (x R1 R2 Q1 Q2 : ByteArray) (q : Pg) (a b : Bool), q.ok false ∧ x.data.toList = q.ser ∧ x.size = t.size ∧ bs (t.data.toList.map (exch v u)) = x ∧ bs (t.data.toList.map (exch u v)) = x ∧ bs (x.data.toList.map (exch v u)) = t ∧ q.all.length = p.all.length ∧
      bs (vlist [120, 121, 122] (p.all.flatMap (Pg.rwq false))) = R1 ∧ bs (vlist [120, 121, 122] (q.all.flatMap (Pg.rwq false))) = Q1 ∧ bs (vlist [120, 121, 122] (p.all.flatMap (Pg.rwq true))) = R2 ∧ bs (vlist [120, 121, 122] (q.all.flatMap (Pg.rwq true))) = Q2 ∧
      R1.size ≤ 3 ∧ R2.size ≤ 3 ∧ Q1.size ≤ 3 ∧ Q2.size ≤ 3 ∧ decide (v ∈ Q2.data.toList) = a ∧ decide (u ∈ R2.data.toList) = a ∧ decide (u ∈ Q1.data.toList) = b ∧ decide (v ∈ R1.data.toList) = b := by
  have hv' := letter_in hv
  have hu' := letter_in hu
  have hser := pgx_ser hv' hu' p
  refine ⟨_, _, _, _, _, pgx (exch v u) p, _, _, pgx_ok hv' hu' p hp, by rw [bsl, hser, hs], ?_, rfl, ?_, ?_, pgx_len _ p, rfl, rfl, rfl, rfl, vlistSize _, vlistSize _, vlistSize _, vlistSize _, rfl, ?_, rfl, ?_⟩
  · rw [bs_size, List.length_map]; rfl
  · rw [show exch u v = exch v u from funext fun c => exch_flip v u c]
  · rw [bsl, List.map_map, show exch v u ∘ exch v u = id from funext fun c => exch_exch v u c, List.map_id, bs_self]
  · rw [bsl, bsl, decide_eq_decide, vlistIn _ _ hu, vlistIn _ _ hv, pgx_rw, map_exch, exch_t rfl]
  · rw [bsl, bsl, decide_eq_decide, vlistIn _ _ hv, vlistIn _ _ hu, pgx_rw, map_exch, exch_u rfl]

set_option maxRecDepth 100000 in
set_option maxHeartbeats 16000000 in
theorem walkSwapProgram {a0 : Option Addr} {len0 cap0 : Nat} {z0 : List Int} (w : World) (h0 : IsRow w a0 len0 cap0 z0) :
    Calls Try.prog 6 #[.slice a0 len0 cap0] w fun e w' => e = .returned (.bool true) ∧ Below w.heap.size w w' := by
  have D := Lib.hid (drawSwP h0)
  clear h0
  by_cases hl : (1048576 : Int) < len0
  · go_enter Try.func6, Try.ntmps6
    go_wp2_with fail
    go_ret
    exact ⟨rfl, Below.refl _ _⟩
  · go_enter Try.func6, Try.ntmps6
    go_wp2_with fail
    refine D.out.mono ?_
    rintro e w1 ⟨t, v, u, t1, v1, u1, rfl, hb⟩
    have HB1 := Lib.hid hb
    clear hb D
    by_cases hv : IsP t ∧ IsVar v ∧ IsVar u
    · obtain ⟨⟨⟨p, hp, hs⟩, hsz⟩, hv2, hu2⟩ := hv
      obtain ⟨v, hvl, rfl⟩ := isvar_let hv2
      obtain ⟨u, hul, rfl⟩ := isvar_let hu2
      have hI : IsP t := ⟨⟨p, hp, hs⟩, hsz⟩
      obtain ⟨x, R1, R2, Q1, Q2, q, a, b, hq, hxs, hxz, e1, e2, e3, e4, e5, e6, e7, e8, z1, z2, z3, z4, f1, f2, f3, f4⟩ := sw_facts hp hs hvl hul
      have hIx : IsP x := ⟨⟨q, hq, hxs⟩, by omega⟩
      have C1 := fun w => Lib.hid (implSwap_yes t ⟨#[v]⟩ ⟨#[u]⟩ (by show 0 < 1; omega) (by show 0 < 1; omega) w hI hv2 hu2)
      have C2 := fun w => Lib.hid (specSwap_yes t ⟨#[v]⟩ ⟨#[u]⟩ (by show 0 < 1; omega) (by show 0 < 1; omega) w hI hv2 hu2)
      have C3 := fun w => Lib.hid (implSwap_yes x ⟨#[v]⟩ ⟨#[u]⟩ (by show 0 < 1; omega) (by show 0 < 1; omega) w hIx hv2 hu2)
      have C4 := fun w => Lib.hid (implSwap_yes t ⟨#[u]⟩ ⟨#[v]⟩ (by show 0 < 1; omega) (by show 0 < 1; omega) w hI hu2 hv2)
      simp only [show (⟨#[v]⟩ : ByteArray)[0]'(by show 0 < 1; omega) = v from rfl, show (⟨#[u]⟩ : ByteArray)[0]'(by show 0 < 1; omega) = u from rfl] at C1 C2 C3 C4
      have C5 := fun w => Lib.hid (implPV_yes x w hq hxs (by omega))
      have W1 := fun w => Lib.hid (implWrs_yes x w hq hxs (by omega))
      have W2 := fun w => Lib.hid (implWrs_yes t w hp hs hsz)
      have R3 := fun w => Lib.hid (implRds_yes x w hq hxs (by omega))
      have R4 := fun w => Lib.hid (implRds_yes t w hp hs hsz)
      have S1 := fun w => Lib.hid (implSize_yes x w hq hxs (by omega))
      have S2 := fun w => Lib.hid (implSize_yes t w hp hs hsz)
      have H1 := fun w => Lib.hid (has_any Q2 v w (by omega))
      have H2 := fun w => Lib.hid (has_any R2 u w (by omega))
      have H3 := fun w => Lib.hid (has_any Q1 u w (by omega))
      have H4 := fun w => Lib.hid (has_any R1 v w (by omega))
      rw [e1] at C1 C2
      rw [e2] at C4
      rw [e3] at C3
      rw [e8] at W1
      rw [e7] at W2
      rw [e6] at R3
      rw [e5] at R4
      rw [e4] at S1
      rw [f1] at H1
      rw [f2] at H2
      rw [f3] at H3
      rw [f4] at H4
      clear hI hIx hp hs hq hxs e1 e2 e3 e4 e5 e6 e7 e8 z1 z2 z3 z4 f1 f2 f3 f4 hvl hul hv2 hu2 t1 v1 u1
      have eb : ∀ b : Bool, (b == b) = true := fun b => by cases b <;> rfl
      go_wp2_with fail
      refine (C1 _).out.mono ?_
      rintro e w2 ⟨rfl, hb⟩
      have HB2 := Lib.hid (bnext HB1.out hb)
      clear hb
      go_wp2_with fail
      refine (C2 _).out.mono ?_
      rintro e w3 ⟨rfl, hb⟩
      have HB3 := Lib.hid (bnext HB2.out hb)
      clear hb
      go_wp2_with fail
      refine (C3 _).out.mono ?_
      rintro e w4 ⟨rfl, hb⟩
      have HB4 := Lib.hid (bnext HB3.out hb)
      clear hb
      go_wp2_with fail
      refine (C4 _).out.mono ?_
      rintro e w5 ⟨rfl, hb⟩
      have HB5 := Lib.hid (bnext HB4.out hb)
      clear hb
      go_wp2_with fail
      refine (C5 _).out.mono ?_
      rintro e w6 ⟨rfl, hb⟩
      have HB6 := Lib.hid (bnext HB5.out hb)
      clear hb
      go_wp2_with fail
      refine (W1 _).out.mono ?_
      rintro e w7 ⟨rfl, hb⟩
      have HB7 := Lib.hid (bnext HB6.out hb)
      clear hb
      go_wp2_with fail
      refine (H1 _).out.mono ?_
      rintro e w' ⟨rfl, rfl⟩
      go_wp2_with fail
      refine (W2 _).out.mono ?_
      rintro e w8 ⟨rfl, hb⟩
      have HB8 := Lib.hid (bnext HB7.out hb)
      clear hb
      go_wp2_with fail
      refine (H2 _).out.mono ?_
      rintro e w' ⟨rfl, rfl⟩
      go_wp2_with fail
      refine (R3 _).out.mono ?_
      rintro e w9 ⟨rfl, hb⟩
      have HB9 := Lib.hid (bnext HB8.out hb)
      clear hb
      go_wp2_with fail
      refine (H3 _).out.mono ?_
      rintro e w' ⟨rfl, rfl⟩
      go_wp2_with fail
      refine (R4 _).out.mono ?_
      rintro e w10 ⟨rfl, hb⟩
      have HB10 := Lib.hid (bnext HB9.out hb)
      clear hb
      go_wp2_with fail
      refine (H4 _).out.mono ?_
      rintro e w' ⟨rfl, rfl⟩
      go_wp2_with fail
      refine (S1 _).out.mono ?_
      rintro e w11 ⟨rfl, hb⟩
      have HB11 := Lib.hid (bnext HB10.out hb)
      clear hb
      go_wp2_with fail
      refine (S2 _).out.mono ?_
      rintro e w12 ⟨rfl, hb⟩
      have HB12 := Lib.hid (bnext HB11.out hb)
      clear hb
      go_wp2_with fail
      go_ret
      exact ⟨rfl, HB12.out⟩
    · have C1 := fun w => Lib.hid (implSwap_no t v u w (Nat.le_trans v1 (by decide)) (Nat.le_trans u1 (by decide)) hv)
      have C2 := fun w => Lib.hid (specSwap_no t v u w (Nat.le_trans v1 (by decide)) (Nat.le_trans u1 (by decide)) hv)
      clear hv t1 v1 u1
      go_wp2_with fail
      refine (C1 _).out.mono ?_
      rintro e w2 ⟨rfl, hb⟩
      have HB2 := Lib.hid (bnext HB1.out hb)
      clear hb
      go_wp2_with fail
      refine (C2 _).out.mono ?_
      rintro e w3 ⟨rfl, hb⟩
      have HB3 := Lib.hid (bnext HB2.out hb)
      clear hb
      go_wp2_with fail
      go_ret
      exact ⟨rfl, HB3.out⟩

set_option linter.unusedVariables false in
set_option maxRecDepth 100000 in
theorem liftedSwapProgram (os : Os) (started : os.Started) (H : Type) (enc : TypeId × Value → H) :
    ReturnsInHanded {} Try.checked os 6 .any (Rows.fnSwapProgramSpec.pre6 enc Try.prog Try.f6 Rows.fnSwapProgramRow.domain false) (Rows.fnSwapProgramSpec.post enc Try.prog Try.f6 false true false false) := by
  refine returnsInHanded_of_change (C := Try.checked) Try.own started (by kernel_rfl) Try.func6
    (ChangeSpec.witness6 (enc := enc) (C := Try.checked) false ⟨#[], #[.slice none 0 0], []⟩ 8 (by kernel_rfl) (by kernel_rfl) (by kernel_rfl) (by kernel_rfl)) ?_
  intro W base args ds gs before hval0 hW hcnd _
  have hval : ∀ (j : Nat) t v, Try.f6.params[j]? = some t → args[j]? = some v → Value.okWide Try.prog W .any base t v := hval0
  have hW' := hW
  obtain ⟨p, q, hA0, hV, rfl, hfz, hnd⟩ := hW
  have hA : DataW.TrodAll enc Try.prog W 0 (fun _ => true) true Try.f6.params.toList args.toList ds p := hA0
  rw [Try.params6] at hA hval
  obtain ⟨v0, vs0, d0, ds0, p0, q0, hargs, rfl, rfl, h0, r0⟩ := trodAll_cons hA
  obtain ⟨rfl, rfl, rfl⟩ := trodAll_nil r0
  obtain rfl : args = #[v0] := by cases args; simp_all
  obtain ⟨rfl, rfl⟩ := trodVars_none hV
  obtain ⟨a0, len0, cap0, rfl⟩ := okWide_slice Try.underlying22 (hval 0 22 v0 rfl rfl)
  have k0 := h0
  have lt0 : ∀ x ∈ p0, x.block < W.heap.size := by obtain ⟨m, hm⟩ := k0; exact DataW.trod_lt m _ _ _ hm
  obtain ⟨z0, w0⟩ : ∃ zs, IsRow W a0 len0 cap0 zs := by
    obtain ⟨fuel, hf⟩ := h0
    rcases open_ints Try.underlying22 Try.underlying5 (by kernel_rfl) hf with ⟨hcs, _⟩ | ⟨x, l, c, zs, hcs, _, hl, hm, hz, _, hcell, hwz⟩
    · simp [Value.cells] at hcs
      obtain ⟨rfl, rfl, rfl⟩ := hcs
      exact ⟨[], .inl ⟨rfl, rfl, rfl, rfl⟩⟩
    · simp [Value.cells] at hcs
      obtain ⟨rfl, rfl, rfl⟩ := hcs
      exact ⟨zs, .inr ⟨_, rfl, hl, hm, by simpa using hz, hcell, hwz⟩⟩
  clear hA0 hval0
  refine (walkSwapProgram W w0).mono fun e W' ⟨he, bel⟩ => ?_
  subst he
  exact ⟨_, rfl, _, _, _, [], _, [], hW', trodAll_mk1 (shut_bool Try.underlying4 _), (trodAll_cons_mk (Below.trod laidOut (by kernel_rfl) (of_decide_eq_true (by kernel_rfl)) k0 bel lt0) trodAll_mk0), rfl, bel.frame _, fun h => by cases h⟩

theorem swapProgram_holds : Rows.FnSwapProgramSaid :=
  OpenClaim.holds_of_wide 6 Try.f6 rfl rfl rfl rfl rfl rfl rfl ⟨rfl, rfl, rfl, rfl, rfl⟩ rfl rfl rfl rfl rfl (by kernel_rfl) Try.func6 (by kernel_rfl)
    (of_decide_eq_true (by kernel_rfl)) (by unfold Func.isWrapper; first | (rw [if_pos (by decide +kernel)]; kernel_rfl) | (rw [if_neg (by decide +kernel)]; exact ⟨rfl, rfl⟩))
    (fun os started H enc _ => liftedSwapProgram os started H enc)

#print axioms swapProgram_holds
end Go.Proofs.Ytemkndpiljfefaa
