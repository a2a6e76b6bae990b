/-
  The law of preimages is true at all bytes: no condition.
-/
import Derived.Test.YtehklmbkkidehaaRows
import Derived.Test.YtehklmbkkidehaaTopA
import Derived.Deep.RegionHeld3
import Derived.ProofKit
import Derived.OpenShut
import Derived.ShutString
import Derived.ChangeOld
namespace Go.Proofs.Ytehklmbkkidehaa
open Go.ChangeShapes Go.WideShapes Go.ChangeAt Go.RowKit
open Go.ChangeMaps (open_string shut_string)

theorem Try.own : ownKnob Try.prog.godebug = none := by kernel_rfl
theorem laidOut : laidOutB Try.prog = true := by kernel_rfl

set_option maxHeartbeats 4000000 in
theorem drawAPre {a : Option Addr} {len cap : Nat} {zs : List Int} {w : World} (h : IsRow w a len cap zs) :
    Calls Try.prog 5 #[.slice a len cap] w fun e w' => ∃ s t u : ByteArray, s.size ≤ 28 ∧ t.size ≤ 2 ∧ u.size ≤ 40 ∧ e = .returned (.tuple #[.string s, .string t, .string u]) ∧ Below w.heap.size w w' := by
  have HO := Lib.hid (open_any h)
  clear h
  go_enter Try.func5, Try.ntmps5
  go_wp2_with fail
  refine HO.out.mono ?_
  rintro e w1 ⟨rfl, hr, hb⟩
  have HW1 := Lib.hid hb
  have HC := Lib.hid (open2_any hr (by omega))
  clear hr hb
  go_wp2_with fail
  refine HC.out.mono ?_
  rintro e w2 ⟨t, q, t1, t2, hq, rfl, hr, hk⟩
  have HW2 := Lib.hid (HW1.out.trans (hk.below (Nat.le_refl _) HW1.out.size))
  have HC := Lib.hid (which_any hr (by omega))
  clear hr hk
  go_wp2_with fail
  refine HC.out.mono ?_
  rintro e w3 ⟨v, hv, rfl, hr, hk⟩
  have HW3 := Lib.hid (HW2.out.trans (hk.below (Nat.le_refl _) HW2.out.size))
  have HC := Lib.hid (dE_2 (bs [120, 121, 122]) (by decide) (by decide) hr (by omega))
  clear hr hk
  go_wp2_with fail
  refine HC.out.mono ?_
  rintro e w4 ⟨u, q', u1, u2, hq', rfl, hr, hk⟩
  have HW4 := Lib.hid (HW3.out.trans (hk.below (Nat.le_refl _) HW3.out.size))
  have HC := Lib.hid (bad_any u u1 (by omega) hr (by omega))
  clear hr hk
  go_wp2_with fail
  refine HC.out.mono ?_
  rintro e w5 ⟨x, q5, x1, x2, hq5, rfl, hr, hk⟩
  have HW5 := Lib.hid (HW4.out.trans (hk.below (Nat.le_refl _) HW4.out.size))
  clear hr hk
  go_wp2_with fail
  go_ret3
  exact ⟨t, v, x, by omega, hv, by omega, rfl, HW5.out⟩
theorem letter_of {V : ByteArray} (h : IsVar V) : ∃ (c : UInt8) (j : Nat), VarAt c j ∧ (c = 120 ∨ c = 121 ∨ c = 122) ∧ V = ⟨#[c]⟩ := by
  rcases h with rfl | rfl | rfl
  · exact ⟨120, 0, by simp [VarAt], by simp, rfl⟩
  · exact ⟨121, 1, by simp [VarAt], by simp, rfl⟩
  · exact ⟨122, 2, by simp [VarAt], by simp, rfl⟩
theorem as_round {e : ByteArray} {t : Tm} (ht : Ok false false t) (he : e.data.toList = t.ser) (hl : e.size ≤ 200) (c : UInt8) (hc : c = 120 ∨ c = 121 ∨ c = 122) (k : Nat) (hk : k < 27) :
    ∃ p q r m : Int, st3 p q r = true ∧ ixn p q r = asg c t k ∧
      (∀ w, Hid (Calls Try.prog 10 #[.string e, .agg #[.int .i64 (ax k), .int .i64 (ay k), .int .i64 (az k)]] w fun e w' => e = .returned (.int .i64 m) ∧ Below w.heap.size w w')) ∧
      (∀ w, Hid (Calls Try.prog 9 #[.agg #[.int .i64 (ax k), .int .i64 (ay k), .int .i64 (az k)], .string ⟨#[c]⟩, .int .i64 m] w fun e w' => e = .returned (.tuple #[.agg #[.int .i64 p, .int .i64 q, .int .i64 r], .bool true]) ∧ Below w.heap.size w w')) := by
  have hat := at_st3 (i := (k : Int)) (by omega) (by omega)
  have hb := val_bd (one_bd hat) ht
  have hn : val3 (val (one (ax k) (ay k) (az k)) t) = true := val3_t hb.1 (by omega)
  have P := fun w => Lib.hid (ppValue_of e (ax k) (ay k) (az k) _ true (fun w => implEvalE_yes e (ax k) (ay k) (az k) w ht he hl hat) w)
  have h3 := hat
  unfold st3 at h3
  simp only [Bool.and_eq_true] at h3
  rcases hc with rfl | rfl | rfl
  · exact ⟨_, ay k, az k, _, st3_of hn h3.1.2 h3.2, rfl, P, fun w => implSet_x _ _ _ _ w hat hn⟩
  · exact ⟨ax k, _, az k, _, st3_of h3.1.1 hn h3.2, rfl, P, fun w => implSet_y _ _ _ _ w hat hn⟩
  · exact ⟨ax k, ay k, _, _, st3_of h3.1.1 h3.1.2 hn, rfl, P, fun w => implSet_z _ _ _ _ w hat hn⟩
theorem keepE {w0 w' : World} {g i j k : Nat} {a b c : Value} (h : w0.cell? ⟨g, i, none⟩ = some a ∧ w0.cell? ⟨g, j, none⟩ = some b ∧ w0.cell? ⟨g, k, none⟩ = some c) (hb : Below w0.heap.size w0 w') :
    Below w0.heap.size w0 w' ∧ w'.cell? ⟨g, i, none⟩ = some a ∧ w'.cell? ⟨g, j, none⟩ = some b ∧ w'.cell? ⟨g, k, none⟩ = some c :=
  ⟨hb, ckeep hb h.1, ckeep hb h.2.1, ckeep hb h.2.2⟩

theorem asP_facts {p : ByteArray} (c : UInt8) {t : Tm} (ht : Ok false false t) : ∃ x m n : ByteArray, Set27 x ∧ Set27 m ∧ bs (tb (fun i => hs p.data.toList (asg c t i))) = x ∧ bs (tb (fun i => !hs p.data.toList i)) = m ∧ bs (tb (fun i => hs m.data.toList (asg c t i))) = n ∧ bs (tb (fun i => !hs x.data.toList i)) = n ∧
    ∀ k, k < 27 → hs x.data.toList k = hs p.data.toList (asg c t k) := by
  refine ⟨_, _, _, set27_tb _, set27_tb _, rfl, rfl, rfl, ?_, fun k hk => hs_bs _ k hk⟩
  exact bs_ext fun i hi => by rw [hs_bs _ i hi, hs_bs _ _ (asg_lt ht hi)]

set_option maxRecDepth 100000 in
set_option maxHeartbeats 16000000 in
theorem walkAssign {a0 : Option Addr} {len0 cap0 : Nat} {z0 : List Int} (w : World) (h0 : IsRow w a0 len0 cap0 z0) :
    Calls Try.prog 3 #[.slice a0 len0 cap0] w fun e w' => e = .returned (.bool true) ∧ Below w.heap.size w w' := by
  have D := Lib.hid (drawAPre h0)
  clear h0
  by_cases hl : (1048576 : Int) < len0
  · go_enter Try.func3, Try.ntmps3
    go_wp2_with fail
    go_ret
    exact ⟨rfl, Below.refl _ _⟩
  · go_enter Try.func3, Try.ntmps3
    go_wp2_with fail
    refine D.out.mono ?_
    rintro e w1 ⟨s, v, u, s1, v1, u1, rfl, hb⟩
    have HB1 := Lib.hid hb
    clear hb D
    by_cases hv : Set27 s ∧ IsVar v ∧ Valid false false u.data.toList ∧ u.size ≤ 200
    · obtain ⟨hp, hv2, ⟨t, ht, he⟩, hl0⟩ := hv
      obtain ⟨c, j, hj, hc, rfl⟩ := letter_of hv2
      have C1 := fun w => Lib.hid (implApre_yes s ⟨#[c]⟩ u w c hp rfl hc ht he hl0)
      have C2 := fun w => Lib.hid (specApre_yes s ⟨#[c]⟩ u w c j hp rfl hj ht he hl0)
      obtain ⟨x, m, n, hx, hm, e1, e2, e3, e4, hxk⟩ := asP_facts (p := s) c ht
      have C3 := fun w => Lib.hid (implApre_yes m ⟨#[c]⟩ u w c hm rfl hc ht he hl0)
      have N1 := fun w => Lib.hid (implNotP_yes s w hp)
      have N2 := fun w => Lib.hid (implNotP_yes x w hx)
      rw [e1] at C1 C2
      rw [e3] at C3
      rw [e2] at N1
      rw [e4] at N2
      have PN := fun w => Lib.hid (ppNot_of s m true N1 w)
      have PM := fun w => Lib.hid (ppNot_of x n true N2 w)
      have HT := Lib.hid ht
      have HE0 := Lib.hid he
      have HEL := Lib.hid hl0
      have HC := Lib.hid hc
      have HP := Lib.hid hp
      have HX := Lib.hid hx
      have HV := Lib.hid hxk
      clear hp hv2 ht he hl0 hj hc hx hm e1 e2 e3 e4 hxk N1 N2 s1 v1 u1
      go_wp2_with fail
      refine (C1 _).out.mono ?_
      rintro e w2 ⟨rfl, hb⟩
      have HB2 := Lib.hid (bnext HB1.out hb)
      clear hb
      go_wp2_with fail
      refine (C2 _).out.mono ?_
      rintro e w3 ⟨rfl, hb⟩
      have HB3 := Lib.hid (bnext HB2.out hb)
      clear hb
      go_wp2_with fail
      refine (states_any _).mono ?_
      rintro e w4 ⟨g, cap, hcap, hg, rfl, hs, hb⟩
      have HB4 := Lib.hid (bnext HB3.out hb)
      have HS4 := Lib.hid hs
      clear hb hs
      clear C1 C2
      go_wp2_with fail
      go_loopw [11] (fun i wr => ∃ k : Nat, k ≤ 27 ∧ i = .int .i64 k ∧ Hid (Below w.heap.size w wr) ∧ Hid (Sts wr g)) (fun i _ => 27 - (intOf i).toNat)
      case atStart => exact ⟨0, by omega, rfl, HB4, HS4⟩
      case round =>
        obtain ⟨k, hk, rfl, HB, HS⟩ := hrel
        by_cases hlt : k < 27
        · have hk0 : (0 : Int) ≤ (k : Int) := by omega
          have hk1 : (k : Int) < 27 := by omega
          obtain ⟨p, q, r, m, hst, hix, PV, SV⟩ := as_round HT.out HE0.out HEL.out c HC.out k hlt
          have X1 := fun w => Lib.hid (has_at x HX.out k hlt w)
          have X2 := fun w => Lib.hid (implHasS_yes s p q r w HP.out hst)
          rw [HV.out k hlt] at X1
          rw [hix] at X2
          generalize hs s.data.toList (asg c t k) = b at *
          clear hst hix
          have ebb : (b != b) = false := by cases b <;> rfl
          go_wp2_with fail
          have hbb : Below wr.heap.size wr wr.drew := (Below.refl wr.heap.size wr).drew
          have HE := Lib.hid (HS.out k hlt)
          have hS0 := keepE HE.out (Below.refl wr.heap.size wr)
          have hS := keepE HE.out hbb
          have hlg := World.block_lt_of_cell? wr _ HE.out.1
          first | (go_region_held3 (fun w' => Below wr.heap.size wr w' ∧ w'.cell? ⟨g, k * 3, none⟩ = some (.int .i64 (ax k)) ∧ w'.cell? ⟨g, k * 3 + 1, none⟩ = some (.int .i64 (ay k)) ∧ w'.cell? ⟨g, k * 3 + 2, none⟩ = some (.int .i64 (az k)))
            ((first
                | assumption
                | exact keepE HE.out (by assumption)
                | (go_split_ands; exact keepE HE.out (bnext (by assumption) hq))
                | (go_split_ands; exact keepE HE.out (bput (by assumption) _))
                | (go_split_ands; exact keepE HE.out (bswap (by assumption) hz))
                | (go_split_ands; exact keepE HE.out (Below.setCell (Below.setCell (Below.setCell (by assumption) (by simp; omega) _) (by simp; omega) _) (by simp; omega) _))
                | (go_split_ands; exact keepE HE.out (Below.setCell (Below.setCell (Below.setCell (by assumption) (by simp) _) (by simp) _) (by simp) _))))
            (first
                | (go_at_call 10; (with_reducible refine (PV _).out.mono ?_); rintro e u1 ⟨rfl, hq⟩; have hz : wr.heap.size ≤ u1.heap.size := (bnext (by go_split_ands; assumption) hq).size; obtain ⟨hcq, hfq⟩ := bcell hq; have hs := hq.size; try simp at hs; try replace hs := Nat.lt_of_succ_le hs; try (have hlt1 : wr.heap.size < u1.heap.size := by omega); first | (have hbx := (Blk.new _ #[.int .i64 0, .int .i64 0, .int .i64 0] 30).kept hq) | (have hbx := (Blk.new _ #[.int .i64 0, .int .i64 0, .int .i64 0] 30).drew.kept hq) | skip)
                | (go_at_call 9; (with_reducible refine (SV _).out.mono ?_); rintro e u2 ⟨rfl, hq⟩; have hz : wr.heap.size ≤ u2.heap.size := (bnext (by go_split_ands; assumption) hq).size; obtain ⟨hcq, hfq⟩ := bcell hq; have hs := hq.size; try simp at hs; try replace hs := Nat.lt_of_succ_le hs; try (have hlt2 : wr.heap.size < u2.heap.size := by omega); first | (have hbx := (Blk.new _ #[.int .i64 0, .int .i64 0, .int .i64 0] 30).kept hq) | (have hbx := (Blk.new _ #[.int .i64 0, .int .i64 0, .int .i64 0] 30).drew.kept hq) | (have hbx := hbx.kept hq) | skip))) | fail
          all_goals
            go_split_ands
            have HF := Lib.hid (show Below wr.heap.size wr _ by assumption)
            first
              | (have HBX := Lib.hid (show Blk _ wr.heap.size #[.int .i64 p, .int .i64 q, .int .i64 r] 30 from (((Blk.kept hbx hq).set 0 (.int .i64 p)).set 1 (.int .i64 q)).set 2 (.int .i64 r)))
              | (have HBX := Lib.hid (show Blk _ _ #[.int .i64 p, .int .i64 q, .int .i64 r] 30 from ((hbx.set 0 (.int .i64 p)).set 1 (.int .i64 q)).set 2 (.int .i64 r)))
              | (have HBX := Lib.hid (Blk.new u2 #[.int .i64 p, .int .i64 q, .int .i64 r] 30))
            have hfd := HF.out.drew
            obtain ⟨_, d0, d1, d2⟩ := keepE HE.out hfd
            have hbd := HBX.out.drew
            obtain ⟨d3, d4, d5⟩ := hbd.c3
            go_wp2_with fail
            first | (go_region_with ((first
                | (go_at_call 11; (with_reducible refine (X1 _).out.mono ?_); rintro e u3 ⟨rfl, hq⟩; have hfd := bnext hfd hq; obtain ⟨_, t0, t1, t2⟩ := keepE HE.out hfd; have hbd := hbd.kept hq; obtain ⟨t3, t4, t5⟩ := hbd.c3)
                | (go_at_call 11; (with_reducible refine (X2 _).out.mono ?_); rintro e u3 ⟨rfl, hq⟩; have hfd := bnext hfd hq; obtain ⟨_, t0, t1, t2⟩ := keepE HE.out hfd; have hbd := hbd.kept hq; obtain ⟨t3, t4, t5⟩ := hbd.c3)))) | fail
            all_goals
              have HG := Lib.hid (show Below wr.heap.size wr _ by assumption)
              go_wp2_with fail
              go_round
              case rel => exact ⟨k + 1, by omega, by go_num, bnext HB.out HG.out, HS.out.kept HG.out⟩
              case measure => simp [intOf]; omega
        · have hk2 : k = 27 := by omega
          subst hk2
          clear HS
          have HB0 := HB
          go_wp2_with fail
          refine (PN _).out.mono ?_
          rintro e w1 ⟨rfl, hb⟩
          have HB1 := Lib.hid (bnext HB0.out hb)
          clear hb
          go_wp2_with fail
          refine (C3 _).out.mono ?_
          rintro e w2 ⟨rfl, hb⟩
          have HB2 := Lib.hid (bnext HB1.out hb)
          clear hb
          go_wp2_with fail
          refine (PM _).out.mono ?_
          rintro e w3 ⟨rfl, hb⟩
          have HB3 := Lib.hid (bnext HB2.out hb)
          clear hb
          go_wp2_with fail
          go_ret
          exact ⟨rfl, HB3.out⟩
    · have C1 := fun w => Lib.hid (implApre_of s v u w (fun w => implReadA_no s v u w (Nat.le_trans v1 (by decide)) hv))
      have C2 := fun w => Lib.hid (specApre_no s v u w (Nat.le_trans s1 (by decide)) (Nat.le_trans v1 (by decide)) hv)
      clear hv s1 v1 u1
      go_wp2_with fail
      refine (C1 _).out.mono ?_
      rintro e w2 ⟨rfl, hb⟩
      have HB2 := Lib.hid (bnext HB1.out hb)
      clear hb
      go_wp2_with fail
      refine (C2 _).out.mono ?_
      rintro e w3 ⟨rfl, hb⟩
      have HB3 := Lib.hid (bnext HB2.out hb)
      clear hb
      go_wp2_with fail
      go_ret
      exact ⟨rfl, HB3.out⟩

set_option linter.unusedVariables false in
set_option maxRecDepth 100000 in
theorem liftedAssign (os : Os) (started : os.Started) (H : Type) (enc : TypeId × Value → H) :
    ReturnsInHanded {} Try.checked os 3 .any (Rows.fnAssignSpec.pre6 enc Try.prog Try.f3 Rows.fnAssignRow.domain false) (Rows.fnAssignSpec.post enc Try.prog Try.f3 false true false false) := by
  refine returnsInHanded_of_change (C := Try.checked) Try.own started (by kernel_rfl) Try.func3
    (ChangeSpec.witness6 (enc := enc) (C := Try.checked) false ⟨#[], #[.slice none 0 0], []⟩ 8 (by kernel_rfl) (by kernel_rfl) (by kernel_rfl) (by kernel_rfl)) ?_
  intro W base args ds gs before hval0 hW hcnd _
  have hval : ∀ (j : Nat) t v, Try.f3.params[j]? = some t → args[j]? = some v → Value.okWide Try.prog W .any base t v := hval0
  have hW' := hW
  obtain ⟨p, q, hA0, hV, rfl, hfz, hnd⟩ := hW
  have hA : DataW.TrodAll enc Try.prog W 0 (fun _ => true) true Try.f3.params.toList args.toList ds p := hA0
  rw [Try.params3] at hA hval
  obtain ⟨v0, vs0, d0, ds0, p0, q0, hargs, rfl, rfl, h0, r0⟩ := trodAll_cons hA
  obtain ⟨rfl, rfl, rfl⟩ := trodAll_nil r0
  obtain rfl : args = #[v0] := by cases args; simp_all
  obtain ⟨rfl, rfl⟩ := trodVars_none hV
  obtain ⟨a0, len0, cap0, rfl⟩ := okWide_slice Try.underlying22 (hval 0 22 v0 rfl rfl)
  have k0 := h0
  have lt0 : ∀ x ∈ p0, x.block < W.heap.size := by obtain ⟨m, hm⟩ := k0; exact DataW.trod_lt m _ _ _ hm
  obtain ⟨z0, w0⟩ : ∃ zs, IsRow W a0 len0 cap0 zs := by
    obtain ⟨fuel, hf⟩ := h0
    rcases open_ints Try.underlying22 Try.underlying5 (by kernel_rfl) hf with ⟨hcs, _⟩ | ⟨x, l, c, zs, hcs, _, hl, hm, hz, _, hcell, hwz⟩
    · simp [Value.cells] at hcs
      obtain ⟨rfl, rfl, rfl⟩ := hcs
      exact ⟨[], .inl ⟨rfl, rfl, rfl, rfl⟩⟩
    · simp [Value.cells] at hcs
      obtain ⟨rfl, rfl, rfl⟩ := hcs
      exact ⟨zs, .inr ⟨_, rfl, hl, hm, by simpa using hz, hcell, hwz⟩⟩
  clear hA0 hval0
  refine (walkAssign W w0).mono fun e W' ⟨he, bel⟩ => ?_
  subst he
  exact ⟨_, rfl, _, _, _, [], _, [], hW', trodAll_mk1 (shut_bool Try.underlying4 _), (trodAll_cons_mk (Below.trod laidOut (by kernel_rfl) (of_decide_eq_true (by kernel_rfl)) k0 bel lt0) trodAll_mk0), rfl, bel.frame _, fun h => by cases h⟩

theorem assign_holds : Rows.FnAssignSaid :=
  OpenClaim.holds_of_wide 3 Try.f3 rfl rfl rfl rfl rfl rfl rfl ⟨rfl, rfl, rfl, rfl, rfl⟩ rfl rfl rfl rfl rfl (by kernel_rfl) Try.func3 (by kernel_rfl)
    (of_decide_eq_true (by kernel_rfl)) (by unfold Func.isWrapper; first | (rw [if_pos (by decide +kernel)]; kernel_rfl) | (rw [if_neg (by decide +kernel)]; exact ⟨rfl, rfl⟩))
    (fun os started H enc _ => liftedAssign os started H enc)

#print axioms assign_holds
end Go.Proofs.Ytehklmbkkidehaa
