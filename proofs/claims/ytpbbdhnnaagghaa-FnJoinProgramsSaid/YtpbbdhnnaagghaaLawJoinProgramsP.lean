/-
  The law of joined programs is true at all bytes: no condition.
-/
import Derived.Test.YtpbbdhnnaagghaaRows
import Derived.Test.YtpbbdhnnaagghaaDrawP
import Derived.Test.YtpbbdhnnaagghaaAll
import Derived.Test.YtpbbdhnnaagghaaPO
import Derived.Test.YtpbbdhnnaagghaaShP
import Derived.ProofKit
import Derived.OpenShut
import Derived.ShutString
import Derived.ChangeOld
namespace Go.Proofs.Ytpbbdhnnaagghaa
open Go.ChangeShapes Go.WideShapes Go.ChangeAt Go.RowKit
open Go.ChangeMaps (open_string shut_string)

theorem Try.own : ownKnob Try.prog.godebug = none := by kernel_rfl
theorem laidOut : laidOutB Try.prog = true := by kernel_rfl

def strLen : Value → Nat
  | .string s => s.size
  | _ => 0
theorem cat_size2 (s : ByteArray) : ((⟨#[59, 115]⟩ : ByteArray) ++ s).size = 2 + s.size := by simp [ByteArray.size_append]; rfl

set_option maxHeartbeats 4000000 in
theorem drawJP {a : Option Addr} {len cap : Nat} {zs : List Int} {w : World} (h : IsRow w a len cap zs) :
    Calls Try.prog 27 #[.slice a len cap] w fun e w' => ∃ p q : ByteArray, p.size ≤ 200 ∧ q.size ≤ 200 ∧ e = .returned (.tuple #[.string p, .string q]) ∧ Below w.heap.size w w' := by
  have HO := Lib.hid (open_any h)
  clear h
  go_enter Try.func27, Try.ntmps27
  go_wp2_with fail
  refine HO.out.mono ?_
  rintro e w1 ⟨rfl, hr, hb⟩
  have HW1 := Lib.hid hb
  have HC := Lib.hid (open3 hr (by omega))
  clear hr hb
  go_wp2_with fail
  refine HC.out.mono ?_
  rintro e w2 ⟨p, q2, p1, p2, hq2, rfl, hr, hk⟩
  have HW2 := Lib.hid (HW1.out.trans (hk.below (Nat.le_refl _) HW1.out.size))
  have HC := Lib.hid (open3 hr (by omega))
  clear hr hk
  go_wp2_with fail
  refine HC.out.mono ?_
  rintro e w3 ⟨q, q3, q11, q12, hq3, rfl, hr, hk⟩
  have HW3 := Lib.hid (HW2.out.trans (hk.below (Nat.le_refl _) HW2.out.size))
  have HC := Lib.hid (pick_any 20 hr (by omega) (by omega) (by omega))
  clear hr hk
  go_wp2_with fail
  refine HC.out.mono ?_
  rintro e w4 ⟨k, k0, k1, rfl, hr, hk⟩
  have HW4 := Lib.hid (HW3.out.trans (hk.below (Nat.le_refl _) HW3.out.size))
  clear hr hk HC
  by_cases e0 : k = 0
  · subst e0
    go_wp2_with fail
    go_loop [5] (fun v => ∃ s : ByteArray, s.size ≤ 182 ∧ v = .string s) (fun v => 200 - strLen v)
    case atStart => exact ⟨p, by omega, rfl⟩
    case round =>
      obtain ⟨s, hs, rfl⟩ := hrel
      by_cases hlt : (s.size : Int) < 180
      · have n1 : ¬ 9223372036854775807 < 2 + s.size := by omega
        have hz := Lib.hid (cat_size2 s)
        go_wp2_with fail
        go_round
        case rel => exact ⟨_, by rw [hz.out]; omega, rfl⟩
        case measure => show 200 - ((⟨#[59, 115]⟩ : ByteArray) ++ s).size < 200 - s.size; rw [hz.out]; omega
      · go_wp2_with fail
        go_ret2
        exact ⟨s, by omega, q, by omega, rfl, HW4.out⟩
  · have g0 : (k == 0) = false := by rw [beq_eq_false_iff_ne]; exact e0
    clear e0
    go_wp2_with fail
    go_ret2
    exact ⟨p, q, by omega, by omega, rfl, HW4.out⟩
theorem show_seq (a b : Pg) : bs (shP (.seq a b)) = bs (shP a) ++ (⟨#[59, 32]⟩ : ByteArray) ++ bs (shP b) := by
  rw [show (⟨#[59, 32]⟩ : ByteArray) = bs [59, 32] from rfl, bs_append, bs_append]; rfl
theorem join_ser {p q : ByteArray} {a b : Pg} (h1 : p.data.toList = a.ser) (h2 : q.data.toList = b.ser) : ((⟨#[59]⟩ : ByteArray) ++ p ++ q).data.toList = (Pg.seq a b).ser := by
  simp [ByteArray.data_append, h1, h2, Pg.ser]
theorem join_size (p q : ByteArray) : ((⟨#[59]⟩ : ByteArray) ++ p ++ q).size = 1 + p.size + q.size := by simp [ByteArray.size_append]; rfl

set_option maxRecDepth 100000 in
set_option maxHeartbeats 16000000 in
theorem walkJoinPrograms {a0 : Option Addr} {len0 cap0 : Nat} {z0 : List Int} (w : World) (h0 : IsRow w a0 len0 cap0 z0) :
    Calls Try.prog 6 #[.slice a0 len0 cap0] w fun e w' => e = .returned (.bool true) ∧ Below w.heap.size w w' := by
  have D := Lib.hid (drawJP h0)
  clear h0
  by_cases hl : (1048576 : Int) < len0
  · go_enter Try.func6, Try.ntmps6
    go_wp2_with fail
    go_ret
    exact ⟨rfl, Below.refl _ _⟩
  · go_enter Try.func6, Try.ntmps6
    go_wp2_with fail
    refine D.out.mono ?_
    rintro e w1 ⟨p, q, hp, hq, rfl, hb⟩
    have HB1 := Lib.hid hb
    clear hb D
    by_cases hv : IsP p ∧ IsP q ∧ p.size + q.size < 200
    · obtain ⟨v1, v2, v3⟩ := hv
      have C1 := fun w => Lib.hid (implJoin_yes p q w v1 v2 v3)
      have C2 := fun w => Lib.hid (specJoin_yes p q w v1 v2 v3)
      obtain ⟨⟨a, ha, hsa⟩, la⟩ := v1
      obtain ⟨⟨b, hb, hsb⟩, lb⟩ := v2
      have hx := join_ser hsa hsb
      have hxs := join_size p q
      have hok : (Pg.seq a b).ok false := ⟨ha, hb⟩
      have ta := text_eq hsa
      have tb := text_eq hsb
      have sa := shP_len ha
      have sb := shP_len hb
      have la2 : a.ser.length ≤ 200 := by have := congrArg List.length hsa; simp at this; omega
      have lb2 : b.ser.length ≤ 200 := by have := congrArg List.length hsb; simp at this; omega
      have S1 := fun w => Lib.hid (implSize_yes p w ha hsa la)
      have S2 := fun w => Lib.hid (implSize_yes q w hb hsb lb)
      have H1 := fun w => Lib.hid (implShow_yes p w ha hsa la)
      have H2 := fun w => Lib.hid (implShow_yes q w hb hsb lb)
      have n1 := a.all_le
      have n2 := b.all_le
      generalize (⟨#[59]⟩ : ByteArray) ++ p ++ q = x at *
      have C3 := fun w => Lib.hid (implParts_yes x w hok hx (by omega))
      have C4 := fun w => Lib.hid (implPV_yes x w hok hx (by omega))
      have S3 := fun w => Lib.hid (implSize_yes x w hok hx (by omega))
      have H3 := fun w => Lib.hid (implShow_yes x w hok hx (by omega))
      rw [show strs ((Pg.seq a b).pks.map Pg.ser) = [.string p, .string q] by rw [ta, tb]; rfl] at C3
      rw [show ((Pg.seq a b).all.length : Int) = (a.all.length : Int) + (b.all.length : Int) + 1 by simp [Pg.all]] at S3
      rw [show_seq] at H3
      have za : (bs (shP a)).size ≤ 4000 := by rw [bs_size]; omega
      have zb : (bs (shP b)).size ≤ 4000 := by rw [bs_size]; omega
      clear hok hx hxs ta tb sa sb ha hb hsa hsb
      generalize bs (shP a) = A at *
      generalize bs (shP b) = B at *
      generalize a.all.length = M at *
      generalize b.all.length = N at *
      have f1 : ¬ 9223372036854775807 < A.size + 2 := by omega
      have f2 : ¬ 9223372036854775807 < A.size + 2 + B.size := by omega
      have w1' : IntKind.i64.wrap ((M : Int) + (N : Int)) = (M : Int) + (N : Int) := IntWalk.i64_in _ (by omega)
      have w2' : IntKind.i64.wrap ((M : Int) + (N : Int) + 1) = (M : Int) + (N : Int) + 1 := IntWalk.i64_in _ (by omega)
      go_wp2_with fail
      refine (C1 _).out.mono ?_
      rintro e w2 ⟨rfl, hb⟩
      have HB2 := Lib.hid (bnext HB1.out hb)
      clear hb
      go_wp2_with fail
      refine (C2 _).out.mono ?_
      rintro e w3 ⟨rfl, hb⟩
      have HB3 := Lib.hid (bnext HB2.out hb)
      clear hb
      go_wp2_with fail
      refine (C3 _).out.mono ?_
      rintro e w4 ⟨sl, rfl, hrow, hb⟩
      have HB4 := Lib.hid (bnext HB3.out hb)
      obtain ⟨g, cap, rfl, c04, c14⟩ := hrow.two
      clear hb hrow
      go_wp2_with fail
      refine (C4 _).out.mono ?_
      rintro e w5 ⟨rfl, hb⟩
      have HB5 := Lib.hid (bnext HB4.out hb)
      have c05 := ckeep hb c04
      have c15 := ckeep hb c14
      clear hb c04 c14
      go_wp2_with fail
      refine (S3 _).out.mono ?_
      rintro e w6 ⟨rfl, hb⟩
      have HB6 := Lib.hid (bnext HB5.out hb)
      clear hb
      go_wp2_with fail
      refine (S1 _).out.mono ?_
      rintro e w7 ⟨rfl, hb⟩
      have HB7 := Lib.hid (bnext HB6.out hb)
      clear hb
      go_wp2_with fail
      refine (S2 _).out.mono ?_
      rintro e w8 ⟨rfl, hb⟩
      have HB8 := Lib.hid (bnext HB7.out hb)
      clear hb
      go_wp2_with fail
      refine (H3 _).out.mono ?_
      rintro e w9 ⟨rfl, hb⟩
      have HB9 := Lib.hid (bnext HB8.out hb)
      clear hb
      go_wp2_with fail
      refine (H1 _).out.mono ?_
      rintro e w10 ⟨rfl, hb⟩
      have HB10 := Lib.hid (bnext HB9.out hb)
      clear hb
      go_wp2_with fail
      refine (H2 _).out.mono ?_
      rintro e w11 ⟨rfl, hb⟩
      have HB11 := Lib.hid (bnext HB10.out hb)
      clear hb
      go_wp2_with fail
      go_ret
      exact ⟨rfl, HB11.out⟩
    · have C1 := fun w => Lib.hid (implJoin_no p q w (by omega) (by omega) hv)
      have C2 := fun w => Lib.hid (specJoin_no p q w (by omega) (by omega) hv)
      clear hv
      go_wp2_with fail
      refine (C1 _).out.mono ?_
      rintro e w2 ⟨rfl, hb⟩
      have HB2 := Lib.hid (bnext HB1.out hb)
      clear hb
      go_wp2_with fail
      refine (C2 _).out.mono ?_
      rintro e w3 ⟨rfl, hb⟩
      have HB3 := Lib.hid (bnext HB2.out hb)
      clear hb
      go_wp2_with fail
      go_ret
      exact ⟨rfl, HB3.out⟩

set_option linter.unusedVariables false in
set_option maxRecDepth 100000 in
theorem liftedJoinPrograms (os : Os) (started : os.Started) (H : Type) (enc : TypeId × Value → H) :
    ReturnsInHanded {} Try.checked os 6 .any (Rows.fnJoinProgramsSpec.pre6 enc Try.prog Try.f6 Rows.fnJoinProgramsRow.domain false) (Rows.fnJoinProgramsSpec.post enc Try.prog Try.f6 false true false false) := by
  refine returnsInHanded_of_change (C := Try.checked) Try.own started (by kernel_rfl) Try.func6
    (ChangeSpec.witness6 (enc := enc) (C := Try.checked) false ⟨#[], #[.slice none 0 0], []⟩ 8 (by kernel_rfl) (by kernel_rfl) (by kernel_rfl) (by kernel_rfl)) ?_
  intro W base args ds gs before hval0 hW hcnd _
  have hval : ∀ (j : Nat) t v, Try.f6.params[j]? = some t → args[j]? = some v → Value.okWide Try.prog W .any base t v := hval0
  have hW' := hW
  obtain ⟨p, q, hA0, hV, rfl, hfz, hnd⟩ := hW
  have hA : DataW.TrodAll enc Try.prog W 0 (fun _ => true) true Try.f6.params.toList args.toList ds p := hA0
  rw [Try.params6] at hA hval
  obtain ⟨v0, vs0, d0, ds0, p0, q0, hargs, rfl, rfl, h0, r0⟩ := trodAll_cons hA
  obtain ⟨rfl, rfl, rfl⟩ := trodAll_nil r0
  obtain rfl : args = #[v0] := by cases args; simp_all
  obtain ⟨rfl, rfl⟩ := trodVars_none hV
  obtain ⟨a0, len0, cap0, rfl⟩ := okWide_slice Try.underlying22 (hval 0 22 v0 rfl rfl)
  have k0 := h0
  have lt0 : ∀ x ∈ p0, x.block < W.heap.size := by obtain ⟨m, hm⟩ := k0; exact DataW.trod_lt m _ _ _ hm
  obtain ⟨z0, w0⟩ : ∃ zs, IsRow W a0 len0 cap0 zs := by
    obtain ⟨fuel, hf⟩ := h0
    rcases open_ints Try.underlying22 Try.underlying5 (by kernel_rfl) hf with ⟨hcs, _⟩ | ⟨x, l, c, zs, hcs, _, hl, hm, hz, _, hcell, hwz⟩
    · simp [Value.cells] at hcs
      obtain ⟨rfl, rfl, rfl⟩ := hcs
      exact ⟨[], .inl ⟨rfl, rfl, rfl, rfl⟩⟩
    · simp [Value.cells] at hcs
      obtain ⟨rfl, rfl, rfl⟩ := hcs
      exact ⟨zs, .inr ⟨_, rfl, hl, hm, by simpa using hz, hcell, hwz⟩⟩
  clear hA0 hval0
  refine (walkJoinPrograms W w0).mono fun e W' ⟨he, bel⟩ => ?_
  subst he
  exact ⟨_, rfl, _, _, _, [], _, [], hW', trodAll_mk1 (shut_bool Try.underlying4 _), (trodAll_cons_mk (Below.trod laidOut (by kernel_rfl) (of_decide_eq_true (by kernel_rfl)) k0 bel lt0) trodAll_mk0), rfl, bel.frame _, fun h => by cases h⟩

theorem joinPrograms_holds : Rows.FnJoinProgramsSaid :=
  OpenClaim.holds_of_wide 6 Try.f6 rfl rfl rfl rfl rfl rfl rfl ⟨rfl, rfl, rfl, rfl, rfl⟩ rfl rfl rfl rfl rfl (by kernel_rfl) Try.func6 (by kernel_rfl)
    (of_decide_eq_true (by kernel_rfl)) (by unfold Func.isWrapper; first | (rw [if_pos (by decide +kernel)]; kernel_rfl) | (rw [if_neg (by decide +kernel)]; exact ⟨rfl, rfl⟩))
    (fun os started H enc _ => liftedJoinPrograms os started H enc)

#print axioms joinPrograms_holds
end Go.Proofs.Ytpbbdhnnaagghaa
