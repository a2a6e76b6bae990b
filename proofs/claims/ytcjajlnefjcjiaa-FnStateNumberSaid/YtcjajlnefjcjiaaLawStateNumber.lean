/-
  The law of the number and the text of a state is true at all bytes: no condition.
-/
import Derived.Test.YtcjajlnefjcjiaaRows
import Derived.Test.YtcjajlnefjcjiaaParseSt
import Derived.Test.YtcjajlnefjcjiaaDrawS
import Derived.ProofKit
import Derived.OpenShut
import Derived.ShutString
import Derived.ChangeOld
namespace Go.Proofs.Ytcjajlnefjcjiaa
open Go.ChangeShapes Go.WideShapes Go.ChangeAt Go.RowKit
open Go.ChangeMaps (open_string shut_string)

theorem Try.own : ownKnob Try.prog.godebug = none := by kernel_rfl
theorem laidOut : laidOutB Try.prog = true := by kernel_rfl

theorem at_back {x y z : Int} (h : st3 x y z = true) (w : World) : Calls Try.prog 16 #[.int .i64 (x + 3 * y + 9 * z)] w fun e w' => e = .returned (.tuple #[.agg #[.int .i64 x, .int .i64 y, .int .i64 z], .bool true]) ∧ Below w.heap.size w w' := by
  obtain ⟨h1, h2, h3, h4, h5, h6⟩ := st3_lt h
  have k := implAt_yes (x + 3 * y + 9 * z) w (by omega) (by omega)
  obtain ⟨e1, e2, e3⟩ := ix_at h
  rw [e1, e2, e3] at k
  exact k
theorem parse_back {x y z : Int} (h : st3 x y z = true) (w : World) : Calls Try.prog 17 #[.string (txt3 x y z)] w fun e w' => e = .returned (.tuple #[.agg #[.int .i64 x, .int .i64 y, .int .i64 z], .bool true]) ∧ Below w.heap.size w w' := by
  obtain ⟨h1, h2, h3, h4, h5, h6⟩ := st3_lt h
  have k := implParse_yes (x + 3 * y + 9 * z).toNat (by omega) w
  obtain ⟨e1, e2, e3⟩ := ix_at h
  have e : (((x + 3 * y + 9 * z).toNat : Nat) : Int) = x + 3 * y + 9 * z := by omega
  rw [txtAt, e, e1, e2, e3] at k
  exact k

set_option maxRecDepth 100000 in
set_option maxHeartbeats 8000000 in
theorem walkStateNumber {a0 : Option Addr} {len0 cap0 : Nat} {z0 : List Int} (w : World) (h0 : IsRow w a0 len0 cap0 z0) :
    Calls Try.prog 4 #[.slice a0 len0 cap0] w fun e w' => e = .returned (.bool true) ∧ Below w.heap.size w w' := by
  have D := Lib.hid (drawSI h0)
  clear h0
  by_cases hl : (1048576 : Int) < len0
  · go_enter Try.func4, Try.ntmps4
    go_wp2_with fail
    go_ret
    exact ⟨rfl, Below.refl _ _⟩
  · go_enter Try.func4, Try.ntmps4
    go_wp2_with fail
    refine D.out.mono ?_
    rintro e w1 ⟨x, y, z, rfl, hb⟩
    have HB1 := Lib.hid (bput hb (.cells #[.int .i64 x, .int .i64 y, .int .i64 z] 24))
    have HK1 := Lib.hid (Blk.new w1 #[.int .i64 x, .int .i64 y, .int .i64 z] 24)
    clear hb
    cases hst : st3 x y z
    · have C1 := fun w => Lib.hid (implIx_no x y z w hst)
      have C2 := fun w => Lib.hid (implFmt_no x y z w hst)
      have C3 := fun w => Lib.hid (specIx_no x y z w hst)
      have C4 := fun w => Lib.hid (specFmt_no x y z w hst)
      have C5 := fun w => Lib.hid (implStateValid x y z w)
      rw [hst] at C5
      clear hst
      go_wp2_with fail
      refine (C1 _).out.mono ?_
      rintro e w2 ⟨rfl, hb⟩
      have HB2 := Lib.hid (bnext HB1.out hb)
      have HK2 := Lib.hid (HK1.out.kept hb)
      clear hb
      obtain ⟨q0, q1, q2⟩ := HK2.out.c3
      have hlt := HK2.out.lt
      go_wp2_with fail
      refine (C2 _).out.mono ?_
      rintro e w3 ⟨rfl, hb⟩
      have HB3 := Lib.hid (bnext HB2.out hb)
      have HK3 := Lib.hid (HK2.out.kept hb)
      clear hb
      obtain ⟨q0, q1, q2⟩ := HK3.out.c3
      have hlt := HK3.out.lt
      go_wp2_with fail
      refine (C3 _).out.mono ?_
      rintro e w4 ⟨rfl, hb⟩
      have HB4 := Lib.hid (bnext HB3.out hb)
      have HK4 := Lib.hid (HK3.out.kept hb)
      clear hb
      obtain ⟨q0, q1, q2⟩ := HK4.out.c3
      have hlt := HK4.out.lt
      go_wp2_with fail
      refine (C4 _).out.mono ?_
      rintro e w5 ⟨rfl, hb⟩
      have HB5 := Lib.hid (bnext HB4.out hb)
      have HK5 := Lib.hid (HK4.out.kept hb)
      clear hb
      obtain ⟨q0, q1, q2⟩ := HK5.out.c3
      have hlt := HK5.out.lt
      go_wp2_with fail
      refine (C5 _).out.mono ?_
      rintro e w6 ⟨rfl, hb⟩
      have HB6 := Lib.hid (bnext HB5.out hb)
      have HK6 := Lib.hid (HK5.out.kept hb)
      clear hb
      obtain ⟨q0, q1, q2⟩ := HK6.out.c3
      have hlt := HK6.out.lt
      go_wp2_with fail
      refine (C3 _).out.mono ?_
      rintro e w7 ⟨rfl, hb⟩
      have HB7 := Lib.hid (bnext HB6.out hb)
      have HK7 := Lib.hid (HK6.out.kept hb)
      clear hb
      obtain ⟨q0, q1, q2⟩ := HK7.out.c3
      have hlt := HK7.out.lt
      go_wp2_with fail
      refine (C4 _).out.mono ?_
      rintro e w8 ⟨rfl, hb⟩
      have HB8 := Lib.hid (bnext HB7.out hb)
      have HK8 := Lib.hid (HK7.out.kept hb)
      clear hb
      obtain ⟨q0, q1, q2⟩ := HK8.out.c3
      have hlt := HK8.out.lt
      go_wp2_with fail
      refine (C5 _).out.mono ?_
      rintro e w9 ⟨rfl, hb⟩
      have HB9 := Lib.hid (bnext HB8.out hb)
      have HK9 := Lib.hid (HK8.out.kept hb)
      clear hb
      obtain ⟨q0, q1, q2⟩ := HK9.out.c3
      have hlt := HK9.out.lt
      go_wp2_with fail
      go_ret
      exact ⟨rfl, HB9.out⟩
    · have C1 := fun w => Lib.hid (implIx_yes x y z w hst)
      have C2 := fun w => Lib.hid (implFmt_yes x y z w hst)
      have C3 := fun w => Lib.hid (specIx_yes x y z w hst)
      have C4 := fun w => Lib.hid (specFmt_yes x y z w hst)
      have C5 := fun w => Lib.hid (implStateValid x y z w)
      have C6 := fun w => Lib.hid (at_back hst w)
      have C7 := fun w => Lib.hid (parse_back hst w)
      rw [hst] at C5
      obtain ⟨b1, b2, b3, b4, b5, b6⟩ := st3_lt hst
      have hp : (0 : Int) ≤ x + 3 * y + 9 * z := by omega
      have hp2 : x + 3 * y + 9 * z < 27 := by omega
      have hp3 : ¬ x + 3 * y + 9 * z < 0 := by omega
      have hd : decide ((0 : Int) ≤ x + 3 * y + 9 * z) = true := decide_eq_true hp
      have hd2 : decide (x + 3 * y + 9 * z < 0) = false := decide_eq_false hp3
      have hsz : (txt3 x y z).size = 3 := by simp [txt3, bs_size]
      clear hst b1 b2 b3 b4 b5 b6
      go_wp2_with fail
      refine (C1 _).out.mono ?_
      rintro e w2 ⟨rfl, hb⟩
      have HB2 := Lib.hid (bnext HB1.out hb)
      have HK2 := Lib.hid (HK1.out.kept hb)
      clear hb
      obtain ⟨q0, q1, q2⟩ := HK2.out.c3
      have hlt := HK2.out.lt
      go_wp2_with fail
      refine (C2 _).out.mono ?_
      rintro e w3 ⟨rfl, hb⟩
      have HB3 := Lib.hid (bnext HB2.out hb)
      have HK3 := Lib.hid (HK2.out.kept hb)
      clear hb
      obtain ⟨q0, q1, q2⟩ := HK3.out.c3
      have hlt := HK3.out.lt
      go_wp2_with fail
      refine (C3 _).out.mono ?_
      rintro e w4 ⟨rfl, hb⟩
      have HB4 := Lib.hid (bnext HB3.out hb)
      have HK4 := Lib.hid (HK3.out.kept hb)
      clear hb
      obtain ⟨q0, q1, q2⟩ := HK4.out.c3
      have hlt := HK4.out.lt
      go_wp2_with fail
      refine (C4 _).out.mono ?_
      rintro e w5 ⟨rfl, hb⟩
      have HB5 := Lib.hid (bnext HB4.out hb)
      have HK5 := Lib.hid (HK4.out.kept hb)
      clear hb
      obtain ⟨q0, q1, q2⟩ := HK5.out.c3
      have hlt := HK5.out.lt
      go_wp2_with fail
      refine (C5 _).out.mono ?_
      rintro e w6 ⟨rfl, hb⟩
      have HB6 := Lib.hid (bnext HB5.out hb)
      have HK6 := Lib.hid (HK5.out.kept hb)
      clear hb
      obtain ⟨q0, q1, q2⟩ := HK6.out.c3
      have hlt := HK6.out.lt
      go_wp2_with fail
      refine (C6 _).out.mono ?_
      rintro e w7 ⟨rfl, hb⟩
      have HB7 := Lib.hid (bput (bnext HB6.out hb) (.cells #[.int .i64 x, .int .i64 y, .int .i64 z] 24))
      have HK7 := Lib.hid ((HK6.out.kept hb).alloc (.cells #[.int .i64 x, .int .i64 y, .int .i64 z] 24))
      have HN7 := Lib.hid (Blk.new w7 #[.int .i64 x, .int .i64 y, .int .i64 z] 24)
      clear hb
      obtain ⟨q0, q1, q2⟩ := HK7.out.c3
      have hlt := HK7.out.lt
      obtain ⟨p0, p1, p2⟩ := HN7.out.c3
      go_wp2_with fail
      refine (C7 _).out.mono ?_
      rintro e w8 ⟨rfl, hb⟩
      have HB8 := Lib.hid (bput (bnext HB7.out hb) (.cells #[.int .i64 x, .int .i64 y, .int .i64 z] 24))
      have HK8 := Lib.hid ((HK7.out.kept hb).alloc (.cells #[.int .i64 x, .int .i64 y, .int .i64 z] 24))
      have HN8 := Lib.hid (Blk.new w8 #[.int .i64 x, .int .i64 y, .int .i64 z] 24)
      have HN7b := Lib.hid ((HN7.out.kept hb).alloc (.cells #[.int .i64 x, .int .i64 y, .int .i64 z] 24))
      clear hb
      obtain ⟨q0, q1, q2⟩ := HK8.out.c3
      have hlt := HK8.out.lt
      obtain ⟨p0, p1, p2⟩ := HN8.out.c3
      obtain ⟨r0, r1, r2⟩ := HN7b.out.c3
      have hltr := HN7b.out.lt
      go_wp2_with fail
      go_ret
      exact ⟨rfl, HB8.out⟩

set_option linter.unusedVariables false in
set_option maxRecDepth 100000 in
theorem liftedStateNumber (os : Os) (started : os.Started) (H : Type) (enc : TypeId × Value → H) :
    ReturnsInHanded {} Try.checked os 4 .any (Rows.fnStateNumberSpec.pre6 enc Try.prog Try.f4 Rows.fnStateNumberRow.domain false) (Rows.fnStateNumberSpec.post enc Try.prog Try.f4 false true false false) := by
  refine returnsInHanded_of_change (C := Try.checked) Try.own started (by kernel_rfl) Try.func4
    (ChangeSpec.witness6 (enc := enc) (C := Try.checked) false ⟨#[], #[.slice none 0 0], []⟩ 8 (by kernel_rfl) (by kernel_rfl) (by kernel_rfl) (by kernel_rfl)) ?_
  intro W base args ds gs before hval0 hW hcnd _
  have hval : ∀ (j : Nat) t v, Try.f4.params[j]? = some t → args[j]? = some v → Value.okWide Try.prog W .any base t v := hval0
  have hW' := hW
  obtain ⟨p, q, hA0, hV, rfl, hfz, hnd⟩ := hW
  have hA : DataW.TrodAll enc Try.prog W 0 (fun _ => true) true Try.f4.params.toList args.toList ds p := hA0
  rw [Try.params4] at hA hval
  obtain ⟨v0, vs0, d0, ds0, p0, q0, hargs, rfl, rfl, h0, r0⟩ := trodAll_cons hA
  obtain ⟨rfl, rfl, rfl⟩ := trodAll_nil r0
  obtain rfl : args = #[v0] := by cases args; simp_all
  obtain ⟨rfl, rfl⟩ := trodVars_none hV
  obtain ⟨a0, len0, cap0, rfl⟩ := okWide_slice Try.underlying22 (hval 0 22 v0 rfl rfl)
  have k0 := h0
  have lt0 : ∀ x ∈ p0, x.block < W.heap.size := by obtain ⟨m, hm⟩ := k0; exact DataW.trod_lt m _ _ _ hm
  obtain ⟨z0, w0⟩ : ∃ zs, IsRow W a0 len0 cap0 zs := by
    obtain ⟨fuel, hf⟩ := h0
    rcases open_ints Try.underlying22 Try.underlying5 (by kernel_rfl) hf with ⟨hcs, _⟩ | ⟨x, l, c, zs, hcs, _, hl, hm, hz, _, hcell, hwz⟩
    · simp [Value.cells] at hcs
      obtain ⟨rfl, rfl, rfl⟩ := hcs
      exact ⟨[], .inl ⟨rfl, rfl, rfl, rfl⟩⟩
    · simp [Value.cells] at hcs
      obtain ⟨rfl, rfl, rfl⟩ := hcs
      exact ⟨zs, .inr ⟨_, rfl, hl, hm, by simpa using hz, hcell, hwz⟩⟩
  clear hA0 hval0
  refine (walkStateNumber W w0).mono fun e W' ⟨he, bel⟩ => ?_
  subst he
  exact ⟨_, rfl, _, _, _, [], _, [], hW', trodAll_mk1 (shut_bool Try.underlying4 _), (trodAll_cons_mk (Below.trod laidOut (by kernel_rfl) (of_decide_eq_true (by kernel_rfl)) k0 bel lt0) trodAll_mk0), rfl, bel.frame _, fun h => by cases h⟩

theorem stateNumber_holds : Rows.FnStateNumberSaid :=
  OpenClaim.holds_of_wide 4 Try.f4 rfl rfl rfl rfl rfl rfl rfl ⟨rfl, rfl, rfl, rfl, rfl⟩ rfl rfl rfl rfl rfl (by kernel_rfl) Try.func4 (by kernel_rfl)
    (of_decide_eq_true (by kernel_rfl)) (by unfold Func.isWrapper; first | (rw [if_pos (by decide +kernel)]; kernel_rfl) | (rw [if_neg (by decide +kernel)]; exact ⟨rfl, rfl⟩))
    (fun os started H enc _ => liftedStateNumber os started H enc)

#print axioms stateNumber_holds
end Go.Proofs.Ytcjajlnefjcjiaa
