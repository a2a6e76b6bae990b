/-
  The law of the text and the number of a state is true at all bytes: no condition.
-/
import Derived.Test.YtcjajlnefjcjiaaRows
import Derived.Test.YtcjajlnefjcjiaaParseSt
import Derived.Test.YtcjajlnefjcjiaaDrawT
import Derived.ProofKit
import Derived.OpenShut
import Derived.ShutString
import Derived.ChangeOld
namespace Go.Proofs.Ytcjajlnefjcjiaa
open Go.ChangeShapes Go.WideShapes Go.ChangeAt Go.RowKit
open Go.ChangeMaps (open_string shut_string)

theorem Try.own : ownKnob Try.prog.godebug = none := by kernel_rfl
theorem laidOut : laidOutB Try.prog = true := by kernel_rfl

theorem IsRow.kept {w w' : World} {a : Option Addr} {len cap : Nat} {zs : List Int} (h : IsRow w a len cap zs) (hb : Below w.heap.size w w') : IsRow w' a len cap zs := by
  rcases h with h | ⟨x, rfl, hl, hm, hz, hc, hw⟩
  · exact .inl h
  · exact .inr ⟨x, rfl, hl, hm, hz, fun i hi => by
      have h1 := hc i hi
      have hlt := World.block_lt_of_cell? w _ h1
      exact (hb.cell hlt).trans h1, hw⟩

set_option maxRecDepth 100000 in
set_option maxHeartbeats 8000000 in
theorem textStep {a0 a1 : Option Addr} {len0 cap0 len1 cap1 : Nat} {z1 : List Int} (w : World) (hl0 : ¬ (1048576 : Int) < len0) (hl1 : ¬ (1048576 : Int) < len1)
    (d0 : Calls Try.prog 18 #[.slice a0 len0 cap0] w fun e w' => ∃ t : ByteArray, e = .returned (.string t) ∧ Below w.heap.size w w')
    (d1 : IsRow w a1 len1 cap1 z1)
    (cp : ∀ t : ByteArray, ∃ p q r b, (∀ w, Hid (Calls Try.prog 17 #[.string t] w fun e w' => e = .returned (.tuple #[.agg #[.int .i64 p, .int .i64 q, .int .i64 r], .bool b]) ∧ Below w.heap.size w w')) ∧
      (∀ w, Hid (Calls Try.prog 19 #[.string t] w fun e w' => e = .returned (.tuple #[.agg #[.int .i64 p, .int .i64 q, .int .i64 r], .bool b]) ∧ Below w.heap.size w w')) ∧
      (b = true → ∀ w, Hid (Calls Try.prog 13 #[.agg #[.int .i64 p, .int .i64 q, .int .i64 r]] w fun e w' => e = .returned (.string t) ∧ Below w.heap.size w w')))
    (ca : ∀ i : Int, ∃ p q r b, (∀ w, Hid (Calls Try.prog 16 #[.int .i64 i] w fun e w' => e = .returned (.tuple #[.agg #[.int .i64 p, .int .i64 q, .int .i64 r], .bool b]) ∧ Below w.heap.size w w')) ∧
      (∀ w, Hid (Calls Try.prog 21 #[.int .i64 i] w fun e w' => e = .returned (.tuple #[.agg #[.int .i64 p, .int .i64 q, .int .i64 r], .bool b]) ∧ Below w.heap.size w w')) ∧
      (b = true → ∀ w, Hid (Calls Try.prog 12 #[.agg #[.int .i64 p, .int .i64 q, .int .i64 r]] w fun e w' => e = .returned (.int .i64 i) ∧ Below w.heap.size w w'))) :
    Calls Try.prog 5 #[.slice a0 len0 cap0, .slice a1 len1 cap1] w fun e w' => e = .returned (.bool true) ∧ Below w.heap.size w w' := by
  have D0 := Lib.hid d0
  have D1 := Lib.hid d1
  have CP := Lib.hid cp
  have CA := Lib.hid ca
  clear d0 d1 cp ca
  go_enter Try.func5, Try.ntmps5
  go_wp2_with fail
  refine D0.out.mono ?_
  rintro e w1 ⟨t, rfl, hb⟩
  have HB1 := Lib.hid hb
  clear hb
  obtain ⟨p, q, r, b, C1, C2, C3⟩ := CP.out t
  have HC3 := Lib.hid C3
  clear C3
  go_wp2_with fail
  refine (C1 _).out.mono ?_
  rintro e w2 ⟨rfl, hb⟩
  have HB2 := Lib.hid (bput (bnext HB1.out hb) (.cells #[.int .i64 p, .int .i64 q, .int .i64 r] 24))
  have HS2 := Lib.hid (Blk.new w2 #[.int .i64 p, .int .i64 q, .int .i64 r] 24)
  clear hb
  go_wp2_with fail
  refine (C2 _).out.mono ?_
  rintro e w3 ⟨rfl, hb⟩
  have HB3 := Lib.hid (bput (bnext HB2.out hb) (.cells #[.int .i64 p, .int .i64 q, .int .i64 r] 24))
  have HS3 := Lib.hid ((HS2.out.kept hb).alloc (.cells #[.int .i64 p, .int .i64 q, .int .i64 r] 24))
  have HT3 := Lib.hid (Blk.new w3 #[.int .i64 p, .int .i64 q, .int .i64 r] 24)
  clear hb
  go_wp2_with fail
  refine (drawSA (D1.out.kept HB3.out)).mono ?_
  rintro e w4 ⟨i, rfl, hb⟩
  have HB4 := Lib.hid (bnext HB3.out hb)
  have HS4 := Lib.hid (HS3.out.kept hb)
  have HT4 := Lib.hid (HT3.out.kept hb)
  clear hb
  obtain ⟨p', q', r', b', E1, E2, E3⟩ := CA.out i
  have HE3 := Lib.hid E3
  clear E3
  go_wp2_with fail
  refine (E1 _).out.mono ?_
  rintro e w5 ⟨rfl, hb⟩
  have HB5 := Lib.hid (bput (bnext HB4.out hb) (.cells #[.int .i64 p', .int .i64 q', .int .i64 r'] 24))
  have HS5 := Lib.hid ((HS4.out.kept hb).alloc (.cells #[.int .i64 p', .int .i64 q', .int .i64 r'] 24))
  have HT5 := Lib.hid ((HT4.out.kept hb).alloc (.cells #[.int .i64 p', .int .i64 q', .int .i64 r'] 24))
  have HU5 := Lib.hid (Blk.new w5 #[.int .i64 p', .int .i64 q', .int .i64 r'] 24)
  clear hb
  go_wp2_with fail
  refine (E2 _).out.mono ?_
  rintro e w6 ⟨rfl, hb⟩
  have HB6 := Lib.hid (bput (bnext HB5.out hb) (.cells #[.int .i64 p', .int .i64 q', .int .i64 r'] 24))
  have HS6 := Lib.hid ((HS5.out.kept hb).alloc (.cells #[.int .i64 p', .int .i64 q', .int .i64 r'] 24))
  have HT6 := Lib.hid ((HT5.out.kept hb).alloc (.cells #[.int .i64 p', .int .i64 q', .int .i64 r'] 24))
  have HU6 := Lib.hid ((HU5.out.kept hb).alloc (.cells #[.int .i64 p', .int .i64 q', .int .i64 r'] 24))
  have HV6 := Lib.hid (Blk.new w6 #[.int .i64 p', .int .i64 q', .int .i64 r'] 24)
  clear hb C1 C2 E1 E2
  obtain ⟨s0, s1, s2⟩ := HS6.out.c3
  obtain ⟨t0, t1, t2⟩ := HT6.out.c3
  obtain ⟨u0, u1, u2⟩ := HU6.out.c3
  obtain ⟨v0, v1, v2⟩ := HV6.out.c3
  have ls := HS6.out.lt
  have lt := HT6.out.lt
  have lu := HU6.out.lt
  cases b
  · cases b'
    · go_wp2_with fail
      go_ret
      exact ⟨rfl, HB6.out⟩
    · have K := HE3.out rfl
      go_wp2_with fail
      refine (K _).out.mono ?_
      rintro e w8 ⟨rfl, hb⟩
      have HB8 := Lib.hid (bnext HB6.out hb)
      have HS8 := Lib.hid (HS6.out.kept hb)
      have HT8 := Lib.hid (HT6.out.kept hb)
      have HU8 := Lib.hid (HU6.out.kept hb)
      have HV8 := Lib.hid (HV6.out.kept hb)
      clear hb s0 s1 s2 t0 t1 t2 u0 u1 u2 v0 v1 v2 ls lt lu
      obtain ⟨s0, s1, s2⟩ := HS8.out.c3
      obtain ⟨t0, t1, t2⟩ := HT8.out.c3
      obtain ⟨u0, u1, u2⟩ := HU8.out.c3
      obtain ⟨v0, v1, v2⟩ := HV8.out.c3
      have ls := HS8.out.lt
      have lt := HT8.out.lt
      have lu := HU8.out.lt
      go_wp2_with fail
      go_ret
      exact ⟨rfl, HB8.out⟩
  · have L := HC3.out rfl
    cases b'
    · skip
      go_wp2_with fail
      refine (L _).out.mono ?_
      rintro e w8 ⟨rfl, hb⟩
      have HB8 := Lib.hid (bnext HB6.out hb)
      have HS8 := Lib.hid (HS6.out.kept hb)
      have HT8 := Lib.hid (HT6.out.kept hb)
      have HU8 := Lib.hid (HU6.out.kept hb)
      have HV8 := Lib.hid (HV6.out.kept hb)
      clear hb s0 s1 s2 t0 t1 t2 u0 u1 u2 v0 v1 v2 ls lt lu
      obtain ⟨s0, s1, s2⟩ := HS8.out.c3
      obtain ⟨t0, t1, t2⟩ := HT8.out.c3
      obtain ⟨u0, u1, u2⟩ := HU8.out.c3
      obtain ⟨v0, v1, v2⟩ := HV8.out.c3
      have ls := HS8.out.lt
      have lt := HT8.out.lt
      have lu := HU8.out.lt
      go_wp2_with fail
      go_ret
      exact ⟨rfl, HB8.out⟩
    · have K := HE3.out rfl
      go_wp2_with fail
      refine (L _).out.mono ?_
      rintro e w8 ⟨rfl, hb⟩
      have HB8 := Lib.hid (bnext HB6.out hb)
      have HS8 := Lib.hid (HS6.out.kept hb)
      have HT8 := Lib.hid (HT6.out.kept hb)
      have HU8 := Lib.hid (HU6.out.kept hb)
      have HV8 := Lib.hid (HV6.out.kept hb)
      clear hb s0 s1 s2 t0 t1 t2 u0 u1 u2 v0 v1 v2 ls lt lu
      obtain ⟨s0, s1, s2⟩ := HS8.out.c3
      obtain ⟨t0, t1, t2⟩ := HT8.out.c3
      obtain ⟨u0, u1, u2⟩ := HU8.out.c3
      obtain ⟨v0, v1, v2⟩ := HV8.out.c3
      have ls := HS8.out.lt
      have lt := HT8.out.lt
      have lu := HU8.out.lt
      go_wp2_with fail
      refine (K _).out.mono ?_
      rintro e w9 ⟨rfl, hb⟩
      have HB9 := Lib.hid (bnext HB8.out hb)
      have HS9 := Lib.hid (HS8.out.kept hb)
      have HT9 := Lib.hid (HT8.out.kept hb)
      have HU9 := Lib.hid (HU8.out.kept hb)
      have HV9 := Lib.hid (HV8.out.kept hb)
      clear hb s0 s1 s2 t0 t1 t2 u0 u1 u2 v0 v1 v2 ls lt lu
      obtain ⟨s0, s1, s2⟩ := HS9.out.c3
      obtain ⟨t0, t1, t2⟩ := HT9.out.c3
      obtain ⟨u0, u1, u2⟩ := HU9.out.c3
      obtain ⟨v0, v1, v2⟩ := HV9.out.c3
      have ls := HS9.out.lt
      have lt := HT9.out.lt
      have lu := HU9.out.lt
      go_wp2_with fail
      go_ret
      exact ⟨rfl, HB9.out⟩

theorem walkStateText {a0 : Option Addr} {len0 cap0 : Nat} {z0 : List Int} {a1 : Option Addr} {len1 cap1 : Nat} {z1 : List Int} (w : World) (h0 : IsRow w a0 len0 cap0 z0) (h1 : IsRow w a1 len1 cap1 z1) :
    Calls Try.prog 5 #[.slice a0 len0 cap0, .slice a1 len1 cap1] w fun e w' => e = .returned (.bool true) ∧ Below w.heap.size w w' := by
  by_cases hl : (1048576 : Int) < len0
  · clear h0 h1
    go_enter Try.func5, Try.ntmps5
    go_wp2_with fail
    go_ret
    exact ⟨rfl, Below.refl _ _⟩
  · by_cases hl1 : (1048576 : Int) < len1
    · clear h0 h1
      go_enter Try.func5, Try.ntmps5
      go_wp2_with fail
      go_ret
      exact ⟨rfl, Below.refl _ _⟩
    · refine textStep w hl hl1 (drawPS h0) h1 (fun t => ?_) (fun i => ?_)
      · by_cases h : IsTxt t
        · obtain ⟨i, hi, rfl⟩ := h
          exact ⟨_, _, _, true, fun w => implParse_yes i hi w, fun w => specParse_yes i hi _ rfl w, fun _ w => implFmt_yes _ _ _ w (at_st3 (by omega) (by omega))⟩
        · exact ⟨_, _, _, false, fun w => implParse_no t h w, fun w => specParse_no t h w, fun h => by cases h⟩
      · by_cases h : 0 ≤ i ∧ i < 27
        · refine ⟨_, _, _, true, fun w => implAt_yes i w h.1 h.2, fun w => specAt_yes i w h.1 h.2, fun _ w => ?_⟩
          have k := implIx_yes (ax i) (ay i) (az i) w (at_st3 h.1 h.2)
          rw [at_ix] at k
          exact k
        · exact ⟨_, _, _, false, fun w => implAt_no i w h, fun w => specAt_no i w h, fun h => by cases h⟩

set_option linter.unusedVariables false in
set_option maxRecDepth 100000 in
theorem liftedStateText (os : Os) (started : os.Started) (H : Type) (enc : TypeId × Value → H) :
    ReturnsInHanded {} Try.checked os 5 .any (Rows.fnStateTextSpec.pre6 enc Try.prog Try.f5 Rows.fnStateTextRow.domain false) (Rows.fnStateTextSpec.post enc Try.prog Try.f5 false true false false) := by
  refine returnsInHanded_of_change (C := Try.checked) Try.own started (by kernel_rfl) Try.func5
    (ChangeSpec.witness6 (enc := enc) (C := Try.checked) false ⟨#[], #[.slice none 0 0, .slice none 0 0], []⟩ 8 (by kernel_rfl) (by kernel_rfl) (by kernel_rfl) (by kernel_rfl)) ?_
  intro W base args ds gs before hval0 hW hcnd _
  have hval : ∀ (j : Nat) t v, Try.f5.params[j]? = some t → args[j]? = some v → Value.okWide Try.prog W .any base t v := hval0
  have hW' := hW
  obtain ⟨p, q, hA0, hV, rfl, hfz, hnd⟩ := hW
  have hA : DataW.TrodAll enc Try.prog W 0 (fun _ => true) true Try.f5.params.toList args.toList ds p := hA0
  rw [Try.params5] at hA hval
  obtain ⟨v0, vs0, d0, ds0, p0, q0, hargs, rfl, rfl, h0, r0⟩ := trodAll_cons hA
  obtain ⟨v1, vs1, d1, ds1, p1, q1, rfl, rfl, rfl, h1, r1⟩ := trodAll_cons r0
  obtain ⟨rfl, rfl, rfl⟩ := trodAll_nil r1
  obtain rfl : args = #[v0, v1] := by cases args; simp_all
  obtain ⟨rfl, rfl⟩ := trodVars_none hV
  obtain ⟨a0, len0, cap0, rfl⟩ := okWide_slice Try.underlying22 (hval 0 22 v0 rfl rfl)
  have k0 := h0
  have lt0 : ∀ x ∈ p0, x.block < W.heap.size := by obtain ⟨m, hm⟩ := k0; exact DataW.trod_lt m _ _ _ hm
  obtain ⟨z0, w0⟩ : ∃ zs, IsRow W a0 len0 cap0 zs := by
    obtain ⟨fuel, hf⟩ := h0
    rcases open_ints Try.underlying22 Try.underlying5 (by kernel_rfl) hf with ⟨hcs, _⟩ | ⟨x, l, c, zs, hcs, _, hl, hm, hz, _, hcell, hwz⟩
    · simp [Value.cells] at hcs
      obtain ⟨rfl, rfl, rfl⟩ := hcs
      exact ⟨[], .inl ⟨rfl, rfl, rfl, rfl⟩⟩
    · simp [Value.cells] at hcs
      obtain ⟨rfl, rfl, rfl⟩ := hcs
      exact ⟨zs, .inr ⟨_, rfl, hl, hm, by simpa using hz, hcell, hwz⟩⟩
  obtain ⟨a1, len1, cap1, rfl⟩ := okWide_slice Try.underlying22 (hval 1 22 v1 rfl rfl)
  have k1 := h1
  have lt1 : ∀ x ∈ p1, x.block < W.heap.size := by obtain ⟨m, hm⟩ := k1; exact DataW.trod_lt m _ _ _ hm
  obtain ⟨z1, w1⟩ : ∃ zs, IsRow W a1 len1 cap1 zs := by
    obtain ⟨fuel, hf⟩ := h1
    rcases open_ints Try.underlying22 Try.underlying5 (by kernel_rfl) hf with ⟨hcs, _⟩ | ⟨x, l, c, zs, hcs, _, hl, hm, hz, _, hcell, hwz⟩
    · simp [Value.cells] at hcs
      obtain ⟨rfl, rfl, rfl⟩ := hcs
      exact ⟨[], .inl ⟨rfl, rfl, rfl, rfl⟩⟩
    · simp [Value.cells] at hcs
      obtain ⟨rfl, rfl, rfl⟩ := hcs
      exact ⟨zs, .inr ⟨_, rfl, hl, hm, by simpa using hz, hcell, hwz⟩⟩
  clear hA0 hval0
  refine (walkStateText W w0 w1).mono fun e W' ⟨he, bel⟩ => ?_
  subst he
  exact ⟨_, rfl, _, _, _, [], _, [], hW', trodAll_mk1 (shut_bool Try.underlying4 _), (trodAll_cons_mk (Below.trod laidOut (by kernel_rfl) (of_decide_eq_true (by kernel_rfl)) k0 bel lt0) (trodAll_cons_mk (Below.trod laidOut (by kernel_rfl) (of_decide_eq_true (by kernel_rfl)) k1 bel lt1) trodAll_mk0)), rfl, bel.frame _, fun h => by cases h⟩

theorem stateText_holds : Rows.FnStateTextSaid :=
  OpenClaim.holds_of_wide 5 Try.f5 rfl rfl rfl rfl rfl rfl rfl ⟨rfl, rfl, rfl, rfl, rfl⟩ rfl rfl rfl rfl rfl (by kernel_rfl) Try.func5 (by kernel_rfl)
    (of_decide_eq_true (by kernel_rfl)) (by unfold Func.isWrapper; first | (rw [if_pos (by decide +kernel)]; kernel_rfl) | (rw [if_neg (by decide +kernel)]; exact ⟨rfl, rfl⟩))
    (fun os started H enc _ => liftedStateText os started H enc)

#print axioms stateText_holds
end Go.Proofs.Ytcjajlnefjcjiaa
