/-
  The law of the braces of a shown program is true at all bytes: no condition.
-/
import Derived.Test.YtemkndpiljfefaaRows
import Derived.Test.YtemkndpiljfefaaTopQ
import Derived.Deep.RegionHeld3
import Derived.ProofKit
import Derived.OpenShut
import Derived.ShutString
import Derived.ChangeOld
namespace Go.Proofs.Ytemkndpiljfefaa
open Go.ChangeShapes Go.WideShapes Go.ChangeAt Go.RowKit
open Go.ChangeMaps (open_string shut_string)

theorem Try.own : ownKnob Try.prog.godebug = none := by kernel_rfl
theorem laidOut : laidOutB Try.prog = true := by kernel_rfl

theorem shp_some (p : Pg) : (bs (shP p)).toList.isEmpty = false := by
  have h : ∀ p : Pg, 0 < (shP p).length := fun p => by
    induction p with
    | seq a b ia ib => simp [shP]; omega
    | _ => simp [shP]
  rw [ByteArray.toList_eq, bsl]
  have := h p
  cases e : shP p with
  | nil => rw [e] at this; simp at this
  | cons a l => rfl
theorem ob_step (x : ByteArray) (k : Nat) (h : k < x.size) : ob (x.data.toList.take (k + 1)) = ob (x.data.toList.take k) + (if (x[k] == 123) = true then 1 else 0) := by
  rw [take_step h, ob_app]; unfold ob; cases e : (x[k] == 123) <;> simp [e]
theorem cb_step (x : ByteArray) (k : Nat) (h : k < x.size) : cb (x.data.toList.take (k + 1)) = cb (x.data.toList.take k) + (if (x[k] == 125) = true then 1 else 0) := by
  rw [take_step h, cb_app]; unfold cb; cases e : (x[k] == 125) <;> simp [e]
theorem brc_step (x : ByteArray) (k : Nat) (h : k < x.size) : brc (x.data.toList.take (k + 1)) = brc (x.data.toList.take k) + (if (x[k] == 64) = true then 1 else if ((x[k] == 63) = true ∨ (x[k] == 47) = true) then 2 else 0) := by
  have k1 : ∀ n, n < 256 → brc [UInt8.ofNat n] = (if (UInt8.ofNat n == 64) = true then 1 else if ((UInt8.ofNat n == 63) = true ∨ (UInt8.ofNat n == 47) = true) then 2 else 0) := by decide +kernel
  have := k1 x[k].toNat x[k].toNat_lt
  rw [UInt8.ofNat_toNat] at this
  rw [take_step h, brc_app, this]
theorem byte_eq (c d : UInt8) : ((c.toNat : Int) == (d.toNat : Int)) = (c == d) := by
  rw [Bool.eq_iff_iff, beq_iff_eq, beq_iff_eq, UInt8.toNat_inj.symm]
  omega

set_option maxRecDepth 100000 in
set_option maxHeartbeats 16000000 in
theorem walkShowProgram {a0 : Option Addr} {len0 cap0 : Nat} {z0 : List Int} (w : World) (h0 : IsRow w a0 len0 cap0 z0) :
    Calls Try.prog 5 #[.slice a0 len0 cap0] w fun e w' => e = .returned (.bool true) ∧ Below w.heap.size w w' := by
  have D := Lib.hid (dDrawShowProgram h0)
  clear h0
  by_cases hl : (1048576 : Int) < len0
  · go_enter Try.func5, Try.ntmps5
    go_wp2_with fail
    go_ret
    exact ⟨rfl, Below.refl _ _⟩
  · go_enter Try.func5, Try.ntmps5
    go_wp2_with fail
    refine D.out.mono ?_
    rintro e w1 ⟨t, ht, rfl, hb⟩
    have HB1 := Lib.hid hb
    clear hb D
    by_cases hv : PValid false t.data.toList ∧ t.size ≤ 200
    · obtain ⟨⟨p, hp, hs⟩, hsz⟩ := hv
      have C1 := fun w => Lib.hid (implShow_yes t w hp hs hsz)
      have C2 := fun w => Lib.hid (specShow_yes t w hp hs hsz)
      have C3 := fun w => Lib.hid (implPV_yes t w hp hs hsz)
      obtain ⟨hbal, hob⟩ := shP_bal p hp
      have hne := shp_some p
      have hxl := shP_len hp
      have hpl : p.ser.length ≤ 200 := by have := congrArg List.length hs; simp at this; omega
      have hbz : brc p.ser ≤ 1000 := by
        unfold brc
        have := List.countP_le_length (p := fun x : UInt8 => x == 64) (l := p.ser)
        have := List.countP_le_length (p := fun x : UInt8 => x == 63) (l := p.ser)
        have := List.countP_le_length (p := fun x : UInt8 => x == 47) (l := p.ser)
        omega
      obtain ⟨x, hx, hxd⟩ : ∃ x, bs (shP p) = x ∧ x.data.toList = shP p := ⟨_, rfl, bsl _⟩
      have hxz : x.size ≤ 4000 := by rw [← hx, bs_size]; omega
      rw [hx] at C1 C2 hne
      rw [← hxd] at hbal hob
      rw [← hs] at hob hbz
      obtain ⟨N, hN⟩ : ∃ N, brc t.data.toList = N := ⟨_, rfl⟩
      rw [hN] at hob hbz
      have HBal := Lib.hid hbal
      have HN1 := Lib.hid hob
      have HN2 : Hid (cb x.data.toList = N) := hbal.1.symm.trans hob
      have HN3 := Lib.hid hN
      clear hp hs hbal hob hxl hpl hx hxd hN ht
      go_wp2_with fail
      refine (C1 _).out.mono ?_
      rintro e w2 ⟨rfl, hb⟩
      have HB2 := Lib.hid (bnext HB1.out hb)
      clear hb
      go_wp2_with fail
      refine (C2 _).out.mono ?_
      rintro e w3 ⟨rfl, hb⟩
      have HB3 := Lib.hid (bnext HB2.out hb)
      clear hb
      go_wp2_with fail
      refine (C3 _).out.mono ?_
      rintro e w4 ⟨rfl, hb⟩
      have HB4 := Lib.hid (bnext HB3.out hb)
      clear hb
      clear C1 C2 C3
      go_wp2_with fail
      go_loop [5, 6, 7] (fun o c i => ∃ k : Nat, k ≤ x.size ∧ i = .int .i64 k ∧ o = .int .i64 (ob (x.data.toList.take k) : Nat) ∧ c = .int .i64 (cb (x.data.toList.take k) : Nat) ∧ ob (x.data.toList.take k) ≤ k ∧ cb (x.data.toList.take k) ≤ k) (fun _ _ i => x.size - (intOf i).toNat)
      case atStart => exact ⟨0, Nat.zero_le _, rfl, rfl, rfl, Nat.le_refl _, Nat.le_refl _⟩
      case round =>
        obtain ⟨k, hk, rfl, rfl, rfl, ho, hc⟩ := hrel
        by_cases hlt : k < x.size
        · have HO1 := Lib.hid (ob_step x k hlt)
          have HC1 := Lib.hid (cb_step x k hlt)
          have h1 : (k : Int) ≤ (x.size : Int) := by omega
          have e1 : ((x[k].toNat : Int) == 123) = (x[k] == 123) := byte_eq _ 123
          have e2 : ((x[k].toNat : Int) == 125) = (x[k] == 125) := byte_eq _ 125
          have e3 : (x[k] == 123) = true → (x[k] == 125) = false := by intro h; rw [beq_iff_eq] at h; rw [h]; rfl
          generalize (x[k] == 123) = p at *
          generalize (x[k] == 125) = q at *
          generalize ob (x.data.toList.take k) = O at *
          generalize cb (x.data.toList.take k) = C at *
          have ew1 : IntKind.i64.wrap ((O : Int) + 1) = (O : Int) + 1 := IntWalk.i64_in _ (by omega)
          have ew2 : IntKind.i64.wrap ((C : Int) + 1) = (C : Int) + 1 := IntWalk.i64_in _ (by omega)
          cases p
          · clear e3
            cases q
            · have R1 : Hid (ob (x.data.toList.take (k + 1)) = O) := by show _ = _; have := HO1.out; simpa using this
              have R2 : Hid (cb (x.data.toList.take (k + 1)) = C) := by show _ = _; have := HC1.out; simpa using this
              have hle : ¬ ((O : Nat) : Int) < ((C : Nat) : Int) := by have := HBal.out.2 (k + 1); rw [R1.out, R2.out] at this; omega

              go_wp2_with fail
              go_round
              case rel => exact ⟨k + 1, by omega, by go_num, by rw [R1.out], by rw [R2.out], by rw [R1.out]; omega, by rw [R2.out]; omega⟩
              case measure => simp [intOf]; omega
            · have R1 : Hid (ob (x.data.toList.take (k + 1)) = O) := by show _ = _; have := HO1.out; simpa using this
              have R2 : Hid (cb (x.data.toList.take (k + 1)) = C + 1) := by show _ = _; have := HC1.out; simpa using this
              have hle : ¬ ((O : Nat) : Int) < ((C + 1 : Nat) : Int) := by have := HBal.out.2 (k + 1); rw [R1.out, R2.out] at this; omega
              rw [Int.natCast_add] at hle
              go_wp2_with fail
              go_round
              case rel => exact ⟨k + 1, by omega, by go_num, by rw [R1.out], by rw [R2.out, Int.natCast_add]; rfl, by rw [R1.out]; omega, by rw [R2.out]; omega⟩
              case measure => simp [intOf]; omega
          · obtain rfl := e3 rfl
            clear e3
            have R1 : Hid (ob (x.data.toList.take (k + 1)) = O + 1) := by show _ = _; have := HO1.out; simpa using this
            have R2 : Hid (cb (x.data.toList.take (k + 1)) = C) := by show _ = _; have := HC1.out; simpa using this
            have hle : ¬ ((O + 1 : Nat) : Int) < ((C : Nat) : Int) := by have := HBal.out.2 (k + 1); rw [R1.out, R2.out] at this; omega
            rw [Int.natCast_add] at hle
            go_wp2_with fail
            go_round
            case rel => exact ⟨k + 1, by omega, by go_num, by rw [R1.out, Int.natCast_add]; rfl, by rw [R2.out], by rw [R1.out]; omega, by rw [R2.out]; omega⟩
            case measure => simp [intOf]; omega
        · have e : k = x.size := by omega
          subst e
          rw [show x.data.toList.take x.size = x.data.toList from List.take_of_length_le (by simp), HN1.out, HN2.out]
          clear hlt ho hc hk HBal
          go_wp2_with fail
          go_loop [8, 9] (fun b i => ∃ k : Nat, k ≤ t.size ∧ i = .int .i64 k ∧ b = .int .i64 (brc (t.data.toList.take k) : Nat) ∧ brc (t.data.toList.take k) ≤ 2 * k) (fun _ i => t.size - (intOf i).toNat)
          case atStart => exact ⟨0, Nat.zero_le _, rfl, rfl, Nat.le_refl _⟩
          case round =>
            obtain ⟨k, hk, rfl, rfl, hb0⟩ := hrel
            by_cases hlt : k < t.size
            · have HB1 := Lib.hid (brc_step t k hlt)
              have h1 : (k : Int) ≤ (t.size : Int) := by omega
              have e1 : ((t[k].toNat : Int) == 64) = (t[k] == 64) := byte_eq _ 64
              have e2 : ((t[k].toNat : Int) == 63) = (t[k] == 63) := byte_eq _ 63
              have e3 : ((t[k].toNat : Int) == 47) = (t[k] == 47) := byte_eq _ 47
              have d1 : (t[k] == 64) = true → (t[k] == 63) = false ∧ (t[k] == 47) = false := by intro h; rw [beq_iff_eq] at h; rw [h]; exact ⟨rfl, rfl⟩
              have d2 : (t[k] == 63) = true → (t[k] == 47) = false := by intro h; rw [beq_iff_eq] at h; rw [h]; rfl
              generalize (t[k] == 64) = p at *
              generalize (t[k] == 63) = q at *
              generalize (t[k] == 47) = r at *
              generalize brc (t.data.toList.take k) = B at *
              have ew1 : IntKind.i64.wrap ((B : Int) + 1) = (B : Int) + 1 := IntWalk.i64_in _ (by omega)
              have ew2 : IntKind.i64.wrap ((B : Int) + 2) = (B : Int) + 2 := IntWalk.i64_in _ (by omega)
              cases p
              · clear d1
                cases q
                · clear d2
                  cases r
                  · have R : Hid (brc (t.data.toList.take (k + 1)) = B) := by show _ = _; have := HB1.out; simpa using this
                    go_wp2_with fail
                    go_round
                    case rel => exact ⟨k + 1, by omega, by go_num, by rw [R.out], by rw [R.out]; omega⟩
                    case measure => simp [intOf]; omega
                  · have R : Hid (brc (t.data.toList.take (k + 1)) = B + 2) := by show _ = _; have := HB1.out; simpa using this
                    go_wp2_with fail
                    go_round
                    case rel => exact ⟨k + 1, by omega, by go_num, by rw [R.out, Int.natCast_add]; rfl, by rw [R.out]; omega⟩
                    case measure => simp [intOf]; omega
                · obtain rfl := d2 rfl
                  clear d2
                  have R : Hid (brc (t.data.toList.take (k + 1)) = B + 2) := by show _ = _; have := HB1.out; simpa using this
                  go_wp2_with fail
                  go_round
                  case rel => exact ⟨k + 1, by omega, by go_num, by rw [R.out, Int.natCast_add]; rfl, by rw [R.out]; omega⟩
                  case measure => simp [intOf]; omega
              · obtain ⟨rfl, rfl⟩ := d1 rfl
                clear d1 d2
                have R : Hid (brc (t.data.toList.take (k + 1)) = B + 1) := by show _ = _; have := HB1.out; simpa using this
                go_wp2_with fail
                go_round
                case rel => exact ⟨k + 1, by omega, by go_num, by rw [R.out, Int.natCast_add]; rfl, by rw [R.out]; omega⟩
                case measure => simp [intOf]; omega
            · have e : k = t.size := by omega
              subst e
              rw [show t.data.toList.take t.size = t.data.toList from List.take_of_length_le (by simp), HN3.out]
              clear hlt hb0 hk
              go_wp2_with fail
              go_ret
              exact ⟨by simp, HB4.out⟩
    · have C1 := fun w => Lib.hid (implShow_no t w hv)
      have C2 := fun w => Lib.hid (specShow_no t w hv)
      have C3 := fun w => Lib.hid (implPV_no t w hv)
      have he : (bs ([] : List UInt8)).toList.isEmpty = true := by rw [ByteArray.toList_eq]; rfl
      generalize bs ([] : List UInt8) = r at *
      clear hv ht
      go_wp2_with fail
      refine (C1 _).out.mono ?_
      rintro e w2 ⟨rfl, hb⟩
      have HB2 := Lib.hid (bnext HB1.out hb)
      clear hb
      go_wp2_with fail
      refine (C2 _).out.mono ?_
      rintro e w3 ⟨rfl, hb⟩
      have HB3 := Lib.hid (bnext HB2.out hb)
      clear hb
      go_wp2_with fail
      refine (C3 _).out.mono ?_
      rintro e w4 ⟨rfl, hb⟩
      have HB4 := Lib.hid (bnext HB3.out hb)
      clear hb
      go_wp2_with fail
      refine (C2 _).out.mono ?_
      rintro e w5 ⟨rfl, hb⟩
      have HB5 := Lib.hid (bnext HB4.out hb)
      clear hb
      go_wp2_with fail
      refine (C3 _).out.mono ?_
      rintro e w6 ⟨rfl, hb⟩
      have HB6 := Lib.hid (bnext HB5.out hb)
      clear hb
      go_wp2_with fail
      go_ret
      exact ⟨rfl, HB6.out⟩

set_option linter.unusedVariables false in
set_option maxRecDepth 100000 in
theorem liftedShowProgram (os : Os) (started : os.Started) (H : Type) (enc : TypeId × Value → H) :
    ReturnsInHanded {} Try.checked os 5 .any (Rows.fnShowProgramSpec.pre6 enc Try.prog Try.f5 Rows.fnShowProgramRow.domain false) (Rows.fnShowProgramSpec.post enc Try.prog Try.f5 false true false false) := by
  refine returnsInHanded_of_change (C := Try.checked) Try.own started (by kernel_rfl) Try.func5
    (ChangeSpec.witness6 (enc := enc) (C := Try.checked) false ⟨#[], #[.slice none 0 0], []⟩ 8 (by kernel_rfl) (by kernel_rfl) (by kernel_rfl) (by kernel_rfl)) ?_
  intro W base args ds gs before hval0 hW hcnd _
  have hval : ∀ (j : Nat) t v, Try.f5.params[j]? = some t → args[j]? = some v → Value.okWide Try.prog W .any base t v := hval0
  have hW' := hW
  obtain ⟨p, q, hA0, hV, rfl, hfz, hnd⟩ := hW
  have hA : DataW.TrodAll enc Try.prog W 0 (fun _ => true) true Try.f5.params.toList args.toList ds p := hA0
  rw [Try.params5] at hA hval
  obtain ⟨v0, vs0, d0, ds0, p0, q0, hargs, rfl, rfl, h0, r0⟩ := trodAll_cons hA
  obtain ⟨rfl, rfl, rfl⟩ := trodAll_nil r0
  obtain rfl : args = #[v0] := by cases args; simp_all
  obtain ⟨rfl, rfl⟩ := trodVars_none hV
  obtain ⟨a0, len0, cap0, rfl⟩ := okWide_slice Try.underlying22 (hval 0 22 v0 rfl rfl)
  have k0 := h0
  have lt0 : ∀ x ∈ p0, x.block < W.heap.size := by obtain ⟨m, hm⟩ := k0; exact DataW.trod_lt m _ _ _ hm
  obtain ⟨z0, w0⟩ : ∃ zs, IsRow W a0 len0 cap0 zs := by
    obtain ⟨fuel, hf⟩ := h0
    rcases open_ints Try.underlying22 Try.underlying5 (by kernel_rfl) hf with ⟨hcs, _⟩ | ⟨x, l, c, zs, hcs, _, hl, hm, hz, _, hcell, hwz⟩
    · simp [Value.cells] at hcs
      obtain ⟨rfl, rfl, rfl⟩ := hcs
      exact ⟨[], .inl ⟨rfl, rfl, rfl, rfl⟩⟩
    · simp [Value.cells] at hcs
      obtain ⟨rfl, rfl, rfl⟩ := hcs
      exact ⟨zs, .inr ⟨_, rfl, hl, hm, by simpa using hz, hcell, hwz⟩⟩
  clear hA0 hval0
  refine (walkShowProgram W w0).mono fun e W' ⟨he, bel⟩ => ?_
  subst he
  exact ⟨_, rfl, _, _, _, [], _, [], hW', trodAll_mk1 (shut_bool Try.underlying4 _), (trodAll_cons_mk (Below.trod laidOut (by kernel_rfl) (of_decide_eq_true (by kernel_rfl)) k0 bel lt0) trodAll_mk0), rfl, bel.frame _, fun h => by cases h⟩

theorem showProgram_holds : Rows.FnShowProgramSaid :=
  OpenClaim.holds_of_wide 5 Try.f5 rfl rfl rfl rfl rfl rfl rfl ⟨rfl, rfl, rfl, rfl, rfl⟩ rfl rfl rfl rfl rfl (by kernel_rfl) Try.func5 (by kernel_rfl)
    (of_decide_eq_true (by kernel_rfl)) (by unfold Func.isWrapper; first | (rw [if_pos (by decide +kernel)]; kernel_rfl) | (rw [if_neg (by decide +kernel)]; exact ⟨rfl, rfl⟩))
    (fun os started H enc _ => liftedShowProgram os started H enc)

#print axioms showProgram_holds
end Go.Proofs.Ytemkndpiljfefaa
