/-
  The law of plain programs is true at all bytes: no condition.
-/
import Derived.Test.YtpbbdhnnaagghaaRows
import Derived.Test.YtpbbdhnnaagghaaDrawP
import Derived.Test.YtpbbdhnnaagghaaAll
import Derived.Test.YtpbbdhnnaagghaaPO
import Derived.ProofKit
import Derived.OpenShut
import Derived.ShutString
import Derived.ChangeOld
namespace Go.Proofs.Ytpbbdhnnaagghaa
open Go.ChangeShapes Go.WideShapes Go.ChangeAt Go.RowKit
open Go.ChangeMaps (open_string shut_string)

theorem Try.own : ownKnob Try.prog.godebug = none := by kernel_rfl
theorem laidOut : laidOutB Try.prog = true := by kernel_rfl

theorem Row.forms {w : World} {B : Nat} {T : TypeId} {v : Value} {xs : List Value} (h : Row w B T v xs) : ∃ (a : Option Addr) (cap : Nat), v = .slice a xs.length cap ∧ (0 < xs.length → ∃ g, a = some ⟨g, 0, none⟩ ∧ ∀ (j : Nat) (u : Value), xs[j]? = some u → w.cell? ⟨g, j, none⟩ = some u) := by
  rcases h.cases with ⟨rfl, rfl⟩ | ⟨g, cap, rfl, _, _, hc⟩
  · exact ⟨none, 0, rfl, fun h => absurd h (by simp)⟩
  · exact ⟨_, cap, rfl, fun _ => ⟨g, rfl, hc⟩⟩

/-- What the law's own answer is after some parts. -/
def plA (p : Pg) (m : Nat) : Bool := (!(p.letter == 47) && !(p.letter == 126)) && (p.pks.take m).all plainB
theorem plA_succ {p q : Pg} {m : Nat} (h : p.pks[m]? = some q) : plA p (m + 1) = (plA p m && plainB q) := by
  unfold plA
  rw [List.take_add_one, h]
  simp [List.all_append, Bool.and_assoc]
theorem plainB_pks (p : Pg) : plainB p = ((!(p.letter == 47) && !(p.letter == 126)) && p.pks.all plainB) := by
  rw [Bool.eq_iff_iff]
  have k : plainB p = true ↔ (quietP p ∧ ∀ q ∈ p.pks, plainB q = true) := by
    rw [plainB_iff]
    constructor
    · intro h
      refine ⟨h p (by cases p <;> simp [Pg.all]), fun q hq => (plainB_iff q).2 fun r hr => h r ?_⟩
      cases p <;> simp [Pg.pks] at hq <;> simp [Pg.all] <;> first | (rcases hq with rfl | rfl <;> simp [hr]) | (subst hq; simp [hr])
    · rintro ⟨h1, h2⟩ r hr
      have h3 : ∀ q ∈ p.pks, ∀ r ∈ q.all, quietP r := fun q hq => (plainB_iff q).1 (h2 q hq)
      cases p <;> simp [Pg.all] at hr <;> simp [Pg.pks] at h3
      all_goals first
        | (subst hr; exact h1)
        | (rcases hr with rfl | hr | hr
           · exact h1
           · exact h3.1 r hr
           · exact h3.2 r hr)
        | (rcases hr with rfl | hr
           · exact h1
           · exact h3 r hr)
  rw [k]
  simp [quietP, and_assoc]
theorem plA_end (p : Pg) : plA p p.pks.length = plainB p := by rw [plainB_pks, plA, List.take_of_length_le (Nat.le_refl _)]
theorem first_byte {s : ByteArray} {p : Pg} (hs : s.data.toList = p.ser) : ∃ h : 0 < s.size, s[0] = p.letter := by
  have h0 : 0 < p.ser.length := by rw [Pg.ser_eq]; simp
  have h1 : 0 < s.size := by have := congrArg List.length hs; simp at this; omega
  refine ⟨h1, ?_⟩
  have e : s.data.toList[0]? = some s[0] := List.getElem?_eq_getElem (by simpa using h1)
  rw [hs, Pg.ser_eq] at e
  simpa using e.symm
theorem byte_b (c d : UInt8) : ((c.toNat : Int) == (d.toNat : Int)) = (c == d) := by
  rw [Bool.eq_iff_iff, beq_iff_eq, beq_iff_eq, UInt8.toNat_inj.symm]
  omega

set_option maxRecDepth 100000 in
set_option maxHeartbeats 8000000 in
theorem walkPlain {a0 : Option Addr} {len0 cap0 : Nat} {z0 : List Int} (w : World) (h0 : IsRow w a0 len0 cap0 z0) :
    Calls Try.prog 5 #[.slice a0 len0 cap0] w fun e w' => e = .returned (.bool true) ∧ Below w.heap.size w w' := by
  have D := Lib.hid (dDrawIsPlain h0)
  clear h0
  by_cases hl : (1048576 : Int) < len0
  · go_enter Try.func5, Try.ntmps5
    go_wp2_with fail
    go_ret
    exact ⟨rfl, Below.refl _ _⟩
  · go_enter Try.func5, Try.ntmps5
    go_wp2_with fail
    refine D.out.mono ?_
    rintro e w1 ⟨t, ht, rfl, hb⟩
    have HB1 := Lib.hid hb
    clear hb D
    by_cases hv : PValid false t.data.toList ∧ t.size ≤ 200
    · obtain ⟨⟨p, hp, hs⟩, hsz⟩ := hv
      have C1 := fun w => Lib.hid (implPlain_yes t w hp hs hsz)
      have C2 := fun w => Lib.hid (specPlain_yes t w hp hs hsz)
      have C3 := fun w => Lib.hid (implPV_yes t w hp hs hsz)
      have C4 := fun w => Lib.hid (implParts_yes t w hp hs hsz)
      obtain ⟨h0, hb0⟩ := first_byte hs
      have HSL := Lib.hid (show p.ser.length ≤ 200 by have := congrArg List.length hs; simp at this; omega)
      have hok := Lib.hid hp
      have e47 : ((t[0].toNat : Int) == 47) = (p.letter == 47) := by rw [hb0]; exact byte_b _ 47
      have e126 : ((t[0].toNat : Int) == 126) = (p.letter == 126) := by rw [hb0]; exact byte_b _ 126
      have hn2 := pks_le p
      clear hp hs hb0
      have eV : (plainB p != plainB p) = false := by cases plainB p <;> rfl
      generalize hpl : plainB p = V at *
      have HV := Lib.hid hpl
      clear hpl
      go_wp2_with fail
      refine (C1 _).out.mono ?_
      rintro e w2 ⟨rfl, hb⟩
      have HB2 := Lib.hid (bnext HB1.out hb)
      clear hb
      go_wp2_with fail
      refine (C2 _).out.mono ?_
      rintro e w3 ⟨rfl, hb⟩
      have HB3 := Lib.hid (bnext HB2.out hb)
      clear hb
      go_wp2_with fail
      refine (C3 _).out.mono ?_
      rintro e w4 ⟨rfl, hb⟩
      have HB4 := Lib.hid (bnext HB3.out hb)
      clear hb C1 C2 C3
      have HPA := fun w => Lib.hid (C4 w)
      clear C4
      have hpa : ((t[0].toNat : Int) != 47 && (t[0].toNat : Int) != 126) = plA p 0 := by unfold plA bne; rw [e47, e126]; simp
      clear e47 e126
      cases y47 : ((t[0].toNat : Int) != 47)
      · have HA : Hid (plA p 0 = false) := by show _ = _; rw [← hpa]; first | rfl | (rw [y47]; rfl) | (rw [y47, y126]; rfl)
        clear hpa
        go_wp2_with fail
        refine (HPA _).out.mono ?_
        rintro e w5 ⟨sl, rfl, hrow, hb⟩
        have HB5 := Lib.hid (bnext HB4.out hb)
        obtain ⟨sa, cap, rfl, hf⟩ := hrow.forms
        rw [show (strs (p.pks.map Pg.ser)).length = p.pks.length by simp [strs]] at hf ⊢
        have HF := Lib.hid hf
        clear hb hf hrow
        go_wp2_with fail
        go_loopw [5, 7] (fun al i wr => ∃ m : Nat, m ≤ p.pks.length ∧ i = .int .i64 m ∧ al = .bool (plA p m) ∧ Hid (Below w.heap.size w wr) ∧ Hid (Below w5.heap.size w5 wr)) (fun _ i _ => p.pks.length - (intOf i).toNat)
        case atStart => exact ⟨0, Nat.zero_le _, rfl, by rw [HA.out], HB5.out, Below.refl _ _⟩
        case round =>
          obtain ⟨m, hm, rfl, rfl, HB, HBP⟩ := hrel
          by_cases hlt : m < p.pks.length
          · have hq : p.pks[m]? = some p.pks[m] := List.getElem?_eq_getElem hlt
            have hmem : p.pks[m] ∈ p.pks := List.getElem_mem hlt
            have hstep := Lib.hid (plA_succ hq)
            generalize p.pks[m] = q at *
            obtain ⟨q1, q2⟩ := pok_mem' hok.out hmem
            obtain ⟨g, rfl, hcell⟩ := HF.out (by omega)
            have hc0 := hcell m (.string (bs q.ser)) (by simp [strs, hq])
            have hc1 := ckeep HBP.out hc0
            have CQ := fun w => Lib.hid (implPlain_yes (bs q.ser) w q1 rfl (by have := HSL.out; rw [bs_size]; omega))
            have hmi : (0 : Int) ≤ (m : Int) := by omega
            have hmi2 : (m : Int) < (p.pks.length : Int) := by omega
            generalize plA p m = A at *
            clear hcell hc0 hq hmem
            cases A
            · go_wp2_with fail
              go_round
              case rel => exact ⟨m + 1, by omega, by go_num, by rw [hstep.out]; rfl, HB.out, HBP.out⟩
              case measure => simp [intOf]; omega
            · go_wp2_with fail
              refine (CQ _).out.mono ?_
              rintro e w7 ⟨rfl, hb⟩
              have HB7 := Lib.hid (bnext HB.out hb)
              have HBP7 := Lib.hid (bnext HBP.out hb)
              clear hb
              go_wp2_with fail
              go_round
              case rel => exact ⟨m + 1, by omega, by go_num, by rw [hstep.out]; rfl, HB7.out, HBP7.out⟩
              case measure => simp [intOf]; omega
          · have em : m = p.pks.length := by omega
            subst em
            rw [show plA p p.pks.length = V from (plA_end p).trans HV.out]
            go_wp2_with fail
            go_ret
            exact ⟨by simp, HB.out⟩
      · cases y126 : ((t[0].toNat : Int) != 126)
        · have HA : Hid (plA p 0 = false) := by show _ = _; rw [← hpa]; first | rfl | (rw [y47]; rfl) | (rw [y47, y126]; rfl)
          clear hpa
          go_wp2_with fail
          refine (HPA _).out.mono ?_
          rintro e w5 ⟨sl, rfl, hrow, hb⟩
          have HB5 := Lib.hid (bnext HB4.out hb)
          obtain ⟨sa, cap, rfl, hf⟩ := hrow.forms
          rw [show (strs (p.pks.map Pg.ser)).length = p.pks.length by simp [strs]] at hf ⊢
          have HF := Lib.hid hf
          clear hb hf hrow
          go_wp2_with fail
          go_loopw [5, 7] (fun al i wr => ∃ m : Nat, m ≤ p.pks.length ∧ i = .int .i64 m ∧ al = .bool (plA p m) ∧ Hid (Below w.heap.size w wr) ∧ Hid (Below w5.heap.size w5 wr)) (fun _ i _ => p.pks.length - (intOf i).toNat)
          case atStart => exact ⟨0, Nat.zero_le _, rfl, by rw [HA.out], HB5.out, Below.refl _ _⟩
          case round =>
            obtain ⟨m, hm, rfl, rfl, HB, HBP⟩ := hrel
            by_cases hlt : m < p.pks.length
            · have hq : p.pks[m]? = some p.pks[m] := List.getElem?_eq_getElem hlt
              have hmem : p.pks[m] ∈ p.pks := List.getElem_mem hlt
              have hstep := Lib.hid (plA_succ hq)
              generalize p.pks[m] = q at *
              obtain ⟨q1, q2⟩ := pok_mem' hok.out hmem
              obtain ⟨g, rfl, hcell⟩ := HF.out (by omega)
              have hc0 := hcell m (.string (bs q.ser)) (by simp [strs, hq])
              have hc1 := ckeep HBP.out hc0
              have CQ := fun w => Lib.hid (implPlain_yes (bs q.ser) w q1 rfl (by have := HSL.out; rw [bs_size]; omega))
              have hmi : (0 : Int) ≤ (m : Int) := by omega
              have hmi2 : (m : Int) < (p.pks.length : Int) := by omega
              generalize plA p m = A at *
              clear hcell hc0 hq hmem
              cases A
              · go_wp2_with fail
                go_round
                case rel => exact ⟨m + 1, by omega, by go_num, by rw [hstep.out]; rfl, HB.out, HBP.out⟩
                case measure => simp [intOf]; omega
              · go_wp2_with fail
                refine (CQ _).out.mono ?_
                rintro e w7 ⟨rfl, hb⟩
                have HB7 := Lib.hid (bnext HB.out hb)
                have HBP7 := Lib.hid (bnext HBP.out hb)
                clear hb
                go_wp2_with fail
                go_round
                case rel => exact ⟨m + 1, by omega, by go_num, by rw [hstep.out]; rfl, HB7.out, HBP7.out⟩
                case measure => simp [intOf]; omega
            · have em : m = p.pks.length := by omega
              subst em
              rw [show plA p p.pks.length = V from (plA_end p).trans HV.out]
              go_wp2_with fail
              go_ret
              exact ⟨by simp, HB.out⟩
        · have HA : Hid (plA p 0 = true) := by show _ = _; rw [← hpa]; first | rfl | (rw [y47]; rfl) | (rw [y47, y126]; rfl)
          clear hpa
          go_wp2_with fail
          refine (HPA _).out.mono ?_
          rintro e w5 ⟨sl, rfl, hrow, hb⟩
          have HB5 := Lib.hid (bnext HB4.out hb)
          obtain ⟨sa, cap, rfl, hf⟩ := hrow.forms
          rw [show (strs (p.pks.map Pg.ser)).length = p.pks.length by simp [strs]] at hf ⊢
          have HF := Lib.hid hf
          clear hb hf hrow
          go_wp2_with fail
          go_loopw [5, 7] (fun al i wr => ∃ m : Nat, m ≤ p.pks.length ∧ i = .int .i64 m ∧ al = .bool (plA p m) ∧ Hid (Below w.heap.size w wr) ∧ Hid (Below w5.heap.size w5 wr)) (fun _ i _ => p.pks.length - (intOf i).toNat)
          case atStart => exact ⟨0, Nat.zero_le _, rfl, by rw [HA.out], HB5.out, Below.refl _ _⟩
          case round =>
            obtain ⟨m, hm, rfl, rfl, HB, HBP⟩ := hrel
            by_cases hlt : m < p.pks.length
            · have hq : p.pks[m]? = some p.pks[m] := List.getElem?_eq_getElem hlt
              have hmem : p.pks[m] ∈ p.pks := List.getElem_mem hlt
              have hstep := Lib.hid (plA_succ hq)
              generalize p.pks[m] = q at *
              obtain ⟨q1, q2⟩ := pok_mem' hok.out hmem
              obtain ⟨g, rfl, hcell⟩ := HF.out (by omega)
              have hc0 := hcell m (.string (bs q.ser)) (by simp [strs, hq])
              have hc1 := ckeep HBP.out hc0
              have CQ := fun w => Lib.hid (implPlain_yes (bs q.ser) w q1 rfl (by have := HSL.out; rw [bs_size]; omega))
              have hmi : (0 : Int) ≤ (m : Int) := by omega
              have hmi2 : (m : Int) < (p.pks.length : Int) := by omega
              generalize plA p m = A at *
              clear hcell hc0 hq hmem
              cases A
              · go_wp2_with fail
                go_round
                case rel => exact ⟨m + 1, by omega, by go_num, by rw [hstep.out]; rfl, HB.out, HBP.out⟩
                case measure => simp [intOf]; omega
              · go_wp2_with fail
                refine (CQ _).out.mono ?_
                rintro e w7 ⟨rfl, hb⟩
                have HB7 := Lib.hid (bnext HB.out hb)
                have HBP7 := Lib.hid (bnext HBP.out hb)
                clear hb
                go_wp2_with fail
                go_round
                case rel => exact ⟨m + 1, by omega, by go_num, by rw [hstep.out]; rfl, HB7.out, HBP7.out⟩
                case measure => simp [intOf]; omega
            · have em : m = p.pks.length := by omega
              subst em
              rw [show plA p p.pks.length = V from (plA_end p).trans HV.out]
              go_wp2_with fail
              go_ret
              exact ⟨by simp, HB.out⟩
    · have C1 := fun w => Lib.hid (implPlain_no t w hv)
      have C2 := fun w => Lib.hid (specPlain_no t w hv)
      have C3 := fun w => Lib.hid (implPV_no t w hv)
      clear hv
      go_wp2_with fail
      refine (C1 _).out.mono ?_
      rintro e w2 ⟨rfl, hb⟩
      have HB2 := Lib.hid (bnext HB1.out hb)
      clear hb
      go_wp2_with fail
      refine (C2 _).out.mono ?_
      rintro e w3 ⟨rfl, hb⟩
      have HB3 := Lib.hid (bnext HB2.out hb)
      clear hb
      go_wp2_with fail
      refine (C3 _).out.mono ?_
      rintro e w4 ⟨rfl, hb⟩
      have HB4 := Lib.hid (bnext HB3.out hb)
      clear hb
      go_wp2_with fail
      refine (C2 _).out.mono ?_
      rintro e w5 ⟨rfl, hb⟩
      have HB5 := Lib.hid (bnext HB4.out hb)
      clear hb
      go_wp2_with fail
      refine (C3 _).out.mono ?_
      rintro e w6 ⟨rfl, hb⟩
      have HB6 := Lib.hid (bnext HB5.out hb)
      clear hb
      go_wp2_with fail
      go_ret
      exact ⟨rfl, HB6.out⟩

set_option linter.unusedVariables false in
set_option maxRecDepth 100000 in
theorem liftedPlain (os : Os) (started : os.Started) (H : Type) (enc : TypeId × Value → H) :
    ReturnsInHanded {} Try.checked os 5 .any (Rows.fnPlainSpec.pre6 enc Try.prog Try.f5 Rows.fnPlainRow.domain false) (Rows.fnPlainSpec.post enc Try.prog Try.f5 false true false false) := by
  refine returnsInHanded_of_change (C := Try.checked) Try.own started (by kernel_rfl) Try.func5
    (ChangeSpec.witness6 (enc := enc) (C := Try.checked) false ⟨#[], #[.slice none 0 0], []⟩ 8 (by kernel_rfl) (by kernel_rfl) (by kernel_rfl) (by kernel_rfl)) ?_
  intro W base args ds gs before hval0 hW hcnd _
  have hval : ∀ (j : Nat) t v, Try.f5.params[j]? = some t → args[j]? = some v → Value.okWide Try.prog W .any base t v := hval0
  have hW' := hW
  obtain ⟨p, q, hA0, hV, rfl, hfz, hnd⟩ := hW
  have hA : DataW.TrodAll enc Try.prog W 0 (fun _ => true) true Try.f5.params.toList args.toList ds p := hA0
  rw [Try.params5] at hA hval
  obtain ⟨v0, vs0, d0, ds0, p0, q0, hargs, rfl, rfl, h0, r0⟩ := trodAll_cons hA
  obtain ⟨rfl, rfl, rfl⟩ := trodAll_nil r0
  obtain rfl : args = #[v0] := by cases args; simp_all
  obtain ⟨rfl, rfl⟩ := trodVars_none hV
  obtain ⟨a0, len0, cap0, rfl⟩ := okWide_slice Try.underlying22 (hval 0 22 v0 rfl rfl)
  have k0 := h0
  have lt0 : ∀ x ∈ p0, x.block < W.heap.size := by obtain ⟨m, hm⟩ := k0; exact DataW.trod_lt m _ _ _ hm
  obtain ⟨z0, w0⟩ : ∃ zs, IsRow W a0 len0 cap0 zs := by
    obtain ⟨fuel, hf⟩ := h0
    rcases open_ints Try.underlying22 Try.underlying5 (by kernel_rfl) hf with ⟨hcs, _⟩ | ⟨x, l, c, zs, hcs, _, hl, hm, hz, _, hcell, hwz⟩
    · simp [Value.cells] at hcs
      obtain ⟨rfl, rfl, rfl⟩ := hcs
      exact ⟨[], .inl ⟨rfl, rfl, rfl, rfl⟩⟩
    · simp [Value.cells] at hcs
      obtain ⟨rfl, rfl, rfl⟩ := hcs
      exact ⟨zs, .inr ⟨_, rfl, hl, hm, by simpa using hz, hcell, hwz⟩⟩
  clear hA0 hval0
  refine (walkPlain W w0).mono fun e W' ⟨he, bel⟩ => ?_
  subst he
  exact ⟨_, rfl, _, _, _, [], _, [], hW', trodAll_mk1 (shut_bool Try.underlying4 _), (trodAll_cons_mk (Below.trod laidOut (by kernel_rfl) (of_decide_eq_true (by kernel_rfl)) k0 bel lt0) trodAll_mk0), rfl, bel.frame _, fun h => by cases h⟩

theorem plain_holds : Rows.FnPlainSaid :=
  OpenClaim.holds_of_wide 5 Try.f5 rfl rfl rfl rfl rfl rfl rfl ⟨rfl, rfl, rfl, rfl, rfl⟩ rfl rfl rfl rfl rfl (by kernel_rfl) Try.func5 (by kernel_rfl)
    (of_decide_eq_true (by kernel_rfl)) (by unfold Func.isWrapper; first | (rw [if_pos (by decide +kernel)]; kernel_rfl) | (rw [if_neg (by decide +kernel)]; exact ⟨rfl, rfl⟩))
    (fun os started H enc _ => liftedPlain os started H enc)

#print axioms plain_holds
end Go.Proofs.Ytpbbdhnnaagghaa
