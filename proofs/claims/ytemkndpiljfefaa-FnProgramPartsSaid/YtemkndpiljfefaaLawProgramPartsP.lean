/-
  The law of a program and its parts is true at all bytes: no condition.
-/
import Derived.Test.YtemkndpiljfefaaRows
import Derived.Test.YtemkndpiljfefaaDrawP
import Derived.Test.YtemkndpiljfefaaHdO
import Derived.Test.YtemkndpiljfefaaSpR
import Derived.Test.YtemkndpiljfefaaVP
import Derived.Test.YtemkndpiljfefaaPO
import Derived.Deep.RegionHeld3
import Derived.ProofKit
import Derived.OpenShut
import Derived.ShutString
import Derived.ChangeOld
namespace Go.Proofs.Ytemkndpiljfefaa
open Go.ChangeShapes Go.WideShapes Go.ChangeAt Go.RowKit
open Go.ChangeMaps (open_string shut_string)

theorem Try.own : ownKnob Try.prog.godebug = none := by kernel_rfl
theorem laidOut : laidOutB Try.prog = true := by kernel_rfl

theorem Row.forms {w : World} {B : Nat} {T : TypeId} {v : Value} {xs : List Value} (h : Row w B T v xs) : ∃ (a : Option Addr) (cap : Nat), v = .slice a xs.length cap ∧ (0 < xs.length → ∃ g, a = some ⟨g, 0, none⟩ ∧ ∀ (j : Nat) (u : Value), xs[j]? = some u → w.cell? ⟨g, j, none⟩ = some u) := by
  rcases h.cases with ⟨rfl, rfl⟩ | ⟨g, cap, rfl, _, _, hc⟩
  · exact ⟨none, 0, rfl, fun h => absurd h (by simp)⟩
  · exact ⟨_, cap, rfl, fun _ => ⟨g, rfl, hc⟩⟩


theorem keepG {w w5 w1 w2 : World} {a b i j : Nat} {x y : Value} (h : Below w.heap.size w w1 ∧ Below w5.heap.size w5 w1 ∧ w1.cell? ⟨a, i, none⟩ = some x ∧ w1.cell? ⟨b, j, none⟩ = some y) (hq : Below w1.heap.size w1 w2) :
    Below w.heap.size w w2 ∧ Below w5.heap.size w5 w2 ∧ w2.cell? ⟨a, i, none⟩ = some x ∧ w2.cell? ⟨b, j, none⟩ = some y := ⟨bnext h.1 hq, bnext h.2.1 hq, ckeep hq h.2.2.1, ckeep hq h.2.2.2⟩
/-- The text that the law has put together after some parts. -/
def upTo (p : Pg) (m : Nat) : List UInt8 := p.letter :: (p.hd ++ (p.pks.take m).flatMap Pg.ser)
theorem upTo_succ {p q : Pg} {m : Nat} (h : p.pks[m]? = some q) : bs (upTo p (m + 1)) = bs (upTo p m) ++ bs q.ser := by
  rw [bs_append]; unfold upTo; rw [List.take_add_one, h]; simp [List.flatMap_append]
theorem upTo_end (p : Pg) : upTo p p.pks.length = p.ser := by
  unfold upTo; rw [List.take_of_length_le (Nat.le_refl _), p.ser_eq]
theorem upTo_len (p : Pg) (m : Nat) : (upTo p m).length ≤ p.ser.length := by
  rw [← upTo_end p]; unfold upTo
  rw [List.take_of_length_le (Nat.le_refl p.pks.length)]
  have h : (p.pks.flatMap Pg.ser) = (p.pks.take m).flatMap Pg.ser ++ (p.pks.drop m).flatMap Pg.ser := by rw [← List.flatMap_append, List.take_append_drop]
  rw [h]; simp
theorem upTo_zero {t : ByteArray} {p : Pg} (h : t.data.toList = p.ser) : t.extract 0 1 ++ bs p.hd = bs (upTo p 0) := by
  obtain rfl := text_eq h
  rw [p.ser_eq]
  have : (bs (p.letter :: (p.hd ++ p.pks.flatMap Pg.ser))).extract 0 1 = bs [p.letter] := by
    apply ByteArray.ext
    apply Array.ext'
    simp [bs]
  first | rw [this, bs_append] | (simp only [List.cons_append] at *; rw [this, bs_append])
  simp [upTo]

set_option maxRecDepth 100000 in
set_option maxHeartbeats 16000000 in
theorem walkProgramParts {a0 : Option Addr} {len0 cap0 : Nat} {z0 : List Int} (w : World) (h0 : IsRow w a0 len0 cap0 z0) :
    Calls Try.prog 3 #[.slice a0 len0 cap0] w fun e w' => e = .returned (.bool true) ∧ Below w.heap.size w w' := by
  have D := Lib.hid (dDrawPartsOf h0)
  clear h0
  by_cases hl : (1048576 : Int) < len0
  · go_enter Try.func3, Try.ntmps3
    go_wp2_with fail
    go_ret
    exact ⟨rfl, Below.refl _ _⟩
  · go_enter Try.func3, Try.ntmps3
    go_wp2_with fail
    refine D.out.mono ?_
    rintro e w1 ⟨t, ht, rfl, hb⟩
    have HB1 := Lib.hid hb
    clear hb D
    by_cases hv : PValid false t.data.toList ∧ t.size ≤ 200
    · obtain ⟨⟨p, hp, hs⟩, hsz⟩ := hv
      have C1 := fun w => Lib.hid (implParts_yes t w hp hs hsz)
      have C2 := fun w => Lib.hid (specParts_yes t w hp hs hsz)
      have C3 := fun w => Lib.hid (implHead_yes t w hp hs hsz)
      have C4 := fun w => Lib.hid (specHead_yes t w hp hs hsz)
      have C5 := fun w => Lib.hid (implPV_yes t w hp hs hsz)
      have C6 := fun w => Lib.hid (specPV_yes t w ⟨p, hp, hs⟩ hsz)
      have hlen : p.ser.length ≤ 200 := by have := congrArg List.length hs; simp at this; omega
      have HSL := Lib.hid hlen
      have hok := Lib.hid hp
      have HU := Lib.hid (upTo_zero hs)
      have hhd : (bs p.hd).size ≤ 200 := by have := p.ser_eq; rw [bs_size]; have h2 := congrArg List.length this; simp at h2; omega
      have hone : (1 : Int) ≤ (t.size : Int) := by have := congrArg List.length hs; have h2 := p.ser_eq; rw [h2] at this; simp at this; omega
      have hone2 : 1 ≤ t.size := by omega
      have hmin : min 1 t.size = 1 := by omega
      have HTE := Lib.hid (text_eq hs)
      have f0 : ¬ 9223372036854775807 < 1 + (bs p.hd).size := by omega
      have hn2 := pks_le p
      clear hp hs hlen
      generalize bs p.hd = H at *
      go_wp2_with fail
      refine (C1 _).out.mono ?_
      rintro e w4 ⟨sl, rfl, hrow, hb⟩
      have HB4 := Lib.hid (bnext HB1.out hb)
      clear hb
      obtain ⟨sa, cap, rfl, hfa⟩ := hrow.forms
      rw [show (strs (p.pks.map Pg.ser)).length = p.pks.length by simp [strs]] at hfa ⊢
      go_wp2_with fail
      refine (C2 _).out.mono ?_
      rintro e w5 ⟨sl, rfl, hrow2, hb⟩
      have HB5 := Lib.hid (bnext HB4.out hb)
      obtain ⟨sb, cap2, rfl, hfb⟩ := hrow2.forms
      rw [show (strs (p.pks.map Pg.ser)).length = p.pks.length by simp [strs]] at hfb ⊢
      have HFA : Hid (0 < p.pks.length → ∃ g, sa = some ⟨g, 0, none⟩ ∧ ∀ (j : Nat) (u : Value), (strs (p.pks.map Pg.ser))[j]? = some u → w5.cell? ⟨g, j, none⟩ = some u) := fun h => by
        obtain ⟨g, e, hc⟩ := hfa h
        exact ⟨g, e, fun j u hu => ckeep hb (hc j u hu)⟩
      have HFB := Lib.hid hfb
      have HP5 := Lib.hid (Below.refl w5.heap.size w5)
      clear hb hfa hfb hrow hrow2
      go_wp2_with fail
      refine (C3 _).out.mono ?_
      rintro e w6 ⟨rfl, hb⟩
      have HB6 := Lib.hid (bnext HB5.out hb)
      have HP6 := Lib.hid (bnext HP5.out hb)
      clear hb
      go_wp2_with fail
      refine (C4 _).out.mono ?_
      rintro e w7 ⟨rfl, hb⟩
      have HB7 := Lib.hid (bnext HB6.out hb)
      have HP7 := Lib.hid (bnext HP6.out hb)
      clear hb
      go_wp2_with fail
      refine (C5 _).out.mono ?_
      rintro e w8 ⟨rfl, hb⟩
      have HB8 := Lib.hid (bnext HB7.out hb)
      have HP8 := Lib.hid (bnext HP7.out hb)
      clear hb
      go_wp2_with fail
      refine (C6 _).out.mono ?_
      rintro e w9 ⟨rfl, n9, rfl⟩
      have HB9 := Lib.hid (bdrewN HB8.out n9)
      have HP9 := Lib.hid (bdrewN HP8.out n9)
      generalize w8.drewN n9 = w9 at *
      go_wp2_with fail
      refine (C5 _).out.mono ?_
      rintro e w10 ⟨rfl, hb⟩
      have HB10 := Lib.hid (bnext HB9.out hb)
      have HP10 := Lib.hid (bnext HP9.out hb)
      clear hb
      have HB11 := HB10
      have HP11 := HP10
      go_wp2_with fail
      go_loopw [7, 8] (fun al i wr => ∃ m : Nat, m ≤ p.pks.length ∧ i = .int .i64 m ∧ al = .string (bs (upTo p m)) ∧ Hid (Below w.heap.size w wr) ∧ Hid (Below w5.heap.size w5 wr)) (fun _ i _ => p.pks.length - (intOf i).toNat)
      case atStart => exact ⟨0, Nat.zero_le _, rfl, by rw [HU.out], HB11.out, HP11.out⟩
      case round =>
        obtain ⟨m, hm, rfl, rfl, HB, HBP⟩ := hrel
        by_cases hlt : m < p.pks.length
        · have hq : p.pks[m]? = some p.pks[m] := List.getElem?_eq_getElem hlt
          have hmem : p.pks[m] ∈ p.pks := List.getElem_mem hlt
          have hstep := Lib.hid (upTo_succ hq)
          have hul := upTo_len p m
          generalize p.pks[m] = q at *
          obtain ⟨q1, q2⟩ := pok_mem' hok.out hmem
          obtain ⟨g, rfl, hcell⟩ := HFA.out (by omega)
          obtain ⟨g', rfl, hcell'⟩ := HFB.out (by omega)
          have hc1 := ckeep HBP.out (hcell m (.string (bs q.ser)) (by simp [strs, hq]))
          have hc2 := ckeep HBP.out (hcell' m (.string (bs q.ser)) (by simp [strs, hq]))
          have CQ := fun w => Lib.hid (implPV_yes (bs q.ser) w q1 rfl (by have := HSL.out; rw [bs_size]; omega))
          have hmi : (0 : Int) ≤ (m : Int) := by omega
          have hmi2 : (m : Int) < (p.pks.length : Int) := by omega
          have z1 : (bs (upTo p m)).size ≤ 200 := by have := HSL.out; rw [bs_size]; omega
          have z2 : (bs q.ser).size ≤ 200 := by have := HSL.out; rw [bs_size]; omega
          generalize bs (upTo p m) = A at *
          generalize bs q.ser = T at *
          have f1 : ¬ 9223372036854775807 < A.size + T.size := by omega
          have hBw := HB.out
          have hBp := HBP.out
          clear hcell hcell' hq hmem
          go_wp2_with fail
          have hS0 : Below w.heap.size w wr ∧ Below w5.heap.size w5 wr ∧ wr.cell? ⟨g, m, none⟩ = some (.string T) ∧ wr.cell? ⟨g', m, none⟩ = some (.string T) := ⟨hBw, hBp, hc1, hc2⟩
          have hS := keepG hS0 (Below.refl wr.heap.size wr).drew
          have eT : (T.toList == T.toList) = true := by simp
          clear hc1 hc2 hBw hBp
          go_region_held3 (fun w' => Below w.heap.size w w' ∧ Below w5.heap.size w5 w' ∧ w'.cell? ⟨g, m, none⟩ = some (.string T) ∧ w'.cell? ⟨g', m, none⟩ = some (.string T))
            (first | assumption | exact keepG (by assumption) hx)
            (first | (go_at_call 12; (with_reducible refine (CQ _).out.mono ?_); rintro e w20 ⟨rfl, hx⟩))
          all_goals
            go_split_ands
            go_wp2_with fail
            go_round
            case rel => exact ⟨m + 1, by omega, by go_num, by rw [hstep.out], by assumption, by assumption⟩
            case measure => simp [intOf]; omega
        · have em : m = p.pks.length := by omega
          subst em
          rw [upTo_end]
          go_wp2_with fail
          go_ret
          exact ⟨by rw [← HTE.out]; simp, HB.out⟩
    · have C1 := fun w => Lib.hid (implParts_no t w hv)
      have C2 := fun w => Lib.hid (specParts_no t w hv)
      have C3 := fun w => Lib.hid (implHead_no t w hv)
      have C4 := fun w => Lib.hid (specHead_no t w hv)
      have C5 := fun w => Lib.hid (implPV_no t w hv)
      have C6 := fun w => Lib.hid (specPV_no t w hv)
      clear hv
      go_wp2_with fail
      refine (C1 _).out.mono ?_
      rintro e w4 ⟨sl, rfl, hrow, hb⟩
      have HB4 := Lib.hid (bnext HB1.out hb)
      clear hb
      obtain ⟨sa, cap, rfl, hfa⟩ := hrow.forms
      go_wp2_with fail
      refine (C2 _).out.mono ?_
      rintro e w5 ⟨sl, rfl, hrow2, hb⟩
      have HB5 := Lib.hid (bnext HB4.out hb)
      obtain ⟨sb, cap2, rfl, hfb⟩ := hrow2.forms
      have HP5 := Lib.hid (Below.refl w5.heap.size w5)
      clear hb hfa hfb hrow hrow2
      go_wp2_with fail
      refine (C3 _).out.mono ?_
      rintro e w6 ⟨rfl, hb⟩
      have HB6 := Lib.hid (bnext HB5.out hb)
      have HP6 := Lib.hid (bnext HP5.out hb)
      clear hb
      go_wp2_with fail
      refine (C4 _).out.mono ?_
      rintro e w7 ⟨rfl, hb⟩
      have HB7 := Lib.hid (bnext HB6.out hb)
      have HP7 := Lib.hid (bnext HP6.out hb)
      clear hb
      go_wp2_with fail
      refine (C5 _).out.mono ?_
      rintro e w8 ⟨rfl, hb⟩
      have HB8 := Lib.hid (bnext HB7.out hb)
      have HP8 := Lib.hid (bnext HP7.out hb)
      clear hb
      go_wp2_with fail
      refine (C6 _).out.mono ?_
      rintro e w9 ⟨rfl, n9, rfl⟩
      have HB9 := Lib.hid (bdrewN HB8.out n9)
      have HP9 := Lib.hid (bdrewN HP8.out n9)
      generalize w8.drewN n9 = w9 at *
      go_wp2_with fail
      refine (C5 _).out.mono ?_
      rintro e w10 ⟨rfl, hb⟩
      have HB10 := Lib.hid (bnext HB9.out hb)
      have HP10 := Lib.hid (bnext HP9.out hb)
      clear hb
      go_wp2_with fail
      refine (C4 _).out.mono ?_
      rintro e w11 ⟨rfl, hb⟩
      have HB11 := Lib.hid (bnext HB10.out hb)
      have HP11 := Lib.hid (bnext HP10.out hb)
      clear hb
      go_wp2_with fail
      refine (C5 _).out.mono ?_
      rintro e w12 ⟨rfl, hb⟩
      have HB12 := Lib.hid (bnext HB11.out hb)
      have HP12 := Lib.hid (bnext HP11.out hb)
      clear hb
      go_wp2_with fail
      refine (C6 _).out.mono ?_
      rintro e w13 ⟨rfl, n13, rfl⟩
      have HB13 := Lib.hid (bdrewN HB12.out n13)
      have HP13 := Lib.hid (bdrewN HP12.out n13)
      generalize w12.drewN n13 = w13 at *
      go_wp2_with fail
      go_ret
      exact ⟨rfl, HB13.out⟩

set_option linter.unusedVariables false in
set_option maxRecDepth 100000 in
theorem liftedProgramParts (os : Os) (started : os.Started) (H : Type) (enc : TypeId × Value → H) :
    ReturnsInHanded {} Try.checked os 3 .any (Rows.fnProgramPartsSpec.pre6 enc Try.prog Try.f3 Rows.fnProgramPartsRow.domain false) (Rows.fnProgramPartsSpec.post enc Try.prog Try.f3 false true false false) := by
  refine returnsInHanded_of_change (C := Try.checked) Try.own started (by kernel_rfl) Try.func3
    (ChangeSpec.witness6 (enc := enc) (C := Try.checked) false ⟨#[], #[.slice none 0 0], []⟩ 8 (by kernel_rfl) (by kernel_rfl) (by kernel_rfl) (by kernel_rfl)) ?_
  intro W base args ds gs before hval0 hW hcnd _
  have hval : ∀ (j : Nat) t v, Try.f3.params[j]? = some t → args[j]? = some v → Value.okWide Try.prog W .any base t v := hval0
  have hW' := hW
  obtain ⟨p, q, hA0, hV, rfl, hfz, hnd⟩ := hW
  have hA : DataW.TrodAll enc Try.prog W 0 (fun _ => true) true Try.f3.params.toList args.toList ds p := hA0
  rw [Try.params3] at hA hval
  obtain ⟨v0, vs0, d0, ds0, p0, q0, hargs, rfl, rfl, h0, r0⟩ := trodAll_cons hA
  obtain ⟨rfl, rfl, rfl⟩ := trodAll_nil r0
  obtain rfl : args = #[v0] := by cases args; simp_all
  obtain ⟨rfl, rfl⟩ := trodVars_none hV
  obtain ⟨a0, len0, cap0, rfl⟩ := okWide_slice Try.underlying22 (hval 0 22 v0 rfl rfl)
  have k0 := h0
  have lt0 : ∀ x ∈ p0, x.block < W.heap.size := by obtain ⟨m, hm⟩ := k0; exact DataW.trod_lt m _ _ _ hm
  obtain ⟨z0, w0⟩ : ∃ zs, IsRow W a0 len0 cap0 zs := by
    obtain ⟨fuel, hf⟩ := h0
    rcases open_ints Try.underlying22 Try.underlying5 (by kernel_rfl) hf with ⟨hcs, _⟩ | ⟨x, l, c, zs, hcs, _, hl, hm, hz, _, hcell, hwz⟩
    · simp [Value.cells] at hcs
      obtain ⟨rfl, rfl, rfl⟩ := hcs
      exact ⟨[], .inl ⟨rfl, rfl, rfl, rfl⟩⟩
    · simp [Value.cells] at hcs
      obtain ⟨rfl, rfl, rfl⟩ := hcs
      exact ⟨zs, .inr ⟨_, rfl, hl, hm, by simpa using hz, hcell, hwz⟩⟩
  clear hA0 hval0
  refine (walkProgramParts W w0).mono fun e W' ⟨he, bel⟩ => ?_
  subst he
  exact ⟨_, rfl, _, _, _, [], _, [], hW', trodAll_mk1 (shut_bool Try.underlying4 _), (trodAll_cons_mk (Below.trod laidOut (by kernel_rfl) (of_decide_eq_true (by kernel_rfl)) k0 bel lt0) trodAll_mk0), rfl, bel.frame _, fun h => by cases h⟩

theorem programParts_holds : Rows.FnProgramPartsSaid :=
  OpenClaim.holds_of_wide 3 Try.f3 rfl rfl rfl rfl rfl rfl rfl ⟨rfl, rfl, rfl, rfl, rfl⟩ rfl rfl rfl rfl rfl (by kernel_rfl) Try.func3 (by kernel_rfl)
    (of_decide_eq_true (by kernel_rfl)) (by unfold Func.isWrapper; first | (rw [if_pos (by decide +kernel)]; kernel_rfl) | (rw [if_neg (by decide +kernel)]; exact ⟨rfl, rfl⟩))
    (fun os started H enc _ => liftedProgramParts os started H enc)

#print axioms programParts_holds
end Go.Proofs.Ytemkndpiljfefaa
