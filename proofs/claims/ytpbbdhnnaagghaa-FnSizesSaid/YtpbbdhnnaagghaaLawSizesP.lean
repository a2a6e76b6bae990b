/-
  The law of sizes, depths and loops is true at all bytes: no condition.
-/
import Derived.Test.YtpbbdhnnaagghaaRows
import Derived.Test.YtpbbdhnnaagghaaDrawP
import Derived.Test.YtpbbdhnnaagghaaAll
import Derived.Test.YtpbbdhnnaagghaaPO
import Derived.ProofKit
import Derived.OpenShut
import Derived.ShutString
import Derived.ChangeOld
namespace Go.Proofs.Ytpbbdhnnaagghaa
open Go.ChangeShapes Go.WideShapes Go.ChangeAt Go.RowKit
open Go.ChangeMaps (open_string shut_string)

theorem Try.own : ownKnob Try.prog.godebug = none := by kernel_rfl
theorem laidOut : laidOutB Try.prog = true := by kernel_rfl

theorem Row.forms {w : World} {B : Nat} {T : TypeId} {v : Value} {xs : List Value} (h : Row w B T v xs) : ∃ (a : Option Addr) (cap : Nat), v = .slice a xs.length cap ∧ (0 < xs.length → ∃ g, a = some ⟨g, 0, none⟩ ∧ ∀ (j : Nat) (u : Value), xs[j]? = some u → w.cell? ⟨g, j, none⟩ = some u) := by
  rcases h.cases with ⟨rfl, rfl⟩ | ⟨g, cap, rfl, _, _, hc⟩
  · exact ⟨none, 0, rfl, fun h => absurd h (by simp)⟩
  · exact ⟨_, cap, rfl, fun _ => ⟨g, rfl, hc⟩⟩

theorem first_byte {s : ByteArray} {p : Pg} (hs : s.data.toList = p.ser) : ∃ h : 0 < s.size, s[0] = p.letter := by
  have h0 : 0 < p.ser.length := by rw [Pg.ser_eq]; simp
  have h1 : 0 < s.size := by have := congrArg List.length hs; simp at this; omega
  refine ⟨h1, ?_⟩
  have e : s.data.toList[0]? = some s[0] := List.getElem?_eq_getElem (by simpa using h1)
  rw [hs, Pg.ser_eq] at e
  simpa using e.symm
theorem byte_b (c d : UInt8) : ((c.toNat : Int) == (d.toNat : Int)) = (c == d) := by
  rw [Bool.eq_iff_iff, beq_iff_eq, beq_iff_eq, UInt8.toNat_inj.symm]
  omega

def szA (p : Pg) (m : Nat) : Nat := 1 + ((p.pks.take m).map fun q => q.all.length).sum
def dpA (p : Pg) (m : Nat) : Nat := ((p.pks.take m).map Pg.dep).foldl max 0
def lpA (p : Pg) (m : Nat) : Nat := (if p.letter == 64 then 1 else 0) + ((p.pks.take m).map fun q => cntB 64 (q.all.map Pg.letter)).sum
theorem szA_succ {p q : Pg} {m : Nat} (h : p.pks[m]? = some q) : szA p (m + 1) = szA p m + q.all.length := by
  unfold szA; rw [List.take_add_one, h]; simp; omega
theorem dpA_succ {p q : Pg} {m : Nat} (h : p.pks[m]? = some q) : dpA p (m + 1) = max (dpA p m) q.dep := by
  unfold dpA; rw [List.take_add_one, h]; simp
theorem lpA_succ {p q : Pg} {m : Nat} (h : p.pks[m]? = some q) : lpA p (m + 1) = lpA p m + cntB 64 (q.all.map Pg.letter) := by
  unfold lpA; rw [List.take_add_one, h]; simp; omega
theorem szA_end (p : Pg) : szA p p.pks.length = p.all.length := by
  unfold szA; rw [List.take_of_length_le (Nat.le_refl _)]; cases p <;> simp [Pg.pks, Pg.all] <;> omega
theorem dpA_end (p : Pg) : dpA p p.pks.length + 1 = p.dep := by
  unfold dpA; rw [List.take_of_length_le (Nat.le_refl _), p.dep_eq]
theorem lpA_end (p : Pg) : lpA p p.pks.length = cntB 64 (p.all.map Pg.letter) := by
  unfold lpA; rw [List.take_of_length_le (Nat.le_refl _)]
  cases p <;> simp [Pg.pks, Pg.all, Pg.letter, cntB, List.countP_append] <;> omega
theorem dep_all (p : Pg) : p.dep ≤ p.all.length := by
  induction p <;> simp [Pg.dep, Pg.all] <;> omega
theorem cnt_all (p : Pg) : cntB 64 (p.all.map Pg.letter) ≤ p.all.length := by
  have := List.countP_le_length (p := fun x => x == 64) (l := p.all.map Pg.letter)
  simpa [cntB] using this

set_option maxRecDepth 100000 in
set_option maxHeartbeats 8000000 in
theorem walkSizes {a0 : Option Addr} {len0 cap0 : Nat} {z0 : List Int} (w : World) (h0 : IsRow w a0 len0 cap0 z0) :
    Calls Try.prog 4 #[.slice a0 len0 cap0] w fun e w' => e = .returned (.bool true) ∧ Below w.heap.size w w' := by
  have D := Lib.hid (dDrawSizeOf h0)
  clear h0
  by_cases hl : (1048576 : Int) < len0
  · go_enter Try.func4, Try.ntmps4
    go_wp2_with fail
    go_ret
    exact ⟨rfl, Below.refl _ _⟩
  · go_enter Try.func4, Try.ntmps4
    go_wp2_with fail
    refine D.out.mono ?_
    rintro e w1 ⟨t, ht, rfl, hb⟩
    have HB1 := Lib.hid hb
    clear hb D
    by_cases hv : PValid false t.data.toList ∧ t.size ≤ 200
    · obtain ⟨⟨p, hp, hs⟩, hsz⟩ := hv
      have C1 := fun w => Lib.hid (implSize_yes t w hp hs hsz)
      have C2 := fun w => Lib.hid (implDepth_yes t w hp hs hsz)
      have C3 := fun w => Lib.hid (implLoop_yes t w hp hs hsz)
      have C4 := fun w => Lib.hid (specSize_yes t w hp hs hsz)
      have C5 := fun w => Lib.hid (specDepth_yes t w hp hs hsz)
      have C6 := fun w => Lib.hid (specLoop_yes t w hp hs hsz)
      have HPA := fun w => Lib.hid (implParts_yes t w hp hs hsz)
      obtain ⟨h0, hb0⟩ := first_byte hs
      have hlen : p.ser.length ≤ 200 := by have := congrArg List.length hs; simp at this; omega
      have HSL := Lib.hid hlen
      have hok := Lib.hid hp
      have e64 : ((t[0].toNat : Int) == 64) = (p.letter == 64) := by rw [hb0]; exact byte_b _ 64
      have hn2 := pks_le p
      have d1 : p.dep ≤ p.all.length := dep_all p
      have d2 : p.all.length ≤ 200 := Nat.le_trans p.all_le hlen
      clear hp hs hb0 hlen
      generalize hN : p.all.length = N at *
      generalize hD : p.dep = D at *
      generalize hL : cntB 64 (p.all.map Pg.letter) = L at *
      have HN := Lib.hid hN
      have HD := Lib.hid hD
      have HL := Lib.hid hL
      have hn0 : ¬ (N : Int) < 0 := by omega
      clear hN hD hL
      go_wp2_with fail
      refine (C1 _).out.mono ?_
      rintro e w2 ⟨rfl, hb⟩
      have HB2 := Lib.hid (bnext HB1.out hb)
      clear hb
      go_wp2_with fail
      refine (C2 _).out.mono ?_
      rintro e w3 ⟨rfl, hb⟩
      have HB3 := Lib.hid (bnext HB2.out hb)
      clear hb
      go_wp2_with fail
      refine (C3 _).out.mono ?_
      rintro e w4 ⟨rfl, hb⟩
      have HB4 := Lib.hid (bnext HB3.out hb)
      clear hb
      go_wp2_with fail
      refine (C4 _).out.mono ?_
      rintro e w5 ⟨rfl, hb⟩
      have HB5 := Lib.hid (bnext HB4.out hb)
      clear hb
      go_wp2_with fail
      refine (C5 _).out.mono ?_
      rintro e w6 ⟨rfl, hb⟩
      have HB6 := Lib.hid (bnext HB5.out hb)
      clear hb
      go_wp2_with fail
      refine (C6 _).out.mono ?_
      rintro e w7 ⟨rfl, hb⟩
      have HB7 := Lib.hid (bnext HB6.out hb)
      clear hb
      have HB9 := HB7
      cases y64 : ((t[0].toNat : Int) == 64)
      · have HL0 : Hid (lpA p 0 = 0) := by show _ = _; unfold lpA; rw [← e64, y64]; rfl
        clear e64
        go_wp2_with fail
        refine (HPA _).out.mono ?_
        rintro e w10 ⟨sl, rfl, hrow, hb⟩
        have HB10 := Lib.hid (bnext HB9.out hb)
        obtain ⟨sa, cap, rfl, hf⟩ := hrow.forms
        rw [show (strs (p.pks.map Pg.ser)).length = p.pks.length by simp [strs]] at hf ⊢
        have HF := Lib.hid hf
        clear hb hf hrow
        go_wp2_with fail
        go_loopw [8, 9, 10, 11] (fun sv dv lv i wr => ∃ m : Nat, m ≤ p.pks.length ∧ i = .int .i64 m ∧ sv = .int .i64 (szA p m) ∧ dv = .int .i64 (dpA p m) ∧ lv = .int .i64 (lpA p m) ∧ szA p m ≤ 1 + 200 * m ∧ dpA p m ≤ 200 ∧ lpA p m ≤ 1 + 200 * m ∧ Hid (Below w.heap.size w wr) ∧ Hid (Below w10.heap.size w10 wr)) (fun _ _ _ i _ => p.pks.length - (intOf i).toNat)
        case atStart => exact ⟨0, Nat.zero_le _, rfl, by simp [szA], by simp [dpA], by rw [HL0.out]; rfl, by simp [szA], by simp [dpA], by rw [HL0.out]; omega, HB10.out, Below.refl _ _⟩
        case round =>
          obtain ⟨m, hm, rfl, rfl, rfl, rfl, b1, b2, b3, HB, HBP⟩ := hrel
          by_cases hlt : m < p.pks.length
          · have hq : p.pks[m]? = some p.pks[m] := List.getElem?_eq_getElem hlt
            have hmem : p.pks[m] ∈ p.pks := List.getElem_mem hlt
            have S1 := Lib.hid (szA_succ hq)
            have S2 := Lib.hid (dpA_succ hq)
            have S3 := Lib.hid (lpA_succ hq)
            generalize p.pks[m] = q at *
            obtain ⟨q1, q2⟩ := pok_mem' hok.out hmem
            obtain ⟨g, rfl, hcell⟩ := HF.out (by omega)
            have hc0 := hcell m (.string (bs q.ser)) (by simp [strs, hq])
            have hc1 := ckeep HBP.out hc0
            have Q1 := fun w => Lib.hid (implSize_yes (bs q.ser) w q1 rfl (by have := HSL.out; rw [bs_size]; omega))
            have Q2 := fun w => Lib.hid (implDepth_yes (bs q.ser) w q1 rfl (by have := HSL.out; rw [bs_size]; omega))
            have Q3 := fun w => Lib.hid (implLoop_yes (bs q.ser) w q1 rfl (by have := HSL.out; rw [bs_size]; omega))
            have c1 : q.all.length ≤ 200 := by have := q.all_le; have := HSL.out; omega
            have c2 : q.dep ≤ 200 := by have := dep_all q; omega
            have c3 : cntB 64 (q.all.map Pg.letter) ≤ 200 := by have := cnt_all q; omega
            have hmi : (0 : Int) ≤ (m : Int) := by omega
            have hmi2 : (m : Int) < (p.pks.length : Int) := by omega
            generalize szA p m = A at *
            generalize dpA p m = B at *
            generalize lpA p m = L at *
            generalize bs q.ser = T at *
            generalize q.all.length = X at *
            generalize q.dep = Y at *
            generalize cntB 64 (q.all.map Pg.letter) = Z at *
            have ew1 : IntKind.i64.wrap ((A : Int) + (X : Int)) = (A : Int) + (X : Int) := IntWalk.i64_in _ (by omega)
            have ew3 : IntKind.i64.wrap ((L : Int) + (Z : Int)) = (L : Int) + (Z : Int) := IntWalk.i64_in _ (by omega)
            clear hcell hc0 hq hmem q1 q2
            by_cases hAD : (B : Int) < (Y : Int)
            · have HM : Hid (max B Y = Y) := by show max B Y = Y; omega
              go_wp2_with fail
              refine (Q1 _).out.mono ?_
              rintro e w21 ⟨rfl, hb⟩
              have HX1 := Lib.hid (bnext HB.out hb)
              have HY1 := Lib.hid (bnext HBP.out hb)
              have hc2 := ckeep hb hc1
              clear hb
              go_wp2_with fail
              refine (Q2 _).out.mono ?_
              rintro e w22 ⟨rfl, hb⟩
              have HX2 := Lib.hid (bnext HX1.out hb)
              have HY2 := Lib.hid (bnext HY1.out hb)
              have hc3 := ckeep hb hc2
              clear hb
              go_wp2_with fail
              refine (Q3 _).out.mono ?_
              rintro e w23 ⟨rfl, hb⟩
              have HX3 := Lib.hid (bnext HX2.out hb)
              have HY3 := Lib.hid (bnext HY2.out hb)
              clear hb
              go_wp2_with fail
              go_round
              case rel => exact ⟨m + 1, by omega, by go_num, by rw [S1.out, Int.natCast_add], by rw [S2.out, HM.out], by rw [S3.out, Int.natCast_add], by rw [S1.out]; omega, by rw [S2.out]; omega, by rw [S3.out]; omega, HX3.out, HY3.out⟩
              case measure => simp [intOf]; omega
            · have HM : Hid (max B Y = B) := by show max B Y = B; omega
              go_wp2_with fail
              refine (Q1 _).out.mono ?_
              rintro e w21 ⟨rfl, hb⟩
              have HX1 := Lib.hid (bnext HB.out hb)
              have HY1 := Lib.hid (bnext HBP.out hb)
              have hc2 := ckeep hb hc1
              clear hb
              go_wp2_with fail
              refine (Q2 _).out.mono ?_
              rintro e w22 ⟨rfl, hb⟩
              have HX2 := Lib.hid (bnext HX1.out hb)
              have HY2 := Lib.hid (bnext HY1.out hb)
              have hc3 := ckeep hb hc2
              clear hb
              go_wp2_with fail
              refine (Q3 _).out.mono ?_
              rintro e w23 ⟨rfl, hb⟩
              have HX3 := Lib.hid (bnext HX2.out hb)
              have HY3 := Lib.hid (bnext HY2.out hb)
              clear hb
              go_wp2_with fail
              go_round
              case rel => exact ⟨m + 1, by omega, by go_num, by rw [S1.out, Int.natCast_add], by rw [S2.out, HM.out], by rw [S3.out, Int.natCast_add], by rw [S1.out]; omega, by rw [S2.out]; omega, by rw [S3.out]; omega, HX3.out, HY3.out⟩
              case measure => simp [intOf]; omega
          · have em : m = p.pks.length := by omega
            subst em
            have E1 := Lib.hid (szA_end p)
            have E2 := Lib.hid (dpA_end p)
            have E3 := Lib.hid (lpA_end p)
            rw [show szA p p.pks.length = N from E1.out.trans HN.out, show lpA p p.pks.length = L from E3.out.trans HL.out]
            generalize dpA p p.pks.length = B at *
            obtain rfl : D = B + 1 := by rw [← HD.out, ← E2.out]
            have ew : IntKind.i64.wrap ((B : Int) + 1) = (B : Int) + 1 := IntWalk.i64_in _ (by omega)
            have hle : (B : Int) + 1 ≤ (N : Int) := by omega
            go_wp2_with fail
            go_ret
            exact ⟨by simp, HB.out⟩
      · have HL0 : Hid (lpA p 0 = 1) := by show _ = _; unfold lpA; rw [← e64, y64]; rfl
        clear e64
        go_wp2_with fail
        refine (HPA _).out.mono ?_
        rintro e w10 ⟨sl, rfl, hrow, hb⟩
        have HB10 := Lib.hid (bnext HB9.out hb)
        obtain ⟨sa, cap, rfl, hf⟩ := hrow.forms
        rw [show (strs (p.pks.map Pg.ser)).length = p.pks.length by simp [strs]] at hf ⊢
        have HF := Lib.hid hf
        clear hb hf hrow
        go_wp2_with fail
        go_loopw [8, 9, 10, 11] (fun sv dv lv i wr => ∃ m : Nat, m ≤ p.pks.length ∧ i = .int .i64 m ∧ sv = .int .i64 (szA p m) ∧ dv = .int .i64 (dpA p m) ∧ lv = .int .i64 (lpA p m) ∧ szA p m ≤ 1 + 200 * m ∧ dpA p m ≤ 200 ∧ lpA p m ≤ 1 + 200 * m ∧ Hid (Below w.heap.size w wr) ∧ Hid (Below w10.heap.size w10 wr)) (fun _ _ _ i _ => p.pks.length - (intOf i).toNat)
        case atStart => exact ⟨0, Nat.zero_le _, rfl, by simp [szA], by simp [dpA], by rw [HL0.out]; rfl, by simp [szA], by simp [dpA], by rw [HL0.out]; omega, HB10.out, Below.refl _ _⟩
        case round =>
          obtain ⟨m, hm, rfl, rfl, rfl, rfl, b1, b2, b3, HB, HBP⟩ := hrel
          by_cases hlt : m < p.pks.length
          · have hq : p.pks[m]? = some p.pks[m] := List.getElem?_eq_getElem hlt
            have hmem : p.pks[m] ∈ p.pks := List.getElem_mem hlt
            have S1 := Lib.hid (szA_succ hq)
            have S2 := Lib.hid (dpA_succ hq)
            have S3 := Lib.hid (lpA_succ hq)
            generalize p.pks[m] = q at *
            obtain ⟨q1, q2⟩ := pok_mem' hok.out hmem
            obtain ⟨g, rfl, hcell⟩ := HF.out (by omega)
            have hc0 := hcell m (.string (bs q.ser)) (by simp [strs, hq])
            have hc1 := ckeep HBP.out hc0
            have Q1 := fun w => Lib.hid (implSize_yes (bs q.ser) w q1 rfl (by have := HSL.out; rw [bs_size]; omega))
            have Q2 := fun w => Lib.hid (implDepth_yes (bs q.ser) w q1 rfl (by have := HSL.out; rw [bs_size]; omega))
            have Q3 := fun w => Lib.hid (implLoop_yes (bs q.ser) w q1 rfl (by have := HSL.out; rw [bs_size]; omega))
            have c1 : q.all.length ≤ 200 := by have := q.all_le; have := HSL.out; omega
            have c2 : q.dep ≤ 200 := by have := dep_all q; omega
            have c3 : cntB 64 (q.all.map Pg.letter) ≤ 200 := by have := cnt_all q; omega
            have hmi : (0 : Int) ≤ (m : Int) := by omega
            have hmi2 : (m : Int) < (p.pks.length : Int) := by omega
            generalize szA p m = A at *
            generalize dpA p m = B at *
            generalize lpA p m = L at *
            generalize bs q.ser = T at *
            generalize q.all.length = X at *
            generalize q.dep = Y at *
            generalize cntB 64 (q.all.map Pg.letter) = Z at *
            have ew1 : IntKind.i64.wrap ((A : Int) + (X : Int)) = (A : Int) + (X : Int) := IntWalk.i64_in _ (by omega)
            have ew3 : IntKind.i64.wrap ((L : Int) + (Z : Int)) = (L : Int) + (Z : Int) := IntWalk.i64_in _ (by omega)
            clear hcell hc0 hq hmem q1 q2
            by_cases hAD : (B : Int) < (Y : Int)
            · have HM : Hid (max B Y = Y) := by show max B Y = Y; omega
              go_wp2_with fail
              refine (Q1 _).out.mono ?_
              rintro e w21 ⟨rfl, hb⟩
              have HX1 := Lib.hid (bnext HB.out hb)
              have HY1 := Lib.hid (bnext HBP.out hb)
              have hc2 := ckeep hb hc1
              clear hb
              go_wp2_with fail
              refine (Q2 _).out.mono ?_
              rintro e w22 ⟨rfl, hb⟩
              have HX2 := Lib.hid (bnext HX1.out hb)
              have HY2 := Lib.hid (bnext HY1.out hb)
              have hc3 := ckeep hb hc2
              clear hb
              go_wp2_with fail
              refine (Q3 _).out.mono ?_
              rintro e w23 ⟨rfl, hb⟩
              have HX3 := Lib.hid (bnext HX2.out hb)
              have HY3 := Lib.hid (bnext HY2.out hb)
              clear hb
              go_wp2_with fail
              go_round
              case rel => exact ⟨m + 1, by omega, by go_num, by rw [S1.out, Int.natCast_add], by rw [S2.out, HM.out], by rw [S3.out, Int.natCast_add], by rw [S1.out]; omega, by rw [S2.out]; omega, by rw [S3.out]; omega, HX3.out, HY3.out⟩
              case measure => simp [intOf]; omega
            · have HM : Hid (max B Y = B) := by show max B Y = B; omega
              go_wp2_with fail
              refine (Q1 _).out.mono ?_
              rintro e w21 ⟨rfl, hb⟩
              have HX1 := Lib.hid (bnext HB.out hb)
              have HY1 := Lib.hid (bnext HBP.out hb)
              have hc2 := ckeep hb hc1
              clear hb
              go_wp2_with fail
              refine (Q2 _).out.mono ?_
              rintro e w22 ⟨rfl, hb⟩
              have HX2 := Lib.hid (bnext HX1.out hb)
              have HY2 := Lib.hid (bnext HY1.out hb)
              have hc3 := ckeep hb hc2
              clear hb
              go_wp2_with fail
              refine (Q3 _).out.mono ?_
              rintro e w23 ⟨rfl, hb⟩
              have HX3 := Lib.hid (bnext HX2.out hb)
              have HY3 := Lib.hid (bnext HY2.out hb)
              clear hb
              go_wp2_with fail
              go_round
              case rel => exact ⟨m + 1, by omega, by go_num, by rw [S1.out, Int.natCast_add], by rw [S2.out, HM.out], by rw [S3.out, Int.natCast_add], by rw [S1.out]; omega, by rw [S2.out]; omega, by rw [S3.out]; omega, HX3.out, HY3.out⟩
              case measure => simp [intOf]; omega
          · have em : m = p.pks.length := by omega
            subst em
            have E1 := Lib.hid (szA_end p)
            have E2 := Lib.hid (dpA_end p)
            have E3 := Lib.hid (lpA_end p)
            rw [show szA p p.pks.length = N from E1.out.trans HN.out, show lpA p p.pks.length = L from E3.out.trans HL.out]
            generalize dpA p p.pks.length = B at *
            obtain rfl : D = B + 1 := by rw [← HD.out, ← E2.out]
            have ew : IntKind.i64.wrap ((B : Int) + 1) = (B : Int) + 1 := IntWalk.i64_in _ (by omega)
            have hle : (B : Int) + 1 ≤ (N : Int) := by omega
            go_wp2_with fail
            go_ret
            exact ⟨by simp, HB.out⟩
    · have C1 := fun w => Lib.hid (implSize_no t w hv)
      have C2 := fun w => Lib.hid (implDepth_no t w hv)
      have C3 := fun w => Lib.hid (implLoop_no t w hv)
      have C4 := fun w => Lib.hid (specSize_no t w hv)
      have C5 := fun w => Lib.hid (specDepth_no t w hv)
      have C6 := fun w => Lib.hid (specLoop_no t w hv)
      have C7 := fun w => Lib.hid (implPV_no t w hv)
      clear hv
      go_wp2_with fail
      refine (C1 _).out.mono ?_
      rintro e w2 ⟨rfl, hb⟩
      have HB2 := Lib.hid (bnext HB1.out hb)
      clear hb
      go_wp2_with fail
      refine (C2 _).out.mono ?_
      rintro e w3 ⟨rfl, hb⟩
      have HB3 := Lib.hid (bnext HB2.out hb)
      clear hb
      go_wp2_with fail
      refine (C3 _).out.mono ?_
      rintro e w4 ⟨rfl, hb⟩
      have HB4 := Lib.hid (bnext HB3.out hb)
      clear hb
      go_wp2_with fail
      refine (C4 _).out.mono ?_
      rintro e w5 ⟨rfl, hb⟩
      have HB5 := Lib.hid (bnext HB4.out hb)
      clear hb
      go_wp2_with fail
      refine (C5 _).out.mono ?_
      rintro e w6 ⟨rfl, hb⟩
      have HB6 := Lib.hid (bnext HB5.out hb)
      clear hb
      go_wp2_with fail
      refine (C6 _).out.mono ?_
      rintro e w7 ⟨rfl, hb⟩
      have HB7 := Lib.hid (bnext HB6.out hb)
      clear hb
      go_wp2_with fail
      refine (C4 _).out.mono ?_
      rintro e w8 ⟨rfl, hb⟩
      have HB8 := Lib.hid (bnext HB7.out hb)
      clear hb
      go_wp2_with fail
      refine (C5 _).out.mono ?_
      rintro e w9 ⟨rfl, hb⟩
      have HB9 := Lib.hid (bnext HB8.out hb)
      clear hb
      go_wp2_with fail
      refine (C6 _).out.mono ?_
      rintro e w10 ⟨rfl, hb⟩
      have HB10 := Lib.hid (bnext HB9.out hb)
      clear hb
      go_wp2_with fail
      refine (C7 _).out.mono ?_
      rintro e w11 ⟨rfl, hb⟩
      have HB11 := Lib.hid (bnext HB10.out hb)
      clear hb
      go_wp2_with fail
      go_ret
      exact ⟨rfl, HB11.out⟩

set_option linter.unusedVariables false in
set_option maxRecDepth 100000 in
theorem liftedSizes (os : Os) (started : os.Started) (H : Type) (enc : TypeId × Value → H) :
    ReturnsInHanded {} Try.checked os 4 .any (Rows.fnSizesSpec.pre6 enc Try.prog Try.f4 Rows.fnSizesRow.domain false) (Rows.fnSizesSpec.post enc Try.prog Try.f4 false true false false) := by
  refine returnsInHanded_of_change (C := Try.checked) Try.own started (by kernel_rfl) Try.func4
    (ChangeSpec.witness6 (enc := enc) (C := Try.checked) false ⟨#[], #[.slice none 0 0], []⟩ 8 (by kernel_rfl) (by kernel_rfl) (by kernel_rfl) (by kernel_rfl)) ?_
  intro W base args ds gs before hval0 hW hcnd _
  have hval : ∀ (j : Nat) t v, Try.f4.params[j]? = some t → args[j]? = some v → Value.okWide Try.prog W .any base t v := hval0
  have hW' := hW
  obtain ⟨p, q, hA0, hV, rfl, hfz, hnd⟩ := hW
  have hA : DataW.TrodAll enc Try.prog W 0 (fun _ => true) true Try.f4.params.toList args.toList ds p := hA0
  rw [Try.params4] at hA hval
  obtain ⟨v0, vs0, d0, ds0, p0, q0, hargs, rfl, rfl, h0, r0⟩ := trodAll_cons hA
  obtain ⟨rfl, rfl, rfl⟩ := trodAll_nil r0
  obtain rfl : args = #[v0] := by cases args; simp_all
  obtain ⟨rfl, rfl⟩ := trodVars_none hV
  obtain ⟨a0, len0, cap0, rfl⟩ := okWide_slice Try.underlying22 (hval 0 22 v0 rfl rfl)
  have k0 := h0
  have lt0 : ∀ x ∈ p0, x.block < W.heap.size := by obtain ⟨m, hm⟩ := k0; exact DataW.trod_lt m _ _ _ hm
  obtain ⟨z0, w0⟩ : ∃ zs, IsRow W a0 len0 cap0 zs := by
    obtain ⟨fuel, hf⟩ := h0
    rcases open_ints Try.underlying22 Try.underlying5 (by kernel_rfl) hf with ⟨hcs, _⟩ | ⟨x, l, c, zs, hcs, _, hl, hm, hz, _, hcell, hwz⟩
    · simp [Value.cells] at hcs
      obtain ⟨rfl, rfl, rfl⟩ := hcs
      exact ⟨[], .inl ⟨rfl, rfl, rfl, rfl⟩⟩
    · simp [Value.cells] at hcs
      obtain ⟨rfl, rfl, rfl⟩ := hcs
      exact ⟨zs, .inr ⟨_, rfl, hl, hm, by simpa using hz, hcell, hwz⟩⟩
  clear hA0 hval0
  refine (walkSizes W w0).mono fun e W' ⟨he, bel⟩ => ?_
  subst he
  exact ⟨_, rfl, _, _, _, [], _, [], hW', trodAll_mk1 (shut_bool Try.underlying4 _), (trodAll_cons_mk (Below.trod laidOut (by kernel_rfl) (of_decide_eq_true (by kernel_rfl)) k0 bel lt0) trodAll_mk0), rfl, bel.frame _, fun h => by cases h⟩

theorem sizes_holds : Rows.FnSizesSaid :=
  OpenClaim.holds_of_wide 4 Try.f4 rfl rfl rfl rfl rfl rfl rfl ⟨rfl, rfl, rfl, rfl, rfl⟩ rfl rfl rfl rfl rfl (by kernel_rfl) Try.func4 (by kernel_rfl)
    (of_decide_eq_true (by kernel_rfl)) (by unfold Func.isWrapper; first | (rw [if_pos (by decide +kernel)]; kernel_rfl) | (rw [if_neg (by decide +kernel)]; exact ⟨rfl, rfl⟩))
    (fun os started H enc _ => liftedSizes os started H enc)

#print axioms sizes_holds
end Go.Proofs.Ytpbbdhnnaagghaa
