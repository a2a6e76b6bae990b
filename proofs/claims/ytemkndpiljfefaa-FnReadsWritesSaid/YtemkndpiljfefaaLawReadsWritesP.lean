/-
  The law of what is read and written is true at all bytes: no condition.
-/
import Derived.Test.YtemkndpiljfefaaRows
import Derived.Test.YtemkndpiljfefaaTopQ
import Derived.Deep.RegionHeld3
import Derived.Test.YtemkndpiljfefaaTxO
import Derived.Test.YtemkndpiljfefaaHdO
import Derived.ProofKit
import Derived.OpenShut
import Derived.ShutString
import Derived.ChangeOld
namespace Go.Proofs.Ytemkndpiljfefaa
open Go.ChangeShapes Go.WideShapes Go.ChangeAt Go.RowKit
open Go.ChangeMaps (open_string shut_string)

theorem Try.own : ownKnob Try.prog.godebug = none := by kernel_rfl
theorem laidOut : laidOutB Try.prog = true := by kernel_rfl

theorem Row.forms {w : World} {B : Nat} {T : TypeId} {v : Value} {xs : List Value} (h : Row w B T v xs) : ∃ (a : Option Addr) (cap : Nat), v = .slice a xs.length cap ∧ (0 < xs.length → ∃ g, a = some ⟨g, 0, none⟩ ∧ ∀ (j : Nat) (u : Value), xs[j]? = some u → w.cell? ⟨g, j, none⟩ = some u) := by
  rcases h.cases with ⟨rfl, rfl⟩ | ⟨g, cap, rfl, _, _, hc⟩
  · exact ⟨none, 0, rfl, fun h => absurd h (by simp)⟩
  · exact ⟨_, cap, rfl, fun _ => ⟨g, rfl, hc⟩⟩
theorem pok_mem2 {p q : Pg} (hp : p.ok false) (h : q ∈ p.pks) : q.ok false ∧ q.ser.length ≤ p.ser.length := by
  cases p <;> simp [Pg.pks] at h
  case seq a b => rcases h with rfl | rfl <;> simp [Pg.ser] <;> first | exact ⟨hp.1, by omega⟩ | exact ⟨hp.2, by omega⟩
  case ite t a b => rcases h with rfl | rfl <;> simp [Pg.ser] <;> first | exact ⟨hp.2.1, by omega⟩ | exact ⟨hp.2.2, by omega⟩
  case whl t a => subst h; simp [Pg.ser]; exact ⟨hp.2, by omega⟩
  case cho a b => rcases h with rfl | rfl <;> simp [Pg.ser] <;> first | exact ⟨hp.1, by omega⟩ | exact ⟨hp.2, by omega⟩
theorem pks_le2 (p : Pg) : p.pks.length ≤ 2 := by cases p <;> simp [Pg.pks]
theorem first_byte {s : ByteArray} {p : Pg} (hs : s.data.toList = p.ser) : ∃ h : 0 < s.size, s[0] = p.letter := by
  have h0 : 0 < p.ser.length := by rw [Pg.ser_eq]; simp
  have h1 : 0 < s.size := by have := congrArg List.length hs; simp at this; omega
  refine ⟨h1, ?_⟩
  have e : s.data.toList[0]? = some s[0] := List.getElem?_eq_getElem (by simpa using h1)
  rw [hs, Pg.ser_eq] at e
  simpa using e.symm
theorem byte_b2 (c d : UInt8) : ((c.toNat : Int) == (d.toNat : Int)) = (c == d) := by
  rw [Bool.eq_iff_iff, beq_iff_eq, beq_iff_eq, UInt8.toNat_inj.symm]
  omega
def rwL (wr : Bool) (p : Pg) : List UInt8 := p.all.flatMap (Pg.rwq wr)
/-- Is the letter read (written) by the head or by one of the first m parts? -/
def rwA (wr : Bool) (c : UInt8) (p : Pg) (m : Nat) : Bool := decide (c ∈ Pg.rwq wr p) || (p.pks.take m).any fun q => decide (c ∈ rwL wr q)
theorem rwA_succ {wr : Bool} {c : UInt8} {p q : Pg} {m : Nat} (h : p.pks[m]? = some q) : rwA wr c p (m + 1) = (rwA wr c p m || decide (c ∈ rwL wr q)) := by
  unfold rwA; rw [List.take_add_one, h]; simp [Bool.or_assoc]
theorem rwA_end (wr : Bool) (c : UInt8) (p : Pg) : rwA wr c p p.pks.length = decide (c ∈ rwL wr p) := by
  have e : rwL wr p = Pg.rwq wr p ++ p.pks.flatMap (rwL wr) := rw_parts wr p
  unfold rwA
  rw [List.take_of_length_le (Nat.le_refl _), Bool.eq_iff_iff, Bool.or_eq_true, decide_eq_true_eq, decide_eq_true_eq, List.any_eq_true, e, List.mem_append, List.mem_flatMap]
  simp
theorem hasV {l : List UInt8} {c : UInt8} (hc : c = 120 ∨ c = 121 ∨ c = 122) : decide (c ∈ (bs (vlist [120, 121, 122] l)).data.toList) = decide (c ∈ l) := by
  rw [bsl, decide_eq_decide, vlistIn _ _ hc]

theorem asg_of {p : Pg} (h : p.letter = 97) : ∃ v es, p.hd = v :: es ∧ Pg.rwq false p = es ∧ Pg.rwq true p = [v] := by
  cases p <;> first | exact ⟨_, _, rfl, rfl, rfl⟩ | (simp [Pg.letter] at h)
theorem other_of {p : Pg} (h : p.letter ≠ 97) : Pg.rwq false p = p.hd ∧ Pg.rwq true p = [] := by
  cases p <;> first | (exfalso; exact h rfl) | (constructor <;> simp [Pg.rwq])
theorem letter_at {k : Nat} (hk : k < 3) : ∃ c : UInt8, (c = 120 ∨ c = 121 ∨ c = 122) ∧ (⟨#[120, 121, 122]⟩ : ByteArray).extract k (k + 1) = ⟨#[c]⟩ := by
  rcases (show k = 0 ∨ k = 1 ∨ k = 2 by omega) with rfl | rfl | rfl
  · exact ⟨120, by simp, by decide +kernel⟩
  · exact ⟨121, by simp, by decide +kernel⟩
  · exact ⟨122, by simp, by decide +kernel⟩
theorem rwA_zero (wr : Bool) (c : UInt8) (p : Pg) : rwA wr c p 0 = decide (c ∈ Pg.rwq wr p) := by simp [rwA]

theorem byte_97 {c : UInt8} (h : (c == 97) = true) : c = 97 := by simpa using h

set_option maxRecDepth 100000 in
set_option maxHeartbeats 16000000 in
theorem walkReadsWrites {a0 : Option Addr} {len0 cap0 : Nat} {z0 : List Int} (w : World) (h0 : IsRow w a0 len0 cap0 z0) :
    Calls Try.prog 4 #[.slice a0 len0 cap0] w fun e w' => e = .returned (.bool true) ∧ Below w.heap.size w w' := by
  have D := Lib.hid (dDrawReadsOf h0)
  clear h0
  by_cases hl : (1048576 : Int) < len0
  · go_enter Try.func4, Try.ntmps4
    go_wp2_with fail
    go_ret
    exact ⟨rfl, Below.refl _ _⟩
  · go_enter Try.func4, Try.ntmps4
    go_wp2_with fail
    refine D.out.mono ?_
    rintro e w1 ⟨t, ht, rfl, hb⟩
    have HB1 := Lib.hid hb
    clear hb D
    by_cases hv : PValid false t.data.toList ∧ t.size ≤ 200
    · obtain ⟨⟨p, hp, hs⟩, hsz⟩ := hv
      have C1 := fun w => Lib.hid (implRds_yes t w hp hs hsz)
      have C2 := fun w => Lib.hid (implWrs_yes t w hp hs hsz)
      have C3 := fun w => Lib.hid (specRds_yes t w hp hs hsz)
      have C4 := fun w => Lib.hid (specWrs_yes t w hp hs hsz)
      have C5 := fun w => Lib.hid (implPV_yes t w hp hs hsz)
      have C6 := fun w => Lib.hid (implParts_yes t w hp hs hsz)
      have C7 := fun w => Lib.hid (implHead_yes t w hp hs hsz)
      obtain ⟨h0, hb0⟩ := first_byte hs
      have HE : Hid (((t[0].toNat : Int) == 97) = (p.letter == 97)) := by show _ = _; rw [hb0]; exact byte_b2 _ 97
      have hlen : p.ser.length ≤ 200 := by have := congrArg List.length hs; simp at this; omega
      have hhl : p.hd.length ≤ 200 := by have := p.ser_eq; have := congrArg List.length this; simp at this; omega
      have HSL := Lib.hid hlen
      have hok := Lib.hid hp
      have hn2 := pks_le2 p
      have z1 := vlistSize (p.all.flatMap (Pg.rwq false))
      have z2 := vlistSize (p.all.flatMap (Pg.rwq true))
      obtain ⟨R1, hR1⟩ : ∃ R, bs (vlist [120, 121, 122] (p.all.flatMap (Pg.rwq false))) = R := ⟨_, rfl⟩
      obtain ⟨R2, hR2⟩ : ∃ R, bs (vlist [120, 121, 122] (p.all.flatMap (Pg.rwq true))) = R := ⟨_, rfl⟩
      obtain ⟨H, hH, hHd⟩ : ∃ H, bs p.hd = H ∧ H.data.toList = p.hd := ⟨_, rfl, bsl _⟩
      have hHz : H.size ≤ 200 := by rw [← hH, bs_size]; exact hhl
      rw [hR1] at C1 C3 z1
      rw [hR2] at C2 C4 z2
      rw [hH] at C7
      have HR1 := Lib.hid hR1
      have HR2 := Lib.hid hR2
      have HH := Lib.hid hHd
      clear hp hs hb0 hlen hhl hR1 hR2 hH hHd ht
      go_wp2_with fail
      refine (C1 _).out.mono ?_
      rintro e w2 ⟨rfl, hb⟩
      have HB2 := Lib.hid (bnext HB1.out hb)
      clear hb
      go_wp2_with fail
      refine (C2 _).out.mono ?_
      rintro e w3 ⟨rfl, hb⟩
      have HB3 := Lib.hid (bnext HB2.out hb)
      clear hb
      go_wp2_with fail
      refine (C3 _).out.mono ?_
      rintro e w4 ⟨rfl, hb⟩
      have HB4 := Lib.hid (bnext HB3.out hb)
      clear hb
      go_wp2_with fail
      refine (C4 _).out.mono ?_
      rintro e w5 ⟨rfl, hb⟩
      have HB5 := Lib.hid (bnext HB4.out hb)
      clear hb
      go_wp2_with fail
      refine (C5 _).out.mono ?_
      rintro e w6 ⟨rfl, hb⟩
      have HB6 := Lib.hid (bnext HB5.out hb)
      clear hb
      go_wp2_with fail
      refine (C6 _).out.mono ?_
      rintro e w10 ⟨sl, rfl, hrow, hb⟩
      have HB10 := Lib.hid (bnext HB6.out hb)
      obtain ⟨sa, cap, rfl, hf⟩ := hrow.forms
      rw [show (strs (p.pks.map Pg.ser)).length = p.pks.length by simp [strs]] at hf ⊢
      have HF := Lib.hid hf
      have HBP0 := Lib.hid (Below.refl w10.heap.size w10)
      clear hb hf hrow
      go_wp2_with fail
      refine (C7 _).out.mono ?_
      rintro e w11 ⟨rfl, hb⟩
      have HB11 := Lib.hid (bnext HB10.out hb)
      have HBP1 := Lib.hid (bnext HBP0.out hb)
      clear hb C1 C2 C3 C4 C5 C6 C7
      go_wp2_with fail
      go_loopw [8] (fun i wr => ∃ k : Nat, k ≤ 3 ∧ i = .int .i64 k ∧ Below w.heap.size w wr ∧ Below w10.heap.size w10 wr) (fun i _ => 3 - (intOf i).toNat)
      case atStart => exact ⟨0, by omega, rfl, HB11.out, HBP1.out⟩
      case round =>
        obtain ⟨k, hk, rfl, hb1, hb2⟩ := hrel
        have HB := Lib.hid hb1
        have HBP := Lib.hid hb2
        clear hb1 hb2
        by_cases hlt : k < 3
        · obtain ⟨wo, hwo⟩ : ∃ wo : World, wo = wr := ⟨_, rfl⟩
          rw [← hwo]
          rw [← hwo] at HB HBP
          clear hwo
          have hk0 : (0 : Int) ≤ (k : Int) := by omega
          have hk1 : (k : Int) < 3 := by omega
          have hk2 : (k : Int) + 1 ≤ 3 := by omega
          have hk3 : (k : Int) ≤ 3 := by omega
          have ew : IntKind.i64.wrap ((k : Int) + 1) = (k : Int) + 1 := IntWalk.i64_in _ (by omega)
          have hk4 : (0 : Int) ≤ (k : Int) + 1 := by omega
          have hk5 : ((k : Int) + 1).toNat = k + 1 := by omega
          have hk6 : (k : Int) ≤ (k : Int) + 1 := by omega
          obtain ⟨c, hc, hex⟩ := letter_at hlt
          have HEX := Lib.hid hex
          have HC := Lib.hid hc
          have G1 : ∀ w, Hid (Calls Try.prog 19 #[.string R1, .string ⟨#[c]⟩] w fun e w' => e = .returned (.bool (decide (c ∈ rwL false p))) ∧ w = w') := fun w => by
            show Calls _ _ _ _ _
            rw [← hasV (l := rwL false p) HC.out, show bs (vlist [120, 121, 122] (rwL false p)) = R1 from HR1.out]
            exact has_any R1 c w (by omega)
          have G2 : ∀ w, Hid (Calls Try.prog 19 #[.string R2, .string ⟨#[c]⟩] w fun e w' => e = .returned (.bool (decide (c ∈ rwL true p))) ∧ w = w') := fun w => by
            show Calls _ _ _ _ _
            rw [← hasV (l := rwL true p) HC.out, show bs (vlist [120, 121, 122] (rwL true p)) = R2 from HR2.out]
            exact has_any R2 c w (by omega)
          clear hex hc
          cases y97 : ((t[0].toNat : Int) == 97)
          · have hne : p.letter ≠ 97 := by intro h; rw [HE.out, h] at y97; exact absurd y97 (by decide)
            obtain ⟨o1, o2⟩ := other_of hne
            have HA2 : Hid (rwA true c p 0 = false) := by show _ = _; rw [rwA_zero, o2]; rfl
            have G0 : ∀ w, Hid (Calls Try.prog 19 #[.string H, .string ⟨#[c]⟩] w fun e w' => e = .returned (.bool (rwA false c p 0)) ∧ w = w') := fun w => by
              show Calls _ _ _ _ _
              rw [rwA_zero, o1, ← HH.out]
              exact has_any H c w (by omega)
            clear o1 o2 hne
            go_wp2_with fail
            rw [HEX.out]
            refine (G0 _).out.mono ?_
            rintro e w' ⟨rfl, rfl⟩
            go_wp2_with fail
            go_loopw [10, 11, 12] (fun rv wv i wr => ∃ m : Nat, m ≤ p.pks.length ∧ i = .int .i64 m ∧ rv = .bool (rwA false c p m) ∧ wv = .bool (rwA true c p m) ∧ Below w.heap.size w wr ∧ Below w10.heap.size w10 wr) (fun _ _ i _ => p.pks.length - (intOf i).toNat)
            case atStart => exact ⟨0, Nat.zero_le _, rfl, rfl, by rw [HA2.out], HB.out, HBP.out⟩
            case round =>
              clear HB HBP
              obtain ⟨m, hm, rfl, rfl, rfl, hb1, hb2⟩ := hrel
              have HBk := Lib.hid hb1
              have HBPk := Lib.hid hb2
              clear hb1 hb2
              by_cases hlt2 : m < p.pks.length
              · have hq : p.pks[m]? = some p.pks[m] := List.getElem?_eq_getElem hlt2
                have hmem : p.pks[m] ∈ p.pks := List.getElem_mem hlt2
                have HS1 := Lib.hid (rwA_succ (wr := false) (c := c) hq)
                have HS2 := Lib.hid (rwA_succ (wr := true) (c := c) hq)
                generalize p.pks[m] = q at *
                obtain ⟨q1, q2⟩ := pok_mem2 hok.out hmem
                obtain ⟨g, rfl, hcell⟩ := HF.out (by omega)
                have hc0 := ckeep HBPk.out (hcell m (.string (bs q.ser)) (by simp [strs, hq]))
                have Q1 := fun w => Lib.hid (implRds_yes (bs q.ser) w q1 (bsl _) (by have := HSL.out; rw [bs_size]; omega))
                have Q2 := fun w => Lib.hid (implWrs_yes (bs q.ser) w q1 (bsl _) (by have := HSL.out; rw [bs_size]; omega))
                have H1 : ∀ w, Hid (Calls Try.prog 19 #[.string (bs (vlist [120, 121, 122] (q.all.flatMap (Pg.rwq false)))), .string ⟨#[c]⟩] w fun e w' => e = .returned (.bool (decide (c ∈ rwL false q))) ∧ w = w') := fun w => by
                  show Calls _ _ _ _ _
                  rw [← hasV (l := rwL false q) HC.out]
                  exact has_any _ c w (Nat.le_trans (vlistSize _) (by decide))
                have H2 : ∀ w, Hid (Calls Try.prog 19 #[.string (bs (vlist [120, 121, 122] (q.all.flatMap (Pg.rwq true)))), .string ⟨#[c]⟩] w fun e w' => e = .returned (.bool (decide (c ∈ rwL true q))) ∧ w = w') := fun w => by
                  show Calls _ _ _ _ _
                  rw [← hasV (l := rwL true q) HC.out]
                  exact has_any _ c w (Nat.le_trans (vlistSize _) (by decide))
                have hmi : (0 : Int) ≤ (m : Int) := by omega
                have hmi2 : (m : Int) < (p.pks.length : Int) := by omega
                generalize bs (vlist [120, 121, 122] (q.all.flatMap (Pg.rwq false))) = T1 at *
                generalize bs (vlist [120, 121, 122] (q.all.flatMap (Pg.rwq true))) = T2 at *
                generalize bs q.ser = T at *
                generalize decide (c ∈ rwL false q) = X1 at *
                generalize decide (c ∈ rwL true q) = X2 at *
                generalize rwA false c p m = A1 at *
                generalize rwA true c p m = A2 at *
                clear hcell hq hmem q1 q2
                cases A1
                · cases A2
                  · have S1 := HS1.out
                    have S2 := HS2.out
                    simp only [Bool.false_or] at S1
                    simp only [Bool.false_or] at S2
                    replace S1 := Lib.hid S1
                    replace S2 := Lib.hid S2
                    go_wp2_with fail
                    refine (Q1 _).out.mono ?_
                    rintro e w41 ⟨rfl, hb⟩
                    have HK1 := Lib.hid (bnext HBk.out hb)
                    have HQ1 := Lib.hid (bnext HBPk.out hb)
                    have hc1 := ckeep hb hc0
                    clear hb
                    go_wp2_with fail
                    refine (H1 _).out.mono ?_
                    rintro e w' ⟨rfl, rfl⟩
                    go_wp2_with fail
                    refine (Q2 _).out.mono ?_
                    rintro e w42 ⟨rfl, hb⟩
                    have HK2 := Lib.hid (bnext HK1.out hb)
                    have HQ2 := Lib.hid (bnext HQ1.out hb)
                    have hc2 := ckeep hb hc1
                    clear hb
                    go_wp2_with fail
                    refine (H2 _).out.mono ?_
                    rintro e w' ⟨rfl, rfl⟩
                    go_wp2_with fail
                    exact ⟨⟨m + 1, by omega, by go_num, by rw [S1.out], by rw [S2.out], HK2.out, HQ2.out⟩, by simp [intOf]; omega⟩
                  · have S1 := HS1.out
                    have S2 := HS2.out
                    simp only [Bool.false_or] at S1
                    simp only [Bool.true_or] at S2
                    replace S1 := Lib.hid S1
                    replace S2 := Lib.hid S2
                    go_wp2_with fail
                    refine (Q1 _).out.mono ?_
                    rintro e w41 ⟨rfl, hb⟩
                    have HK1 := Lib.hid (bnext HBk.out hb)
                    have HQ1 := Lib.hid (bnext HBPk.out hb)
                    have hc1 := ckeep hb hc0
                    clear hb
                    go_wp2_with fail
                    refine (H1 _).out.mono ?_
                    rintro e w' ⟨rfl, rfl⟩
                    go_wp2_with fail
                    exact ⟨⟨m + 1, by omega, by go_num, by rw [S1.out], by rw [S2.out], HK1.out, HQ1.out⟩, by simp [intOf]; omega⟩
                · cases A2
                  · have S1 := HS1.out
                    have S2 := HS2.out
                    simp only [Bool.true_or] at S1
                    simp only [Bool.false_or] at S2
                    replace S1 := Lib.hid S1
                    replace S2 := Lib.hid S2
                    go_wp2_with fail
                    refine (Q2 _).out.mono ?_
                    rintro e w41 ⟨rfl, hb⟩
                    have HK1 := Lib.hid (bnext HBk.out hb)
                    have HQ1 := Lib.hid (bnext HBPk.out hb)
                    have hc1 := ckeep hb hc0
                    clear hb
                    go_wp2_with fail
                    refine (H2 _).out.mono ?_
                    rintro e w' ⟨rfl, rfl⟩
                    go_wp2_with fail
                    exact ⟨⟨m + 1, by omega, by go_num, by rw [S1.out], by rw [S2.out], HK1.out, HQ1.out⟩, by simp [intOf]; omega⟩
                  · have S1 := HS1.out
                    have S2 := HS2.out
                    simp only [Bool.true_or] at S1
                    simp only [Bool.true_or] at S2
                    replace S1 := Lib.hid S1
                    replace S2 := Lib.hid S2
                    go_wp2_with fail
                    exact ⟨⟨m + 1, by omega, by go_num, by rw [S1.out], by rw [S2.out], HBk.out, HBPk.out⟩, by simp [intOf]; omega⟩
              · have em : m = p.pks.length := by omega
                subst em
                rw [rwA_end, rwA_end]
                generalize decide (c ∈ rwL false p) = X1 at *
                generalize decide (c ∈ rwL true p) = X2 at *
                have eb : ∀ b : Bool, (b != b) = false := fun b => by cases b <;> rfl
                go_wp2_with fail
                refine (G1 _).out.mono ?_
                rintro e w' ⟨rfl, rfl⟩
                go_wp2_with fail
                refine (G2 _).out.mono ?_
                rintro e w' ⟨rfl, rfl⟩
                go_wp2_with fail
                exact ⟨⟨k + 1, by omega, by go_num, HBk.out, HBPk.out⟩, by simp [intOf]; omega⟩
          · have he : p.letter = 97 := by rw [HE.out] at y97; exact byte_97 y97
            obtain ⟨v, es, o1, o2, o3⟩ := asg_of he
            have hH : H.data.toList = v :: es := HH.out.trans o1
            have hHl : H.size = es.length + 1 := by have := congrArg List.length hH; simpa using this
            have hx1 : H.extract 0 1 = ⟨#[v]⟩ := by
              have h0 : 0 < H.size := by omega
              rw [ext1 H 0 h0]
              have : H.data.toList[0]? = some H[0] := List.getElem?_eq_getElem (by simpa using h0)
              rw [hH] at this
              simp at this
              rw [this]
            have hx2 : (H.extract 1 H.size).data.toList = es := by
              rw [ByteArray.data_extract, Array.toList_extract, List.extract_eq_take_drop, hH, List.drop_succ_cons, List.drop_zero, List.take_of_length_le (by omega)]
            have hsz1 : (1 : Int) ≤ (H.size : Int) := by omega
            have HA2 : Hid (((H.extract 0 1).toList == [c]) = rwA true c p 0) := by
              show _ = _
              rw [rwA_zero, o3, hx1, ByteArray.toList_eq]
              show ([v] == [c]) = _
              by_cases e : v = c
              · subst e; simp
              · simp [e, Ne.symm e]
            have ha2 := HA2.out
            have hz2 : (H.extract 1 H.size).size ≤ 1000000 := by simp [ByteArray.size_extract]; omega
            have G0 : ∀ w, Hid (Calls Try.prog 19 #[.string (H.extract 1 H.size), .string ⟨#[c]⟩] w fun e w' => e = .returned (.bool (rwA false c p 0)) ∧ w = w') := fun w => by
              show Calls _ _ _ _ _
              rw [rwA_zero, o2, ← hx2]
              exact has_any _ c w hz2
            clear o1 o2 o3 he hH hHl hx1 hx2 HA2 hz2
            go_wp2_with fail
            rw [HEX.out]
            go_wp2_with fail
            refine (G0 _).out.mono ?_
            rintro e w' ⟨rfl, rfl⟩
            go_wp2_with fail
            go_loopw [10, 11, 12] (fun rv wv i wr => ∃ m : Nat, m ≤ p.pks.length ∧ i = .int .i64 m ∧ rv = .bool (rwA false c p m) ∧ wv = .bool (rwA true c p m) ∧ Below w.heap.size w wr ∧ Below w10.heap.size w10 wr) (fun _ _ i _ => p.pks.length - (intOf i).toNat)
            case atStart => exact ⟨0, Nat.zero_le _, rfl, rfl, rfl, HB.out, HBP.out⟩
            case round =>
              clear HB HBP
              obtain ⟨m, hm, rfl, rfl, rfl, hb1, hb2⟩ := hrel
              have HBk := Lib.hid hb1
              have HBPk := Lib.hid hb2
              clear hb1 hb2
              by_cases hlt2 : m < p.pks.length
              · have hq : p.pks[m]? = some p.pks[m] := List.getElem?_eq_getElem hlt2
                have hmem : p.pks[m] ∈ p.pks := List.getElem_mem hlt2
                have HS1 := Lib.hid (rwA_succ (wr := false) (c := c) hq)
                have HS2 := Lib.hid (rwA_succ (wr := true) (c := c) hq)
                generalize p.pks[m] = q at *
                obtain ⟨q1, q2⟩ := pok_mem2 hok.out hmem
                obtain ⟨g, rfl, hcell⟩ := HF.out (by omega)
                have hc0 := ckeep HBPk.out (hcell m (.string (bs q.ser)) (by simp [strs, hq]))
                have Q1 := fun w => Lib.hid (implRds_yes (bs q.ser) w q1 (bsl _) (by have := HSL.out; rw [bs_size]; omega))
                have Q2 := fun w => Lib.hid (implWrs_yes (bs q.ser) w q1 (bsl _) (by have := HSL.out; rw [bs_size]; omega))
                have H1 : ∀ w, Hid (Calls Try.prog 19 #[.string (bs (vlist [120, 121, 122] (q.all.flatMap (Pg.rwq false)))), .string ⟨#[c]⟩] w fun e w' => e = .returned (.bool (decide (c ∈ rwL false q))) ∧ w = w') := fun w => by
                  show Calls _ _ _ _ _
                  rw [← hasV (l := rwL false q) HC.out]
                  exact has_any _ c w (Nat.le_trans (vlistSize _) (by decide))
                have H2 : ∀ w, Hid (Calls Try.prog 19 #[.string (bs (vlist [120, 121, 122] (q.all.flatMap (Pg.rwq true)))), .string ⟨#[c]⟩] w fun e w' => e = .returned (.bool (decide (c ∈ rwL true q))) ∧ w = w') := fun w => by
                  show Calls _ _ _ _ _
                  rw [← hasV (l := rwL true q) HC.out]
                  exact has_any _ c w (Nat.le_trans (vlistSize _) (by decide))
                have hmi : (0 : Int) ≤ (m : Int) := by omega
                have hmi2 : (m : Int) < (p.pks.length : Int) := by omega
                generalize bs (vlist [120, 121, 122] (q.all.flatMap (Pg.rwq false))) = T1 at *
                generalize bs (vlist [120, 121, 122] (q.all.flatMap (Pg.rwq true))) = T2 at *
                generalize bs q.ser = T at *
                generalize decide (c ∈ rwL false q) = X1 at *
                generalize decide (c ∈ rwL true q) = X2 at *
                generalize rwA false c p m = A1 at *
                generalize rwA true c p m = A2 at *
                clear hcell hq hmem q1 q2
                cases A1
                · cases A2
                  · have S1 := HS1.out
                    have S2 := HS2.out
                    simp only [Bool.false_or] at S1
                    simp only [Bool.false_or] at S2
                    replace S1 := Lib.hid S1
                    replace S2 := Lib.hid S2
                    go_wp2_with fail
                    refine (Q1 _).out.mono ?_
                    rintro e w41 ⟨rfl, hb⟩
                    have HK1 := Lib.hid (bnext HBk.out hb)
                    have HQ1 := Lib.hid (bnext HBPk.out hb)
                    have hc1 := ckeep hb hc0
                    clear hb
                    go_wp2_with fail
                    refine (H1 _).out.mono ?_
                    rintro e w' ⟨rfl, rfl⟩
                    go_wp2_with fail
                    refine (Q2 _).out.mono ?_
                    rintro e w42 ⟨rfl, hb⟩
                    have HK2 := Lib.hid (bnext HK1.out hb)
                    have HQ2 := Lib.hid (bnext HQ1.out hb)
                    have hc2 := ckeep hb hc1
                    clear hb
                    go_wp2_with fail
                    refine (H2 _).out.mono ?_
                    rintro e w' ⟨rfl, rfl⟩
                    go_wp2_with fail
                    exact ⟨⟨m + 1, by omega, by go_num, by rw [S1.out], by rw [S2.out], HK2.out, HQ2.out⟩, by simp [intOf]; omega⟩
                  · have S1 := HS1.out
                    have S2 := HS2.out
                    simp only [Bool.false_or] at S1
                    simp only [Bool.true_or] at S2
                    replace S1 := Lib.hid S1
                    replace S2 := Lib.hid S2
                    go_wp2_with fail
                    refine (Q1 _).out.mono ?_
                    rintro e w41 ⟨rfl, hb⟩
                    have HK1 := Lib.hid (bnext HBk.out hb)
                    have HQ1 := Lib.hid (bnext HBPk.out hb)
                    have hc1 := ckeep hb hc0
                    clear hb
                    go_wp2_with fail
                    refine (H1 _).out.mono ?_
                    rintro e w' ⟨rfl, rfl⟩
                    go_wp2_with fail
                    exact ⟨⟨m + 1, by omega, by go_num, by rw [S1.out], by rw [S2.out], HK1.out, HQ1.out⟩, by simp [intOf]; omega⟩
                · cases A2
                  · have S1 := HS1.out
                    have S2 := HS2.out
                    simp only [Bool.true_or] at S1
                    simp only [Bool.false_or] at S2
                    replace S1 := Lib.hid S1
                    replace S2 := Lib.hid S2
                    go_wp2_with fail
                    refine (Q2 _).out.mono ?_
                    rintro e w41 ⟨rfl, hb⟩
                    have HK1 := Lib.hid (bnext HBk.out hb)
                    have HQ1 := Lib.hid (bnext HBPk.out hb)
                    have hc1 := ckeep hb hc0
                    clear hb
                    go_wp2_with fail
                    refine (H2 _).out.mono ?_
                    rintro e w' ⟨rfl, rfl⟩
                    go_wp2_with fail
                    exact ⟨⟨m + 1, by omega, by go_num, by rw [S1.out], by rw [S2.out], HK1.out, HQ1.out⟩, by simp [intOf]; omega⟩
                  · have S1 := HS1.out
                    have S2 := HS2.out
                    simp only [Bool.true_or] at S1
                    simp only [Bool.true_or] at S2
                    replace S1 := Lib.hid S1
                    replace S2 := Lib.hid S2
                    go_wp2_with fail
                    exact ⟨⟨m + 1, by omega, by go_num, by rw [S1.out], by rw [S2.out], HBk.out, HBPk.out⟩, by simp [intOf]; omega⟩
              · have em : m = p.pks.length := by omega
                subst em
                rw [rwA_end, rwA_end]
                generalize decide (c ∈ rwL false p) = X1 at *
                generalize decide (c ∈ rwL true p) = X2 at *
                have eb : ∀ b : Bool, (b != b) = false := fun b => by cases b <;> rfl
                go_wp2_with fail
                refine (G1 _).out.mono ?_
                rintro e w' ⟨rfl, rfl⟩
                go_wp2_with fail
                refine (G2 _).out.mono ?_
                rintro e w' ⟨rfl, rfl⟩
                go_wp2_with fail
                exact ⟨⟨k + 1, by omega, by go_num, HBk.out, HBPk.out⟩, by simp [intOf]; omega⟩
        · have hk2 : k = 3 := by omega
          subst hk2
          go_wp2_with fail
          go_ret
          exact ⟨rfl, HB.out⟩
    · have C1 := fun w => Lib.hid (implRds_no t w hv)
      have C2 := fun w => Lib.hid (implWrs_no t w hv)
      have C3 := fun w => Lib.hid (specRds_no t w hv)
      have C4 := fun w => Lib.hid (specWrs_no t w hv)
      have C5 := fun w => Lib.hid (implPV_no t w hv)
      clear hv ht
      go_wp2_with fail
      refine (C1 _).out.mono ?_
      rintro e w2 ⟨rfl, hb⟩
      have HB2 := Lib.hid (bnext HB1.out hb)
      clear hb
      go_wp2_with fail
      refine (C2 _).out.mono ?_
      rintro e w3 ⟨rfl, hb⟩
      have HB3 := Lib.hid (bnext HB2.out hb)
      clear hb
      go_wp2_with fail
      refine (C3 _).out.mono ?_
      rintro e w4 ⟨rfl, hb⟩
      have HB4 := Lib.hid (bnext HB3.out hb)
      clear hb
      go_wp2_with fail
      refine (C4 _).out.mono ?_
      rintro e w5 ⟨rfl, hb⟩
      have HB5 := Lib.hid (bnext HB4.out hb)
      clear hb
      go_wp2_with fail
      refine (C5 _).out.mono ?_
      rintro e w6 ⟨rfl, hb⟩
      have HB6 := Lib.hid (bnext HB5.out hb)
      clear hb
      go_wp2_with fail
      refine (C3 _).out.mono ?_
      rintro e w7 ⟨rfl, hb⟩
      have HB7 := Lib.hid (bnext HB6.out hb)
      clear hb
      go_wp2_with fail
      refine (C4 _).out.mono ?_
      rintro e w8 ⟨rfl, hb⟩
      have HB8 := Lib.hid (bnext HB7.out hb)
      clear hb
      go_wp2_with fail
      go_ret
      exact ⟨rfl, HB8.out⟩

set_option linter.unusedVariables false in
set_option maxRecDepth 100000 in
theorem liftedReadsWrites (os : Os) (started : os.Started) (H : Type) (enc : TypeId × Value → H) :
    ReturnsInHanded {} Try.checked os 4 .any (Rows.fnReadsWritesSpec.pre6 enc Try.prog Try.f4 Rows.fnReadsWritesRow.domain false) (Rows.fnReadsWritesSpec.post enc Try.prog Try.f4 false true false false) := by
  refine returnsInHanded_of_change (C := Try.checked) Try.own started (by kernel_rfl) Try.func4
    (ChangeSpec.witness6 (enc := enc) (C := Try.checked) false ⟨#[], #[.slice none 0 0], []⟩ 8 (by kernel_rfl) (by kernel_rfl) (by kernel_rfl) (by kernel_rfl)) ?_
  intro W base args ds gs before hval0 hW hcnd _
  have hval : ∀ (j : Nat) t v, Try.f4.params[j]? = some t → args[j]? = some v → Value.okWide Try.prog W .any base t v := hval0
  have hW' := hW
  obtain ⟨p, q, hA0, hV, rfl, hfz, hnd⟩ := hW
  have hA : DataW.TrodAll enc Try.prog W 0 (fun _ => true) true Try.f4.params.toList args.toList ds p := hA0
  rw [Try.params4] at hA hval
  obtain ⟨v0, vs0, d0, ds0, p0, q0, hargs, rfl, rfl, h0, r0⟩ := trodAll_cons hA
  obtain ⟨rfl, rfl, rfl⟩ := trodAll_nil r0
  obtain rfl : args = #[v0] := by cases args; simp_all
  obtain ⟨rfl, rfl⟩ := trodVars_none hV
  obtain ⟨a0, len0, cap0, rfl⟩ := okWide_slice Try.underlying22 (hval 0 22 v0 rfl rfl)
  have k0 := h0
  have lt0 : ∀ x ∈ p0, x.block < W.heap.size := by obtain ⟨m, hm⟩ := k0; exact DataW.trod_lt m _ _ _ hm
  obtain ⟨z0, w0⟩ : ∃ zs, IsRow W a0 len0 cap0 zs := by
    obtain ⟨fuel, hf⟩ := h0
    rcases open_ints Try.underlying22 Try.underlying5 (by kernel_rfl) hf with ⟨hcs, _⟩ | ⟨x, l, c, zs, hcs, _, hl, hm, hz, _, hcell, hwz⟩
    · simp [Value.cells] at hcs
      obtain ⟨rfl, rfl, rfl⟩ := hcs
      exact ⟨[], .inl ⟨rfl, rfl, rfl, rfl⟩⟩
    · simp [Value.cells] at hcs
      obtain ⟨rfl, rfl, rfl⟩ := hcs
      exact ⟨zs, .inr ⟨_, rfl, hl, hm, by simpa using hz, hcell, hwz⟩⟩
  clear hA0 hval0
  refine (walkReadsWrites W w0).mono fun e W' ⟨he, bel⟩ => ?_
  subst he
  exact ⟨_, rfl, _, _, _, [], _, [], hW', trodAll_mk1 (shut_bool Try.underlying4 _), (trodAll_cons_mk (Below.trod laidOut (by kernel_rfl) (of_decide_eq_true (by kernel_rfl)) k0 bel lt0) trodAll_mk0), rfl, bel.frame _, fun h => by cases h⟩

theorem readsWrites_holds : Rows.FnReadsWritesSaid :=
  OpenClaim.holds_of_wide 4 Try.f4 rfl rfl rfl rfl rfl rfl rfl ⟨rfl, rfl, rfl, rfl, rfl⟩ rfl rfl rfl rfl rfl (by kernel_rfl) Try.func4 (by kernel_rfl)
    (of_decide_eq_true (by kernel_rfl)) (by unfold Func.isWrapper; first | (rw [if_pos (by decide +kernel)]; kernel_rfl) | (rw [if_neg (by decide +kernel)]; exact ⟨rfl, rfl⟩))
    (fun os started H enc _ => liftedReadsWrites os started H enc)

#print axioms readsWrites_holds
end Go.Proofs.Ytemkndpiljfefaa
