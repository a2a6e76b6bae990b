/-
  spec.l3Read; ReadsOf and WritesOf of the model.
-/
import Derived.Test.YtemkndpiljfefaaSpQ
import Derived.Test.YtemkndpiljfefaaSpecVars
import Derived.Test.YtemkndpiljfefaaPgR
namespace Go.Proofs.Ytemkndpiljfefaa
open Go.RowKit Tm

theorem text_eq' {s : ByteArray} {p : Pg} (h : s.data.toList = p.ser) : s = bs p.ser := by
  apply ByteArray.ext
  apply Array.ext'
  exact h.trans (bs_list _).symm
theorem strs_get {w : World} {B : Nat} {T : TypeId} {v : Value} {ps : List Pg} {f : Pg → List UInt8} (h : Row w B T v (strs (ps.map f))) : ∃ a cap, v = .slice a ps.length cap ∧ ∀ (m : Nat) (hm : m < ps.length), ∃ g, a = some ⟨g, 0, none⟩ ∧ w.cell? ⟨g, m, none⟩ = some (.string (bs (f ps[m]))) := by
  have hl : (strs (ps.map f)).length = ps.length := by simp [strs]
  rcases h.cases with ⟨h1, h2⟩ | ⟨g, cap, h1, hb, _, h3⟩
  · have : ps = [] := by
      rw [h2] at hl
      exact List.eq_nil_of_length_eq_zero hl.symm
    subst this
    exact ⟨_, _, h1, fun m hm => by simp at hm⟩
  · rw [hl] at h1
    exact ⟨_, _, h1, fun m hm => ⟨g, rfl, h3 m _ (by simp [strs, List.getElem?_eq_getElem hm])⟩⟩
theorem letter_asg {q : Pg} (h : q.letter = 97) : ∃ v e, q = .asg v e := by
  cases q <;> simp [Pg.letter] at h
  exact ⟨_, _, rfl⟩
theorem rwq_asg (wr : Bool) (v : UInt8) (e : Tm) : Pg.rwq wr (.asg v e) = if wr then [v] else e.ser := rfl
theorem rwq_other (wr : Bool) {q : Pg} (h : ¬ q.letter = 97) : Pg.rwq wr q = if wr then [] else q.hd := by
  cases q <;> first | rfl | exact absurd rfl h

set_option maxRecDepth 100000 in
set_option maxHeartbeats 8000000 in
theorem rw_any (wide wr : Bool) (p : Pg) (hp : p.ok wide) (hn : p.ser.length ≤ 1000) (w : World) :
    Calls Try.prog 37 #[.string (bs p.ser), .bool wide, .bool wr] w fun e w' => e = .returned (.string (bs (vlist (nm wide).data.toList (p.all.flatMap (Pg.rwq wr))))) ∧ Below w.heap.size w w' := by
  have HC := fun w => Lib.hid (heads_of wide _ p w (Nat.le_refl _) hn hp)
  have hrl := p.rw_le wr
  have hal : p.all.length ≤ 1000 := Nat.le_trans p.all_le hn
  have HOK : Hid (∀ q ∈ p.all, q.hd.length ≤ 1000) := fun q hq => by
    obtain ⟨h1, h2⟩ := Pg.all_ok hp hq
    have := congrArg List.length q.ser_eq
    simp only [List.length_cons, List.length_append] at this
    omega
  unfold HeadsPost at HC
  have HK : Hid (∀ (m : Nat) (h : m < p.all.length), ∃ h2 : m < (bs (p.all.map Pg.letter)).size, (bs (p.all.map Pg.letter))[m] = p.all[m].letter) := fun m h => ⟨by rw [bs_size, List.length_map]; exact h, by
    show (p.all.map Pg.letter)[m]'(by rw [List.length_map]; exact h) = _
    simp⟩
  have HKS : Hid ((bs (p.all.map Pg.letter)).size = p.all.length) := by show _ = _; rw [bs_size, List.length_map]
  clear hp
  generalize bs p.ser = S at *
  generalize p.all = ps at *
  generalize bs (ps.map Pg.letter) = K at *
  go_enter Try.func37, Try.ntmps37
  go_wp2_with fail
  refine (HC _).out.mono ?_
  rintro e w2 ⟨sl, rfl, hrow, hb⟩
  obtain ⟨a, cap, rfl, hat⟩ := strs_get hrow
  have HA := Lib.hid hat
  have HB := Lib.hid hb
  clear hb hat hrow
  go_wp2_with fail
  go_loop [7, 10] (fun v7 v10 => ∃ m : Nat, m ≤ ps.length ∧ v10 = .int .i64 m ∧ v7 = .string (bs ((ps.take m).flatMap (Pg.rwq wr)))) (fun _ v10 => ps.length - (intOf v10).toNat)
  case atStart => exact ⟨0, Nat.zero_le _, rfl, rfl⟩
  case round =>
    obtain ⟨m, hm, rfl, rfl⟩ := hrel
    have hft := flat_take (f := Pg.rwq wr) (ps := ps) m
    have hsa : (bs ((ps.take m).flatMap (Pg.rwq wr))).size ≤ 1000 := by rw [bs_size]; omega
    by_cases hlt : m < ps.length
    · obtain ⟨g, rfl, hc⟩ := HA.out m hlt
      have HSN : Hid (∀ r, r = bs (Pg.rwq wr ps[m]) → bs ((ps.take m).flatMap (Pg.rwq wr)) ++ r = bs ((ps.take (m + 1)).flatMap (Pg.rwq wr))) := fun r hr => by rw [hr, bs_append, flat_step hlt]
      have hqn := HOK.out _ (List.getElem_mem hlt)
      obtain ⟨hk1, hk2⟩ := HK.out m hlt
      have h0 : (0 : Int) ≤ (m : Int) := by omega
      have h1 : (m : Int) < (ps.length : Int) := by omega
      have h2 : (m : Int) < (K.size : Int) := by omega
      clear hft
      generalize bs ((ps.take m).flatMap (Pg.rwq wr)) = A at *
      generalize ps[m] = q at *
      by_cases hq : q.letter = 97
      · obtain ⟨v, x, rfl⟩ := letter_asg hq
        have ht : ((K[m].toNat : Int) == 97) = true := by rw [hk2, hq]; rfl
        have hx1 : (bs (Pg.asg v x).hd).extract 0 1 = bs [v] := extract_bs (s := bs (Pg.asg v x).hd) (a := 0) (n := 1) (x := [v]) (r := x.ser) (by rw [bs_list]; rfl) rfl (Nat.zero_le _)
        have hx2 : (bs (Pg.asg v x).hd).extract 1 (bs (Pg.asg v x).hd).size = bs x.ser := by
          have hz : (bs (Pg.asg v x).hd).size = 1 + x.ser.length := by rw [bs_size]; simp [Pg.hd]; omega
          rw [hz]
          exact extract_bs (s := bs (Pg.asg v x).hd) (a := 1) (n := x.ser.length) (x := x.ser) (r := []) (by rw [bs_list]; simp [Pg.hd]) rfl (by omega)
        have hz1 : (1 : Int) ≤ ((bs (Pg.asg v x).hd).size : Int) := by rw [bs_size]; simp [Pg.hd]; omega
        have e1 : (bs [v]).size ≤ 1000 := by rw [bs_size]; simp
        have e2 : (bs x.ser).size ≤ 1000 := by rw [bs_size]; simp [Pg.hd] at hqn; omega
        cases wr
        · have HF := Lib.hid (HSN.out (bs x.ser) rfl)
          clear HSN hq hk2 hx1
          generalize bs (Pg.asg v x).hd = H at *
          generalize bs x.ser = R at *
          have f0 : ¬ (9223372036854775807 < A.size + R.size) := by omega
          go_wp2_with fail
          go_round
          case rel => exact ⟨m + 1, hlt, by go_num, by rw [HF.out]⟩
          case measure => simp [intOf]; omega
        · have HF := Lib.hid (HSN.out (bs [v]) rfl)
          clear HSN hq hk2 hx2
          generalize bs (Pg.asg v x).hd = H at *
          generalize bs [v] = R at *
          have f0 : ¬ (9223372036854775807 < A.size + R.size) := by omega
          go_wp2_with fail
          go_round
          case rel => exact ⟨m + 1, hlt, by go_num, by rw [HF.out]⟩
          case measure => simp [intOf]; omega
      · have ht : ((K[m].toNat : Int) == 97) = false := by
          rw [beq_eq_false_iff_ne, hk2]; intro e; exact hq (UInt8.toNat_inj.1 (show q.letter.toNat = 97 by omega))
        have e1 : (bs q.hd).size ≤ 1000 := by rw [bs_size]; exact hqn
        cases wr
        · have HF := Lib.hid (HSN.out (bs q.hd) (by rw [rwq_other false hq]; rfl))
          clear HSN hq hk2
          generalize bs q.hd = R at *
          have f0 : ¬ (9223372036854775807 < A.size + R.size) := by omega
          go_wp2_with fail
          go_round
          case rel => exact ⟨m + 1, hlt, by go_num, by rw [HF.out]⟩
          case measure => simp [intOf]; omega
        · have HF := Lib.hid (HSN.out (bs []) (by rw [rwq_other true hq]; rfl))
          clear HSN hq hk2
          generalize bs q.hd = R at *
          go_wp2_with fail
          go_round
          case rel => exact ⟨m + 1, hlt, by go_num, by rw [← HF.out]; congr 1; apply ByteArray.ext; simp [bs]⟩
          case measure => simp [intOf]; omega
    · have hli : (bs ((ps.take m).flatMap (Pg.rwq wr))).data.toList = ps.flatMap (Pg.rwq wr) := by rw [bs_list, List.take_of_length_le (by omega)]
      have HSV := fun w => specVars wide (bs ((ps.take m).flatMap (Pg.rwq wr))) w (by unfold maxLen; omega)
      rw [hli] at HSV
      have h1 : ¬ (m : Int) < (ps.length : Int) := by omega
      have HSW := Lib.hid HSV
      clear hli hft HSV
      generalize bs ((ps.take m).flatMap (Pg.rwq wr)) = A at *
      go_wp2_with fail
      refine (HSW.out _).mono ?_
      rintro e w3 ⟨rfl, rfl⟩
      go_wp2_with fail
      go_ret
      exact ⟨rfl, HB.out⟩

set_option maxHeartbeats 1000000 in
theorem specRds_yes (s : ByteArray) (w : World) {p : Pg} (hp : p.ok false) (hs : s.data.toList = p.ser) (hl : s.size ≤ 200) :
    Calls Try.prog 17 #[.string s] w fun e w' => e = .returned (.string (bs (vlist [120, 121, 122] (p.all.flatMap (Pg.rwq false))))) ∧ Below w.heap.size w w' := by
  have hsz : p.ser.length ≤ 1000 := by have := congrArg List.length hs; simp at this; omega
  obtain rfl := text_eq' hs
  have HV := fun w => Lib.hid (specPV_yes (bs p.ser) w ⟨p, hp, hs⟩ hl)
  have HC := fun w => Lib.hid (rw_any false false p hp hsz w)
  rw [show (nm false).data.toList = [120, 121, 122] from rfl] at HC
  clear hs hl
  generalize bs p.ser = S at *
  generalize bs (vlist [120, 121, 122] (p.all.flatMap (Pg.rwq false))) = R at *
  go_enter Try.func17, Try.ntmps17
  go_wp2_with fail
  refine (HV _).out.mono ?_
  rintro e w1 ⟨rfl, n, rfl⟩
  go_wp2_with fail
  refine (HC _).out.mono ?_
  rintro e w2 ⟨rfl, hb⟩
  have HB := Lib.hid (bnext (bdrewN (Below.refl w.heap.size w) n) hb)
  clear hb
  go_wp2_with fail
  go_ret
  exact ⟨rfl, HB.out⟩
set_option maxHeartbeats 1000000 in
theorem specRds_no (s : ByteArray) (w : World) (h : ¬ (PValid false s.data.toList ∧ s.size ≤ 200)) :
    Calls Try.prog 17 #[.string s] w fun e w' => e = .returned (.string (bs [])) ∧ Below w.heap.size w w' := by
  have HV := fun w => Lib.hid (specPV_no s w h)
  clear h
  go_enter Try.func17, Try.ntmps17
  go_wp2_with fail
  refine (HV _).out.mono ?_
  rintro e w1 ⟨rfl, n, rfl⟩
  go_wp2_with fail
  go_ret
  exact ⟨rfl, bdrewN (Below.refl w.heap.size w) n⟩

set_option maxHeartbeats 1000000 in
theorem specWrs_yes (s : ByteArray) (w : World) {p : Pg} (hp : p.ok false) (hs : s.data.toList = p.ser) (hl : s.size ≤ 200) :
    Calls Try.prog 18 #[.string s] w fun e w' => e = .returned (.string (bs (vlist [120, 121, 122] (p.all.flatMap (Pg.rwq true))))) ∧ Below w.heap.size w w' := by
  have hsz : p.ser.length ≤ 1000 := by have := congrArg List.length hs; simp at this; omega
  obtain rfl := text_eq' hs
  have HV := fun w => Lib.hid (specPV_yes (bs p.ser) w ⟨p, hp, hs⟩ hl)
  have HC := fun w => Lib.hid (rw_any false true p hp hsz w)
  rw [show (nm false).data.toList = [120, 121, 122] from rfl] at HC
  clear hs hl
  generalize bs p.ser = S at *
  generalize bs (vlist [120, 121, 122] (p.all.flatMap (Pg.rwq true))) = R at *
  go_enter Try.func18, Try.ntmps18
  go_wp2_with fail
  refine (HV _).out.mono ?_
  rintro e w1 ⟨rfl, n, rfl⟩
  go_wp2_with fail
  refine (HC _).out.mono ?_
  rintro e w2 ⟨rfl, hb⟩
  have HB := Lib.hid (bnext (bdrewN (Below.refl w.heap.size w) n) hb)
  clear hb
  go_wp2_with fail
  go_ret
  exact ⟨rfl, HB.out⟩
set_option maxHeartbeats 1000000 in
theorem specWrs_no (s : ByteArray) (w : World) (h : ¬ (PValid false s.data.toList ∧ s.size ≤ 200)) :
    Calls Try.prog 18 #[.string s] w fun e w' => e = .returned (.string (bs [])) ∧ Below w.heap.size w w' := by
  have HV := fun w => Lib.hid (specPV_no s w h)
  clear h
  go_enter Try.func18, Try.ntmps18
  go_wp2_with fail
  refine (HV _).out.mono ?_
  rintro e w1 ⟨rfl, n, rfl⟩
  go_wp2_with fail
  go_ret
  exact ⟨rfl, bdrewN (Below.refl w.heap.size w) n⟩
end Go.Proofs.Ytemkndpiljfefaa
