/-
  PostOf: the program and the model.
-/
import Derived.Test.YtklenikoenoegaaTopR
namespace Go.Proofs.Ytklenikoenoegaa
open Go.RowKit Tm Go.Great Classical

/-- The states in which a program may end from a set. -/
noncomputable def poS (p : Pg) (S : Nat → Bool) : Nat → Bool := fun j => upto 27 (fun i => S i && rT p i j)
theorem po_eq {p : Pg} {S F : Nat → Bool} {m : Mp} {lo bl : Bool} (h : Wk (flG p) (flS p) S 27 m F lo bl) (hT : Top (flG p)) : ∀ j, j < 27 → F j = poS p S j := by
  intro j hj
  rw [Bool.eq_iff_iff, h.fin j hj, h.kn]
  unfold poS
  rw [upto_iff]
  constructor
  · rintro ⟨i, hi, hs, hw⟩
    exact ⟨i, hi, by rw [hs, Bool.true_and, rT_iff]; exact (fin_iff hT (fl_lay p)).1 hw⟩
  · rintro ⟨i, hi, hs⟩
    rw [Bool.and_eq_true, rT_iff] at hs
    exact ⟨i, hi, hs.1, (fin_iff hT (fl_lay p)).2 hs.2⟩
set_option maxRecDepth 100000 in
set_option maxHeartbeats 4000000 in
theorem implPostOf_yes (s q : ByteArray) {p : Pg} (hp : p.ok false) (he : s.data.toList = p.ser) (hl : s.size ≤ 200) (hq : Set27 q) (w : World) : Calls Try.prog 24 #[.string s, .string q] w (TextPost (poS p (hs q.data.toList)) w) := by
  have CR := fun w => Lib.hid (prog_yes s w hp he hl)
  have CQ := fun w => Lib.hid (implRead_yes q w hq)
  have hal : p.all.length ≤ 900 := by have := p.all_le; have := ser_200 he hl; omega
  have CF := fun B v w hv => Lib.hid (flowOf_any p B v w hv hp hal)
  have CW := fun {w1 : World} {B : Nat} {sp : Value} (hF : FlowOk w1 B sp (flS p) (flG p)) (w : World) (hb : Below w1.heap.size w1 w) => Lib.hid (walkFrom_any hF (hs q.data.toList) w hb)
  clear hp he hl hal hq
  go_enter Try.func24, Try.ntmps24
  go_wp2_with fail
  refine (CR _).out.mono ?_
  rintro e w1 ⟨T, u, rfl, hst, hb⟩
  have HB := Lib.hid hb
  have HS := Lib.hid hst
  clear hb hst
  go_wp2_with fail
  refine (CQ _).out.mono ?_
  rintro e w' ⟨rfl, rfl⟩
  go_wp2_with fail
  refine (CF _ _ _ HS.out).out.mono ?_
  rintro e w2 ⟨rb, cap, rfl, hF, hb⟩
  have HB2 := Lib.hid (bnext HB.out hb)
  have HF := Lib.hid hF
  clear hb hF
  go_wp2_with fail
  refine (CW HF.out _ (Below.refl _ _)).out.mono ?_
  rintro e w3 ⟨bw, bm, m, F, lo, bl, rfl, k1, k2, k3, hb⟩
  have HB3 := Lib.hid (bnext HB2.out hb)
  have hEq := nb_congr (po_eq k3 HF.out.top)
  obtain ⟨q0, q1, q2, q3, q4, q5⟩ := k1.cells
  clear hb k1 k2 k3
  go_wp2_with fail
  refine (implText _ _).mono ?_
  rintro e w4 ⟨rfl, hb⟩
  have HB4 := Lib.hid (bnext HB3.out hb)
  clear hb
  go_wp2_with fail
  go_ret2
  exact ⟨rfl, HB4.out⟩
set_option maxRecDepth 100000 in
set_option maxHeartbeats 4000000 in
theorem implPostOf_no (s q : ByteArray) (h : ¬ (IsP s ∧ Set27 q)) (w : World) : Calls Try.prog 24 #[.string s, .string q] w (NoPost w) := by
  by_cases hp : IsP s
  · have hq : ¬ Set27 q := fun hq => h ⟨hp, hq⟩
    obtain ⟨⟨p, hp, he⟩, hl⟩ := hp
    have CR := fun w => Lib.hid (prog_yes s w hp he hl)
    have CQ := fun w => Lib.hid (implRead_no q w hq)
    clear hp he hl hq h
    go_enter Try.func24, Try.ntmps24
    go_wp2_with fail
    refine (CR _).out.mono ?_
    rintro e w1 ⟨T, u, rfl, hst, hb⟩
    clear hst
    go_wp2_with fail
    refine (CQ _).out.mono ?_
    rintro e w' ⟨rfl, rfl⟩
    go_wp2_with fail
    go_ret2
    exact ⟨rfl, hb⟩
  · have CR := fun w => Lib.hid (prog_no s w hp)
    by_cases hq : Set27 q
    · have CQ := fun w => Lib.hid (implRead_yes q w hq)
      clear hp hq h
      go_enter Try.func24, Try.ntmps24
      go_wp2_with fail
      refine (CR _).out.mono ?_
      rintro e w1 ⟨rfl, hb⟩
      go_wp2_with fail
      refine (CQ _).out.mono ?_
      rintro e w' ⟨rfl, rfl⟩
      go_wp2_with fail
      go_ret2
      exact ⟨rfl, hb⟩
    · have CQ := fun w => Lib.hid (implRead_no q w hq)
      clear hp hq h
      go_enter Try.func24, Try.ntmps24
      go_wp2_with fail
      refine (CR _).out.mono ?_
      rintro e w1 ⟨rfl, hb⟩
      go_wp2_with fail
      refine (CQ _).out.mono ?_
      rintro e w' ⟨rfl, rfl⟩
      go_wp2_with fail
      go_ret2
      exact ⟨rfl, hb⟩
set_option maxRecDepth 100000 in
set_option maxHeartbeats 4000000 in
theorem specPostOf_yes (s q : ByteArray) {p : Pg} (hp : p.ok false) (he : s.data.toList = p.ser) (hl : s.size ≤ 200) (hq : Set27 q) (w : World) : Calls Try.prog 23 #[.string s, .string q] w (TextPost (poS p (hs q.data.toList)) w) := by
  have C := fun w => Lib.hid (specPV_yes s w ⟨p, hp, he⟩ hl)
  have CQ := fun w => Lib.hid (specPredValid_yes q w hq)
  have CM := fun w => Lib.hid (specMask q w hq)
  have CR : ∀ w, Hid (Calls Try.prog 31 #[.string s] w (AllPost (rT p) (rL p) (rK p) w)) := fun w => by
    have := run_any p hp (ser_200 he hl) w
    rw [← bs_of he] at this
    exact this
  clear hp he hl hq
  go_enter Try.func23, Try.ntmps23
  go_wp2_with fail
  refine (C _).out.mono ?_
  rintro e w1 ⟨rfl, n0, rfl⟩
  go_wp2_with fail
  refine (CQ _).out.mono ?_
  rintro e w' ⟨rfl, rfl⟩
  go_wp2_with fail
  refine (CR _).out.mono ?_
  rintro e w2 ⟨rfl, hb⟩
  have HB := Lib.hid (bnext (bdrewN (Below.refl w.heap.size w) n0) hb)
  clear hb
  go_wp2_with fail
  refine (CM _).out.mono ?_
  rintro e w3 ⟨rfl, hb⟩
  replace HB := Lib.hid (bnext HB.out hb)
  clear hb
  go_wp2_with fail
  refine (specPost _ _ _ _ _).mono ?_
  rintro e w4 ⟨rfl, hb⟩
  replace HB := Lib.hid (bnext HB.out hb)
  clear hb
  go_wp2_with fail
  refine (specTextS _ _).mono ?_
  rintro e w5 ⟨rfl, hb⟩
  have HB4 := Lib.hid (bnext HB.out hb)
  clear hb
  go_wp2_with fail
  go_ret2
  exact ⟨rfl, HB4.out⟩
set_option maxRecDepth 100000 in
set_option maxHeartbeats 4000000 in
theorem specPostOf_no (s q : ByteArray) (hm : q.size ≤ maxLen) (h : ¬ (IsP s ∧ Set27 q)) (w : World) : Calls Try.prog 23 #[.string s, .string q] w (NoPost w) := by
  by_cases hp : IsP s
  · have hq : ¬ Set27 q := fun hq => h ⟨hp, hq⟩
    have C := fun w => Lib.hid (specPV_yes s w hp.1 hp.2)
    have CQ := fun w => Lib.hid (specPredValid_no q w hq hm)
    clear hp hq h
    go_enter Try.func23, Try.ntmps23
    go_wp2_with fail
    refine (C _).out.mono ?_
    rintro e w1 ⟨rfl, n0, rfl⟩
    go_wp2_with fail
    refine (CQ _).out.mono ?_
    rintro e w' ⟨rfl, rfl⟩
    go_wp2_with fail
    go_ret2
    exact ⟨rfl, bdrewN (Below.refl _ _) n0⟩
  · have C := fun w => Lib.hid (specPV_no s w hp)
    clear hp h
    go_enter Try.func23, Try.ntmps23
    go_wp2_with fail
    refine (C _).out.mono ?_
    rintro e w1 ⟨rfl, n0, rfl⟩
    go_wp2_with fail
    go_ret2
    exact ⟨rfl, bdrewN (Below.refl _ _) n0⟩
end Go.Proofs.Ytklenikoenoegaa
