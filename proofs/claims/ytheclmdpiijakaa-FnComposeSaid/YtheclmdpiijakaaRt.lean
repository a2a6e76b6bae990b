/-
  The model's exported functions on relations.
-/
import Derived.Test.YtheclmdpiijakaaRa
namespace Go.Proofs.Ytheclmdpiijakaa
open Go.RowKit Go.Great

theorem BoolIs.of {f : FuncId} {a : Array Value} {w : World} {b : Bool} (h : Calls Try.prog f a w fun e w' => e = .returned (.bool b) ∧ w = w') : Calls Try.prog f a w (BoolIs b w) := h.mono fun _ _ ⟨h1, h2⟩ => ⟨h1, by subst h2; exact Below.refl _ _⟩
set_option maxHeartbeats 1000000 in
theorem specRelV_yes (s : ByteArray) (hs : Rel729 s) (w : World) : Calls Try.prog 27 #[.string s] w fun e w' => e = .returned (.bool true) ∧ w = w' := by
  have C := fun w => Lib.hid (specBits_yes s 729 w hs (by omega))
  go_enter Try.func27, Try.ntmps27
  go_wp2_with fail
  refine (C _).out.mono ?_
  rintro e w' ⟨rfl, rfl⟩
  go_wp2_with fail
  go_ret
  exact ⟨rfl, rfl⟩
set_option maxHeartbeats 1000000 in
theorem specRelV_no (s : ByteArray) (hs : ¬ Rel729 s) (hm : s.size ≤ maxLen) (w : World) : Calls Try.prog 27 #[.string s] w fun e w' => e = .returned (.bool false) ∧ w = w' := by
  have C := fun w => Lib.hid (specBits_no s 729 w hs hm (by omega))
  clear hs
  go_enter Try.func27, Try.ntmps27
  go_wp2_with fail
  refine (C _).out.mono ?_
  rintro e w' ⟨rfl, rfl⟩
  go_wp2_with fail
  go_ret
  exact ⟨rfl, rfl⟩
theorem cntR_rel (l : List UInt8) (k : Nat) : cntR (relS l) k = cnt (27 * k) (hs l) := by
  induction k with
  | zero => rfl
  | succ k ih =>
    rw [show 27 * (k + 1) = 27 * k + 27 by omega, cnt_add]
    unfold cntR
    rw [ih]
    rfl
theorem bs_rel {s : ByteArray} (h : Rel729 s) : s = bs (tbn 729 (hs s.data.toList)) := by
  rw [tbn_hs h]
  apply ByteArray.ext
  simp [bs]
theorem and_same {s q : ByteArray} (h : Rel729 s) : ((bs (tbn 729 (fun i => hs s.data.toList i && hs q.data.toList i))).toList == s.toList) = relEq (fun i j => relS s.data.toList i j && relS q.data.toList i j) (relS s.data.toList) := by
  rw [bytes_eq, Bool.eq_iff_iff, decide_eq_true_eq, relEq_iff]
  constructor
  · intro e i hi j hj
    have e2 := e.trans (bs_rel h)
    have e3 : tbn 729 (fun i => hs s.data.toList i && hs q.data.toList i) = tbn 729 (hs s.data.toList) := by
      have := congrArg (fun b : ByteArray => b.data.toList) e2
      simpa [bs] using this
    exact tbn_inj e3 (27 * i + j) (by omega)
  · intro e
    conv => rhs; rw [bs_rel h]
    refine congrArg bs (tbn_congr fun m hm => ?_)
    have := e (m / 27) (by omega) (m % 27) (by omega)
    unfold relS at this
    have e2 : 27 * (m / 27) + m % 27 = m := by omega
    rwa [e2] at this

set_option maxRecDepth 100000 in
set_option maxHeartbeats 4000000 in
theorem specComposeRel_yes (s q : ByteArray) (h : Rel729 s ∧ Rel729 q) (w : World) : Calls Try.prog 8 #[.string s, .string q] w (TextOk (relT (compR (relS s.data.toList) (relS q.data.toList))) true w) := by
  obtain ⟨h1, h2⟩ := h
  have Hs := Lib.hid h1
  have Hq := Lib.hid h2
  have HZ := Lib.hid (Rel729.size h1)
  have HZ2 := Lib.hid (Rel729.size h2)
  clear h1 h2
  have KB := Lib.hid (Below.refl w.heap.size w)
  go_enter Try.func8, Try.ntmps8
  go_wp2_with fail
  refine (specRelV_yes s Hs.out _).mono ?_
  rintro e w' ⟨rfl, rfl⟩
  go_wp2_with fail
  refine (specRelV_yes q Hq.out _).mono ?_
  rintro e w' ⟨rfl, rfl⟩
  go_wp2_with fail
  refine (specRead s Hs.out _).mono ?_
  rintro e w2 ⟨rfl, hb⟩
  replace KB := Lib.hid (bnext KB.out hb)
  clear hb
  go_wp2_with fail
  refine (specRead q Hq.out _).mono ?_
  rintro e w2 ⟨rfl, hb⟩
  replace KB := Lib.hid (bnext KB.out hb)
  clear hb
  go_wp2_with fail
  refine (specComp (relS s.data.toList) (relS q.data.toList) _).mono ?_
  rintro e w2 ⟨rfl, hb⟩
  replace KB := Lib.hid (bnext KB.out hb)
  clear hb
  go_wp2_with fail
  refine (specRText (compR (relS s.data.toList) (relS q.data.toList)) _).mono ?_
  rintro e w2 ⟨rfl, hb⟩
  replace KB := Lib.hid (bnext KB.out hb)
  clear hb
  go_wp2_with fail
  go_ret2
  exact ⟨rfl, KB.out⟩

set_option maxRecDepth 100000 in
set_option maxHeartbeats 4000000 in
theorem specComposeRel_no (s q : ByteArray) (h : ¬ (Rel729 s ∧ Rel729 q)) (hm : s.size ≤ maxLen) (hm2 : q.size ≤ maxLen) (w : World) : Calls Try.prog 8 #[.string s, .string q] w (TextOk [] false w) := by
  by_cases h1 : Rel729 s
  · have h2 : ¬ Rel729 q := fun h2 => h ⟨h1, h2⟩
    have C := fun w => Lib.hid (specRelV_yes s h1 w)
    have D := fun w => Lib.hid (specRelV_no q h2 hm2 w)
    clear h1 h2 h
    go_enter Try.func8, Try.ntmps8
    go_wp2_with fail
    refine ((C _).out).mono ?_
    rintro e w' ⟨rfl, rfl⟩
    go_wp2_with fail
    refine ((D _).out).mono ?_
    rintro e w' ⟨rfl, rfl⟩
    go_wp2_with fail
    go_ret2
    exact ⟨rfl, Below.refl _ _⟩
  · have C := fun w => Lib.hid (specRelV_no s h1 hm w)
    clear h1 h
    go_enter Try.func8, Try.ntmps8
    go_wp2_with fail
    refine ((C _).out).mono ?_
    rintro e w' ⟨rfl, rfl⟩
    go_wp2_with fail
    go_ret2
    exact ⟨rfl, Below.refl _ _⟩

end Go.Proofs.Ytheclmdpiijakaa
