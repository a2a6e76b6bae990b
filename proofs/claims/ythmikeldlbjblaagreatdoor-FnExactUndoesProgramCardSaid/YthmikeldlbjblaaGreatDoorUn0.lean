/-
  UndoesProgram and IdempotentProgram: both sides.
-/
import Derived.Test.YthmikeldlbjblaaGreatDoorTh1
import Derived.Test.YthmikeldlbjblaaGreatDoorRe0
namespace Go.Proofs.YthmikeldlbjblaaGreatDoor
open Go.RowKit Tm Go.Great Go.ChangeMaps

def allO2 (T : Nat → Nat → Bool) (L K : Nat → Bool) : Nat → Oc := fun i => (T i, L i, K i)
theorem allEq_O (T : Nat → Nat → Bool) (L K : Nat → Bool) (T' : Nat → Nat → Bool) (L' K' : Nat → Bool) : allEq T L K T' L' K' = allO eqO (allO2 T L K) (allO2 T' L' K') := by
  rw [Bool.eq_iff_iff, allO_iff]
  unfold allEq eqO allO2
  simp only [Bool.and_eq_true, List.all_eq_true, List.mem_range, beq_iff_eq]
  constructor
  · rintro ⟨h1, h2, h3⟩ j hj
    exact ⟨⟨h1 j hj, nb_inj h2 j hj⟩, nb_inj h3 j hj⟩
  · intro h
    exact ⟨fun j hj => (h j hj).1.1, nb_congr fun j hj => (h j hj).1.2, nb_congr fun j hj => (h j hj).2⟩
theorem oc_skip {i : Nat} (_hi : i < 27) : nb 27 (oc .skip i).1 = nb 27 (fun j => j == i) ∧ (oc .skip i).2.1 = false ∧ (oc .skip i).2.2 = false := by
  refine ⟨nb_congr fun j _ => ?_, ?_, ?_⟩
  · rw [Bool.eq_iff_iff]; simp [oc, rT_iff, Fin]
  · rw [Bool.eq_iff_iff]; simp [oc, rL_iff, Lps]
  · rw [Bool.eq_iff_iff]; simp [oc, rK_iff, Stk]
theorem th_sq (p q : Pg) : thO (oc p) (oc q) = allO2 (sqT (rT p) (rT q)) (sqS (rT p) (rL q) (rL p)) (sqS (rT p) (rK q) (rK p)) := rfl
theorem undo_pure (p q : Pg) : allEq (sqT (rT p) (rT q)) (sqS (rT p) (rL q) (rL p)) (sqS (rT p) (rK q) (rK p)) (fun i j => j == i) noS noS = allO eqO (thO (oc p) (oc q)) (oc .skip) := by
  rw [allEq_O, ← th_sq, Bool.eq_iff_iff, allO_iff, allO_iff]
  generalize thO (oc p) (oc q) = F
  unfold eqO allO2 noS
  refine forall_congr' fun j => forall_congr' fun hj => ?_
  obtain ⟨a, b, c⟩ := oc_skip hj
  rw [a, b, c]
theorem idem_pure (p : Pg) : allEq (sqT (rT p) (rT p)) (sqS (rT p) (rL p) (rL p)) (sqS (rT p) (rK p) (rK p)) (rT p) (rL p) (rK p) = allO eqO (thO (oc p) (oc p)) (oc p) := by
  rw [allEq_O]; rfl

set_option maxRecDepth 100000 in
set_option maxHeartbeats 4000000 in
theorem specUndo_yes (p q : Pg) (w : World) (hp : p.ok false) (hl : p.ser.length ≤ 200) (hq : q.ok false) (hm : q.ser.length ≤ 200) :
    Calls Tryz.prog 24 #[.string (bs p.ser), .string (bs q.ser)] w fun e w' => e = .returned (.bool (allO eqO (thO (oc p) (oc q)) (oc .skip))) ∧ Below w.heap.size w w' := by
  rw [← undo_pure]
  have V1 := fun w => Lib.hid ((PV.of hp hl).t w)
  have V2 := fun w => Lib.hid ((PV.of hq hm).t w)
  have R1 := fun w => Lib.hid (run_any p hp hl w)
  have R2 := fun w => Lib.hid (run_any q hq hm w)
  have R3 := fun w => Lib.hid (specSeq (rT p) (rT q) (rL p) (rK p) (rL q) (rK q) w)
  have R4 := fun w => Lib.hid (specSkip w)
  have HE := run_eqAll (sqT (rT p) (rT q)) (sqS (rT p) (rL q) (rL p)) (sqS (rT p) (rK q) (rK p)) (fun i j => j == i) noS noS
  unfold AllPost at R1 R2 R3 R4
  generalize allC (sqT (rT p) (rT q)) (sqS (rT p) (rL q) (rL p)) (sqS (rT p) (rK q) (rK p)) = C3 at *
  generalize allC (fun i j => j == i) noS noS = C4 at *
  generalize allC (rT p) (rL p) (rK p) = C1 at *
  generalize allC (rT q) (rL q) (rK q) = C2 at *
  generalize allEq (sqT (rT p) (rT q)) (sqS (rT p) (rL q) (rL p)) (sqS (rT p) (rK q) (rK p)) (fun i j => j == i) noS noS = res at *
  generalize bs p.ser = s at *
  generalize bs q.ser = t at *
  go_enter Tryz.func24, Tryz.ntmps24
  go_wp2_with fail
  refine (V1 _).out.mono ?_
  rintro e w1 ⟨rfl, hb1⟩
  go_wp2_with fail
  refine (V2 _).out.mono ?_
  rintro e w2 ⟨rfl, hb2⟩
  go_wp2_with fail
  refine (R1 _).out.mono ?_
  rintro e w3 ⟨rfl, hb3⟩
  go_wp2_with fail
  refine (R2 _).out.mono ?_
  rintro e w4 ⟨rfl, hb4⟩
  go_wp2_with fail
  refine (R3 _).out.mono ?_
  rintro e w5 ⟨rfl, hb5⟩
  go_wp2_with fail
  refine (R4 _).out.mono ?_
  rintro e w6 ⟨rfl, hb6⟩
  have HB := Lib.hid (bnext (bnext (bnext (bnext (bnext hb1 hb2) hb3) hb4) hb5) hb6)
  clear hb1 hb2 hb3 hb4 hb5 hb6
  go_wp2_with fail
  go_ret
  exact ⟨rfl, HB.out⟩
set_option maxHeartbeats 4000000 in
theorem specUndo_no (s t : ByteArray) (w : World) (h : ¬ (PV s ∧ PV t)) : Calls Tryz.prog 24 #[.string s, .string t] w fun e w' => e = .returned (.bool false) ∧ Below w.heap.size w w' := by
  by_cases h1 : PV s
  · have h2 : ¬ PV t := fun h2 => h ⟨h1, h2⟩
    have V1 := fun w => Lib.hid (h1.t w)
    have V2 := fun w => Lib.hid (PV.f h2 w)
    clear h h1 h2
    go_enter Tryz.func24, Tryz.ntmps24
    go_wp2_with fail
    refine (V1 _).out.mono ?_
    rintro e w1 ⟨rfl, hb1⟩
    go_wp2_with fail
    refine (V2 _).out.mono ?_
    rintro e w2 ⟨rfl, hb2⟩
    have HB := Lib.hid (bnext hb1 hb2)
    clear hb1 hb2
    go_wp2_with fail
    go_ret
    exact ⟨rfl, HB.out⟩
  · have V1 := fun w => Lib.hid (PV.f h1 w)
    clear h h1
    go_enter Tryz.func24, Tryz.ntmps24
    go_wp2_with fail
    refine (V1 _).out.mono ?_
    rintro e w1 ⟨rfl, hb1⟩
    have HB := Lib.hid hb1
    clear hb1
    go_wp2_with fail
    go_ret
    exact ⟨rfl, HB.out⟩

set_option maxRecDepth 100000 in
set_option maxHeartbeats 4000000 in
theorem implUndo_yes (s t : ByteArray) (w : World) {p q : Pg} (hp : p.ok false) (hs : s.data.toList = p.ser) (hl : s.size ≤ 200) (hq : q.ok false) (ht : t.data.toList = q.ser) (hm : t.size ≤ 200) :
    Calls Tryz.prog 25 #[.string s, .string t] w fun e w' => e = .returned (.bool (allO eqO (thO (oc p) (oc q)) (oc .skip))) ∧ Below w.heap.size w w' := by
  have C := fun w => Lib.hid (readOut_yes s t w hp hs hl hq ht hm)
  clear hs ht
  go_enter Tryz.func25, Tryz.ntmps25
  go_wp2_with fail
  refine (C _).out.mono ?_
  rintro e w2 ⟨r1, r2, B, B', rfl, h1, h2, hb⟩
  have HB := Lib.hid hb
  have C1 := Lib.hid (then_any _ _ B B' _ _ w2 h1 h2)
  obtain ⟨g1, c1, rfl, _, _⟩ := h1.form
  obtain ⟨g2, c2, rfl, _, _⟩ := h2.form
  clear h1 h2 hb C
  go_wp2_with fail
  refine C1.out.mono ?_
  rintro e w3 ⟨r3, rfl, h3, hb⟩
  have HB3 := Lib.hid (bnext HB.out hb)
  have H3 := Lib.hid h3
  obtain ⟨g3, c3, rfl, _, _⟩ := h3.form
  have C2 := Lib.hid (outcomes_any .skip 0 (.iface 85 (.agg #[])) w3 rfl trivial (by simp [Pg.all]))
  clear hb h3 C1
  go_wp2_with fail
  refine C2.out.mono ?_
  rintro e w4 ⟨r4, rfl, h4, hb⟩
  have HB4 := Lib.hid (bnext HB3.out hb)
  have C3 := Lib.hid (same_any _ _ _ _ _ _ w4 (H3.out.kept hb) h4)
  obtain ⟨g4, c4, rfl, _, _⟩ := h4.form
  clear hb h4 C2 H3
  go_wp2_with fail
  refine C3.out.mono ?_
  rintro e w5 ⟨rfl, hb⟩
  have HB5 := Lib.hid (bnext HB4.out hb)
  clear hb
  go_wp2_with fail
  go_ret
  exact ⟨rfl, HB5.out⟩
set_option maxHeartbeats 2000000 in
theorem implUndo_no (s t : ByteArray) (w : World) (h : ¬ ((PValid false s.data.toList ∧ s.size ≤ 200) ∧ PValid false t.data.toList ∧ t.size ≤ 200)) :
    Calls Tryz.prog 25 #[.string s, .string t] w fun e w' => e = .returned (.bool false) ∧ Below w.heap.size w w' := by
  have C := fun w => Lib.hid (readOut_no s t w h)
  clear h
  go_enter Tryz.func25, Tryz.ntmps25
  go_wp2_with fail
  refine (C _).out.mono ?_
  rintro e w2 ⟨rfl, hb⟩
  have HB := Lib.hid hb
  clear hb C
  go_wp2_with fail
  go_ret
  exact ⟨rfl, HB.out⟩
end Go.Proofs.YthmikeldlbjblaaGreatDoor
