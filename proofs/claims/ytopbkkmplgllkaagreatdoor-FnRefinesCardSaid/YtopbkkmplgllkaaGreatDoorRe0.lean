/-
  RefinesProgram of the model.
-/
import Derived.Test.YtopbkkmplgllkaaGreatDoorSa1
import Derived.Test.YtopbkkmplgllkaaGreatDoorEq
import Derived.BigQuiet
namespace Go.Proofs.YtopbkkmplgllkaaGreatDoor
open Go.RowKit Tm Go.Great

theorem PV.t {s : ByteArray} (h : PV s) (w : World) : Calls Tryz.prog 24 #[.string s] w fun e w' => e = .returned (.bool true) ∧ Below w.heap.size w w' := by
  obtain ⟨b, hb, hc⟩ := specPVb s w
  rw [hb.2 h] at hc; exact hc
theorem PV.f {s : ByteArray} (h : ¬ PV s) (w : World) : Calls Tryz.prog 24 #[.string s] w fun e w' => e = .returned (.bool false) ∧ Below w.heap.size w w' := by
  obtain ⟨b, hb, hc⟩ := specPVb s w
  cases b with
  | false => exact hc
  | true => exact absurd (hb.1 rfl) h
theorem PV.of {p : Pg} (hp : p.ok false) (hl : p.ser.length ≤ 200) : PV (bs p.ser) := ⟨⟨p, hp, by simp [bs]⟩, by rw [bs_size]; exact hl⟩
/-- The first set is not within the second one. -/
def outS (A B : Nat → Bool) : Bool := upto 27 (fun j => A j && !B j)
theorem outS_f {A B : Nat → Bool} : outS A B = false ↔ ∀ j, j < 27 → A j = true → B j = true := by
  unfold outS
  cases h : upto 27 (fun j => A j && !B j) with
  | false =>
    refine ⟨fun _ j hj ha => ?_, fun _ => rfl⟩
    cases hb : B j with
    | true => rfl
    | false =>
      have : upto 27 (fun j => A j && !B j) = true := upto_iff.2 ⟨j, hj, by simp [ha, hb]⟩
      rw [h] at this; cases this
  | true =>
    refine ⟨fun h => by (first | cases h | simp at h), fun hall => ?_⟩
    obtain ⟨j, hj, hb⟩ := upto_iff.1 h
    simp at hb
    rw [hall j hj hb.1] at hb
    simp at hb
theorem ref_pure {p q : Pg} : allO reO (oc p) (oc q) = true ↔ (∀ i, i < 27 → outS (rT p i) (rT q i) = false) ∧ outS (rL p) (rL q) = false ∧ outS (rK p) (rK q) = false := by
  rw [allO_iff, outS_f, outS_f]
  unfold reO eqO oc
  simp only [Bool.and_eq_true, beq_iff_eq]
  have hb : ∀ x y : Bool, (x || y) = y ↔ (x = true → y = true) := by decide
  constructor
  · intro h
    refine ⟨fun i hi => outS_f.2 fun j hj ha => ?_, fun j hj => (hb _ _).1 (h j hj).1.2, fun j hj => (hb _ _).1 (h j hj).2⟩
    have := nb_inj (h i hi).1.1 j hj
    exact (hb _ _).1 this ha
  · rintro ⟨h1, h2, h3⟩ j hj
    exact ⟨⟨nb_congr fun k hk => (hb _ _).2 (outS_f.1 (h1 j hj) k hk), (hb _ _).2 (h2 j hj)⟩, (hb _ _).2 (h3 j hj)⟩
theorem out_num (A B : Nat → Bool) : ∃ d : Nat, bits .andNot .i64 (nb 27 A : Nat) (nb 27 B : Nat) = (d : Int) ∧ ((d : Int) != 0) = outS A B ∧ ((d : Int) == 0) = !outS A B := by
  refine ⟨_, s_andNot A B, neq0 _, ?_⟩
  have h : (((nb 27 fun i => A i && !B i : Nat) : Int) != 0) = outS A B := neq0 _
  rw [← h]
  simp [bne]

set_option maxRecDepth 100000 in
set_option maxHeartbeats 8000000 in
theorem specRef_yes (p q : Pg) (w : World) (hp : p.ok false) (hl : p.ser.length ≤ 200) (hq : q.ok false) (hm : q.ser.length ≤ 200) :
    Calls Tryz.prog 14 #[.string (bs p.ser), .string (bs q.ser)] w fun e w' => e = .returned (.bool (allO reO (oc p) (oc q))) ∧ Below w.heap.size w w' := by
  have V1 := fun w => Lib.hid ((PV.of hp hl).t w)
  have V2 := fun w => Lib.hid ((PV.of hq hm).t w)
  have R1 := fun w => Lib.hid (run_any p hp hl w)
  have R2 := fun w => Lib.hid (run_any q hq hm w)
  have HP := Lib.hid (ref_pure (p := p) (q := q))
  generalize allO reO (oc p) (oc q) = res at *
  generalize rT p = T at *
  generalize rL p = L at *
  generalize rK p = K at *
  generalize rT q = T' at *
  generalize rL q = L' at *
  generalize rK q = K' at *
  unfold AllPost at R1 R2
  generalize bs p.ser = s at *
  generalize bs q.ser = t at *
  go_enter Tryz.func14, Tryz.ntmps14
  go_wp2_with fail
  refine (V1 _).out.mono ?_
  rintro e w1 ⟨rfl, hb1⟩
  go_wp2_with fail
  refine (V2 _).out.mono ?_
  rintro e w2 ⟨rfl, hb2⟩
  have HB := Lib.hid (bnext hb1 hb2)
  clear hb1 hb2
  go_wp2_with fail
  refine (R1 _).out.mono ?_
  rintro e w3 ⟨rfl, hb3⟩
  have HB3 := Lib.hid (bnext HB.out hb3)
  have K0 := Lib.hid (Blk.new w3 (allC noT noS noS) 50)
  have K1 := Lib.hid (K0.out.row (allC T L K))
  replace HB3 := Lib.hid (Below.setRow (HB3.out.alloc HB3.out.size (.cells (allC noT noS noS) 50)) (g := w3.heap.size) HB3.out.size (allC T L K))
  clear hb3
  go_wp2_with (first
    | (refine ar_alloc rfl rfl (some 5) rfl w3.heap.size rfl ?_)
    | (refine wpList_store_row rfl 50 _ _ rfl w3.heap.size (allC T L K) (by rfl) (by rfl) 50 (allC noT noS noS) K0.out (infoAll' _ _ _) (by rw [allC_size, allC_size]) (allC_one _ _ _) ?_))
  generalize (w3.alloc (.cells (allC noT noS noS) 50)).setRow w3.heap.size (allC T L K) = w4 at *
  refine (R2 _).out.mono ?_
  rintro e w5 ⟨rfl, hb5⟩
  have HB5 := Lib.hid (bnext HB3.out hb5)
  have J0 := Lib.hid (Blk.new w5 (allC noT noS noS) 50)
  have J1 := Lib.hid (J0.out.row (allC T' L' K'))
  have hlt5 := (K1.out.kept hb5).lt
  have K5 := Lib.hid ((((K1.out.kept hb5).alloc (.cells (allC noT noS noS) 50))).rowOther (g := w5.heap.size) (by omega) (allC T' L' K'))
  replace HB5 := Lib.hid (Below.setRow (HB5.out.alloc HB5.out.size (.cells (allC noT noS noS) 50)) (g := w5.heap.size) HB5.out.size (allC T' L' K'))
  clear hb5
  go_wp2_with (first
    | (refine ar_alloc rfl rfl (some 6) rfl w5.heap.size rfl ?_)
    | (refine wpList_store_row rfl 50 _ _ rfl w5.heap.size (allC T' L' K') (by rfl) (by rfl) 50 (allC noT noS noS) J0.out (infoAll' _ _ _) (by rw [allC_size, allC_size]) (allC_one _ _ _) ?_))
  generalize (w5.alloc (.cells (allC noT noS noS) 50)).setRow w5.heap.size (allC T' L' K') = w6 at *
  clear K0 K1 J0 R1 R2 V1 V2
  go_loopw [7] (fun ix wr => ∃ k : Nat, k ≤ 27 ∧ ix = .int .i64 k ∧ Hid (Below w.heap.size w wr) ∧ Hid (Blk wr w3.heap.size (allC T L K) 50) ∧ Hid (Blk wr w5.heap.size (allC T' L' K') 50) ∧ Hid (∀ j, j < k → outS (T j) (T' j) = false)) (fun ix _ => 27 - (intOf ix).toNat)
  case atStart => exact ⟨0, by omega, rfl, HB5, K5, J1, fun j hj => by omega⟩
  case round =>
    clear HB HB3 HB5 K5 J1
    obtain ⟨k, hk, rfl, Q1, Q2, Q3, Q4⟩ := hrel
    by_cases hlt : k < 27
    · have hlt2 : (k : Int) < 27 := by omega
      have hk0 : (0 : Int) ≤ k := by omega
      have x0 : wr.cell? ⟨w3.heap.size, k, none⟩ = some (.int .i64 (nb 27 (T k))) := (Q2.out.cell k).trans (allC_get _ _ _ hlt)
      have y0 : wr.cell? ⟨w5.heap.size, k, none⟩ = some (.int .i64 (nb 27 (T' k))) := (Q3.out.cell k).trans (allC_get _ _ _ hlt)
      obtain ⟨d, e1, e2, _⟩ := out_num (T k) (T' k)
      have HO : Hid (outS (T k) (T' k) = outS (T k) (T' k)) := rfl
      generalize ho : outS (T k) (T' k) = o at e2
      have HO2 := Lib.hid ho
      clear ho HO
      have hl1 := Q2.out.lt
      have hl2 := Q3.out.lt
      cases o with
      | true =>
        go_wp2_with fail
        go_quiet (fail)
        have N1 := Lib.hid (bdrewN Q1.out nq)
        go_wp2_with fail
        go_ret
        exact ⟨by
          have : res = false := by
            cases hr : res with
            | false => rfl
            | true => have := (HP.out.1 hr).1 k hlt; rw [HO2.out] at this; cases this
          rw [this]; rfl, N1.out⟩
      | false =>
        go_wp2_with fail
        go_quiet (fail)
        have N1 := Lib.hid (bdrewN Q1.out nq)
        have N2 := Lib.hid (Q2.out.kept (bdrewN (Below.refl _ _) nq))
        have N3 := Lib.hid (Q3.out.kept (bdrewN (Below.refl _ _) nq))
        go_wp2_with fail
        exact ⟨⟨k + 1, by omega, by go_num, N1, N2, N3, fun j hj => by
          by_cases e : j = k
          · subst e; exact HO2.out
          · exact Q4.out j (by omega)⟩, by simp [intOf]; omega⟩
    · have hk2 : k = 27 := by omega
      subst hk2
      have x1 : wr.cell? ⟨w3.heap.size, 27, none⟩ = some (.int .i64 (nb 27 L)) := (Q2.out.cell 27).trans (allC_L _ _ _)
      have x2 : wr.cell? ⟨w3.heap.size, 28, none⟩ = some (.int .i64 (nb 27 K)) := (Q2.out.cell 28).trans (allC_K _ _ _)
      have y1 : wr.cell? ⟨w5.heap.size, 27, none⟩ = some (.int .i64 (nb 27 L')) := (Q3.out.cell 27).trans (allC_L _ _ _)
      have y2 : wr.cell? ⟨w5.heap.size, 28, none⟩ = some (.int .i64 (nb 27 K')) := (Q3.out.cell 28).trans (allC_K _ _ _)
      obtain ⟨d1, e1, _, e2⟩ := out_num L L'
      obtain ⟨d2, f1, _, f2⟩ := out_num K K'
      have HR : Hid (res = (!outS L L' && !outS K K')) := by
        show _ = _
        rw [Bool.eq_iff_iff, HP.out]
        simp only [Bool.and_eq_true, Bool.not_eq_true']
        exact ⟨fun h => h.2, fun h => ⟨Q4.out, h⟩⟩
      have hl1 := Q2.out.lt
      have hl2 := Q3.out.lt
      clear HP
      generalize outS L L' = o1 at e2 HR
      generalize outS K K' = o2 at f2 HR
      cases o1 with
      | true =>
        go_wp2_with fail
        go_ret
        exact ⟨by rw [HR.out]; rfl, Q1.out⟩
      | false =>
        go_wp2_with fail
        go_ret
        exact ⟨by rw [HR.out]; rfl, Q1.out⟩
set_option maxHeartbeats 4000000 in
theorem specRef_no (s t : ByteArray) (w : World) (h : ¬ (PV s ∧ PV t)) : Calls Tryz.prog 14 #[.string s, .string t] w fun e w' => e = .returned (.bool false) ∧ Below w.heap.size w w' := by
  by_cases h1 : PV s
  · have h2 : ¬ PV t := fun h2 => h ⟨h1, h2⟩
    have V1 := fun w => Lib.hid (h1.t w)
    have V2 := fun w => Lib.hid (PV.f h2 w)
    clear h h1 h2
    go_enter Tryz.func14, Tryz.ntmps14
    go_wp2_with fail
    refine (V1 _).out.mono ?_
    rintro e w1 ⟨rfl, hb1⟩
    go_wp2_with fail
    refine (V2 _).out.mono ?_
    rintro e w2 ⟨rfl, hb2⟩
    have HB := Lib.hid (bnext hb1 hb2)
    clear hb1 hb2
    go_wp2_with fail
    go_ret
    exact ⟨rfl, HB.out⟩
  · have V1 := fun w => Lib.hid (PV.f h1 w)
    clear h h1
    go_enter Tryz.func14, Tryz.ntmps14
    go_wp2_with fail
    refine (V1 _).out.mono ?_
    rintro e w1 ⟨rfl, hb1⟩
    have HB := Lib.hid hb1
    clear hb1
    go_wp2_with fail
    go_ret
    exact ⟨rfl, HB.out⟩
end Go.Proofs.YtopbkkmplgllkaaGreatDoor
