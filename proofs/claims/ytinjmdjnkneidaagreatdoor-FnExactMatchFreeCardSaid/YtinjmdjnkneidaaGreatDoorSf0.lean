/-
  The pairs from which all ends are in a relation, by the model: spec.l8Free.
-/
import Derived.Test.YtinjmdjnkneidaaGreatDoorPk7
import Derived.Test.YtinjmdjnkneidaaGreatDoorTopR1
import Derived.Test.YtinjmdjnkneidaaGreatDoorLo
namespace Go.Proofs.YtinjmdjnkneidaaGreatDoor
open Go.RowKit Tm Go.Great

/-- What the rows of a relation have in common, over the first m states of a set. -/
def inP (F : Nat → Bool) (A : Nat → Nat → Bool) (m : Nat) : Nat → Bool := fun j => !(upto m fun c => F c && !A c j)
theorem inP_zero (F : Nat → Bool) (A : Nat → Nat → Bool) : nb 27 (inP F A 0) = 134217727 := by
  rw [nb_congr (G := fun _ => true) fun i _ => by simp [inP, upto_zero]]
  exact nb_all
theorem inP_yes {F : Nat → Bool} {A : Nat → Nat → Bool} {m : Nat} (h : F m = true) : (fun j => inP F A m j && A m j) = inP F A (m + 1) := by
  funext j
  unfold inP
  rw [upto_succ, h]
  cases upto m (fun c => F c && !A c j) <;> simp
theorem inP_no {F : Nat → Bool} {A : Nat → Nat → Bool} {m : Nat} (h : F m = false) : inP F A m = inP F A (m + 1) := by
  funext j
  unfold inP
  rw [upto_succ, h]
  simp
def b1F (T T' A : Nat → Nat → Bool) (i j : Nat) : Bool := (((nb 27 (fun c => T' j c && !inP (T i) A 27 c) : Nat) : Int) == 0)
def b2F (T : Nat → Nat → Bool) (i : Nat) : Bool := (((nb 27 (T i) : Nat) : Int) == 0)
def frS (T T' A : Nat → Nat → Bool) : Nat → Nat → Bool := fun i j => b1F T T' A i j || b2F T i
theorem nb0_iff (F : Nat → Bool) : (((nb 27 F : Nat) : Int) == 0) = true ↔ ∀ j, j < 27 → F j = false := by
  rw [beq_iff_eq]
  constructor
  · intro h j hj
    have h2 : nb 27 F = nb 27 (fun _ => false) := by rw [nb_zero 27 (F := fun _ => false) (fun _ _ => rfl)]; omega
    exact nb_inj h2 j hj
  · intro h
    rw [nb_zero 27 (F := F) h]
    rfl
theorem frS_eq (p q : Pg) (A : Nat → Nat → Bool) {i j : Nat} : frS (rT p) (rT q) A i j = frR p q A i j := by
  rw [Bool.eq_iff_iff, frR_iff]
  unfold frS b1F b2F
  rw [Bool.or_eq_true, nb0_iff, nb0_iff]
  constructor
  · rintro (h | h) a ha c hc hr
    · rw [Bool.and_eq_true] at hr
      have h1 := h c hc
      rw [hr.2, Bool.true_and] at h1
      unfold inP at h1
      rw [Bool.not_not] at h1
      cases hA : A a c with
      | true => rfl
      | false =>
        have h2 : upto 27 (fun c' => rT p i c' && !A c' c) = true := upto_iff.2 ⟨a, ha, by rw [hr.1, hA]; rfl⟩
        rw [h1] at h2
        cases h2
    · rw [Bool.and_eq_true, h a ha] at hr
      cases hr.1
  · intro h
    left
    intro c hc
    cases hq : rT q j c with
    | false => rfl
    | true =>
      rw [Bool.true_and]
      unfold inP
      rw [Bool.not_not]
      cases hu : upto 27 (fun c' => rT p i c' && !A c' c) with
      | false => rfl
      | true =>
        obtain ⟨a, ha, hr⟩ := upto_iff.1 hu
        rw [Bool.and_eq_true, Bool.not_eq_true'] at hr
        have := h a ha c hc (by rw [hr.1, hq]; rfl)
        rw [hr.2] at this
        cases this
def C5 (w : World) (T : Nat → Nat → Bool) (L K : Nat → Bool) (T' : Nat → Nat → Bool) (L' K' : Nat → Bool) (A R : Nat → Nat → Bool) (B : Nat) : Prop :=
  Blk w B (allC T L K) 38 ∧ Blk w (B + 1) (allC T' L' K') 38 ∧ Blk w (B + 2) (relC .i64 A) 52 ∧ Blk w (B + 3) (relC .i64 noR) 52 ∧ Blk w (B + 4) (relC .i64 R) 52
theorem C5.kept {w w' : World} {T : Nat → Nat → Bool} {L K : Nat → Bool} {T' : Nat → Nat → Bool} {L' K' : Nat → Bool} {A R : Nat → Nat → Bool} {B : Nat} (h : C5 w T L K T' L' K' A R B) (hb : Below w.heap.size w w') : C5 w' T L K T' L' K' A R B :=
  ⟨h.1.kept hb, h.2.1.kept hb, h.2.2.1.kept hb, h.2.2.2.1.kept hb, h.2.2.2.2.kept hb⟩

set_option maxRecDepth 1000000 in
set_option maxHeartbeats 8000000 in
theorem specFree (T : Nat → Nat → Bool) (L K : Nat → Bool) (T' : Nat → Nat → Bool) (L' K' : Nat → Bool) (A : Nat → Nat → Bool) (w : World) :
    Calls Tryz.prog 47 #[.agg (allC T L K), .agg (allC T' L' K'), .agg (relC .i64 A)] w (MPost (frS T T' A) w) := by
  obtain ⟨k0, k1, k2, kb⟩ := three_new w (allC T L K) (allC T' L' K') (relC .i64 A) 38 38 52
  have hz : (((w.alloc (.cells (allC T L K) 38)).alloc (.cells (allC T' L' K') 38)).alloc (.cells (relC .i64 A) 52)).heap.size = w.heap.size + 3 := by simp
  obtain ⟨l3, l4, lb⟩ := two_new (((w.alloc (.cells (allC T L K) 38)).alloc (.cells (allC T' L' K') 38)).alloc (.cells (relC .i64 A) 52)) (relC .i64 noR) (relC .i64 noR) 52 52
  have HZ : Hid ((((w.alloc (.cells (allC T L K) 38)).alloc (.cells (allC T' L' K') 38)).alloc (.cells (relC .i64 A) 52)).heap.size = w.heap.size + 3) := hz
  have HZ2 : Hid (((((w.alloc (.cells (allC T L K) 38)).alloc (.cells (allC T' L' K') 38)).alloc (.cells (relC .i64 A) 52)).alloc (.cells (relC .i64 noR) 52)).heap.size = w.heap.size + 4) := by show _ = _; simp
  rw [hz] at l3 l4
  have L4 := Lib.hid l4
  have K5 : Hid (C5 ((((((w.alloc (.cells (allC T L K) 38)).alloc (.cells (allC T' L' K') 38)).alloc (.cells (relC .i64 A) 52)).alloc (.cells (relC .i64 noR) 52)).alloc (.cells (relC .i64 noR) 52)).setRow (w.heap.size + 4) (relC .i64 noR)) T L K T' L' K' A (lowR (frS T T' A) 0 0) w.heap.size) :=
    ⟨(k0.kept lb).rowOther (by omega) _, (k1.kept lb).rowOther (by omega) _, (k2.kept lb).rowOther (by omega) _, l3.rowOther (by omega) _, by rw [lowR_zero]; exact l4.row _⟩
  have KB := Lib.hid (Below.setRow (bnext kb lb) (g := w.heap.size + 4) (by omega) (relC .i64 noR))
  clear k0 k1 k2 kb l3 l4 lb hz
  go_enter Tryz.func47, Tryz.ntmps47
  go_wp2_with (first
    | (refine wpList_boxTo rfl 38 _ rfl (some 3) rfl w.heap.size rfl (allC T L K) (by rfl) ?_)
    | (refine wpList_boxTo rfl 38 _ rfl (some 4) rfl (w.heap.size + 1) (by simp) (allC T' L' K') (by rfl) ?_)
    | (refine wpList_boxTo rfl 52 _ rfl (some 5) rfl (w.heap.size + 2) (by simp) (relC .i64 A) (by rfl) ?_)
    | (refine m_alloc rfl rfl (some 6) rfl (w.heap.size + 3) HZ.out ?_)
    | (refine m_alloc rfl rfl (some 7) rfl (w.heap.size + 4) HZ2.out ?_)
    | (refine wpList_buildTo rfl 52 _ rfl _ rfl (relC .i64 noR) (by kernel_rfl) ?_)
    | (refine wpList_store_row rfl 52 _ _ rfl (w.heap.size + 4) (relC .i64 noR) (by rfl) (by rfl) 52 (relC .i64 noR) L4.out (infoM _) (by first | rw [relC_size, relC_size] | rw [relC_size]) (relC_one _ _) ?_))
  clear L4 HZ HZ2
  generalize World.setRow _ (w.heap.size + 4) (relC .i64 noR) = w0 at *
  go_loopw [8, 9, 10, 11] (fun i _ _ _ wr => ∃ k : Nat, k ≤ 27 ∧ i = .int .i64 k ∧ Hid (C5 wr T L K T' L' K' A (lowR (frS T T' A) k 0) w.heap.size) ∧ Hid (Below w.heap.size w wr)) (fun i _ _ _ _ => 27 - (intOf i).toNat)
  case atStart => exact ⟨0, by omega, rfl, K5, KB⟩
  case round =>
    clear K5 KB
    obtain ⟨k, hk, rfl, R5, RB⟩ := hrel
    by_cases hlt : k < 27
    · go_wp2_with fail
      simp only [show decide ((k : Int) < 27) = true from decide_eq_true (by omega)]
      obtain ⟨wo, rfl⟩ : ∃ wo : World, wo = wr := ⟨_, rfl⟩
      go_loopw [9, 10] (fun o c wr => ∃ m : Nat, m ≤ 27 ∧ c = .int .i64 m ∧ o = .int .i64 (nb 27 (inP (T k) A m)) ∧ Hid (C5 wr T L K T' L' K' A (lowR (frS T T' A) k 0) w.heap.size) ∧ Hid (Below w.heap.size w wr)) (fun _ c _ => 27 - (intOf c).toNat)
      case atStart => exact ⟨0, by omega, rfl, by rw [inP_zero]; rfl, R5, RB⟩
      case round =>
        clear R5 RB
        obtain ⟨m, hm, rfl, rfl, R5, RB⟩ := hrel
        by_cases hlm : m < 27
        · as_aux_lemma =>
          have C := fun w => Lib.hid (specInS (T k) m hlm w)
          have a0 := (R5.out.1.cell k).trans (allC_get _ _ _ hlt)
          cases hF : T k m <;> rw [hF] at C
          · have HI := Lib.hid (inP_no (A := A) hF)
            clear hF
            go_wp2_with fail
            refine (C _).out.mono ?_
            rintro e w2 ⟨rfl, rfl⟩
            go_wp2_with fail
            exact ⟨⟨m + 1, by omega, by go_num, by rw [HI.out], R5, RB⟩, by simp [intOf]; omega⟩
          · have a1 := mrel_cell R5.out.2.2.1 hlm
            have HI := Lib.hid (inP_yes (A := A) hF)
            have HA := Lib.hid (s_and (inP (T k) A m) (A m))
            clear hF
            go_wp2_with fail
            refine (C _).out.mono ?_
            rintro e w2 ⟨rfl, rfl⟩
            go_wp2_with fail
            exact ⟨⟨m + 1, by omega, by go_num, by rw [HA.out, HI.out], R5, RB⟩, by simp [intOf]; omega⟩
        · have hm2 : m = 27 := by omega
          have hml : ¬ ((m : Int) < 27) := by omega
          have hin : inP (T k) A m = inP (T k) A 27 := by rw [hm2]
          rw [hin]
          clear hin hm2 hlm hm
          go_wp2_with fail
          generalize hIN : inP (T k) A 27 = IN at *
          replace hIN := Lib.hid hIN
          obtain ⟨wo, rfl⟩ : ∃ wo : World, wo = wr := ⟨_, rfl⟩
          go_loopw [11] (fun c wr => ∃ j : Nat, j ≤ 27 ∧ c = .int .i64 j ∧ Hid (C5 wr T L K T' L' K' A (lowR (frS T T' A) k j) w.heap.size) ∧ Hid (Below w.heap.size w wr)) (fun c _ => 27 - (intOf c).toNat)
          case atStart => exact ⟨0, by omega, rfl, R5, RB⟩
          case round =>
            clear R5 RB
            obtain ⟨j, hj, rfl, R5, RB⟩ := hrel
            by_cases hlj : j < 27
            · as_aux_lemma =>
              have a0 := (R5.out.1.cell k).trans (allC_get _ _ _ hlt)
              have a1 := (R5.out.2.1.cell j).trans (allC_get _ _ _ hlj)
              have HAN := s_andNot (T' j) IN
              have hb1 : (((nb 27 (fun c => T' j c && !IN c) : Nat) : Int) == 0) = b1F T T' A k j := by unfold b1F; rw [hIN.out]
              have hb2 : (((nb 27 (T k) : Nat) : Int) == 0) = b2F T k := rfl
              have HFR : Hid (frS T T' A k j = (b1F T T' A k j || b2F T k)) := rfl
              generalize b1F T T' A k j = b1 at *
              generalize b2F T k = b2 at *
              have c0 := (R5.out.2.2.2.2.cell k).trans (lowR_at hlt)
              have c1 := R5.out.2.2.2.2.free k
              have HO := Lib.hid (s_bit hlj (lowR (frS T T' A) k j k))
              have RS := R5.out.2.2.2.2.set k (.int .i64 (nb 27 (fun c => lowR (frS T T' A) k j k c || c == j)))
              rw [relC_set hlt] at RS
              replace RS := Lib.hid RS
              have NO : Hid (∀ v : Value, C5 (wr.setCell ⟨w.heap.size + 4, k, none⟩ v) T L K T' L' K' A (lowR (frS T T' A) k (j + 1)) w.heap.size ↔ Blk (wr.setCell ⟨w.heap.size + 4, k, none⟩ v) (w.heap.size + 4) (relC .i64 (lowR (frS T T' A) k (j + 1))) 52) := fun v =>
                ⟨fun h => h.2.2.2.2, fun h => ⟨R5.out.1.setOther (by show w.heap.size ≠ w.heap.size + 4; omega) _, R5.out.2.1.setOther (by show w.heap.size + 1 ≠ w.heap.size + 4; omega) _, R5.out.2.2.1.setOther (by show w.heap.size + 2 ≠ w.heap.size + 4; omega) _, R5.out.2.2.2.1.setOther (by show w.heap.size + 3 ≠ w.heap.size + 4; omega) _, h⟩⟩
              cases b1 with
              | false =>
                cases b2 with
                | false =>
                  have HL := Lib.hid (lowR_no (T := frS T T' A) (k := k) (m := j) HFR.out)
                  have N5 : Hid (C5 wr T L K T' L' K' A (lowR (frS T T' A) k (j + 1)) w.heap.size) := ⟨R5.out.1, R5.out.2.1, R5.out.2.2.1, R5.out.2.2.2.1, by rw [← HL.out]; exact R5.out.2.2.2.2⟩
                  clear HFR RS NO R5
                  go_wp2_with fail
                  exact ⟨⟨j + 1, by omega, by go_num, N5, RB⟩, by simp [intOf]; omega⟩
                | true =>
                  have HL := lowR_yes (T := frS T T' A) (k := k) (m := j) HFR.out
                  rw [HL] at RS
                  have N5 := Lib.hid ((NO.out _).2 RS.out)
                  clear HFR RS NO R5 HL
                  go_wp2_with fail
                  rw [HO.out]
                  exact ⟨⟨j + 1, by omega, by go_num, N5, Lib.hid (RB.out.setCell (p := ⟨w.heap.size + 4, k, none⟩) (by show w.heap.size ≤ w.heap.size + 4; omega) _)⟩, by simp [intOf]; omega⟩
              | true =>
                have HL := lowR_yes (T := frS T T' A) (k := k) (m := j) (by rw [HFR.out]; rfl)
                rw [HL] at RS
                have N5 := Lib.hid ((NO.out _).2 RS.out)
                clear HFR RS NO R5 HL
                go_wp2_with fail
                rw [HO.out]
                exact ⟨⟨j + 1, by omega, by go_num, N5, Lib.hid (RB.out.setCell (p := ⟨w.heap.size + 4, k, none⟩) (by show w.heap.size ≤ w.heap.size + 4; omega) _)⟩, by simp [intOf]; omega⟩
            · have hj2 : j = 27 := by omega
              have N5 : Hid (C5 wr T L K T' L' K' A (lowR (frS T T' A) (k + 1) 0) w.heap.size) := ⟨R5.out.1, R5.out.2.1, R5.out.2.2.1, R5.out.2.2.2.1, by rw [← lowR_row, ← hj2]; exact R5.out.2.2.2.2⟩
              have hjl : ¬ ((j : Int) < 27) := by omega
              clear R5 hj2
              go_wp2_with fail
              exact ⟨⟨k + 1, by omega, by go_num, N5, RB⟩, by simp [intOf]; omega⟩
    · have hk2 : k = 27 := by omega
      have RP := R5.out.2.2.2.2
      rw [hk2, lowR_all] at RP
      replace RP := Lib.hid RP
      have R3 := Lib.hid R5.out.2.2.2.1
      have hkl : ¬ ((k : Int) < 27) := by omega
      clear R5 hk2
      go_wp2_with (first
        | (refine wpList_load_row rfl 52 _ rfl (w.heap.size + 4) (by rfl) 52 (relC .i64 (frS T T' A)) (0, 0) _ RP.out undM rfl (infoM _) ?_)
        | (refine wpList_store_row rfl 52 _ _ rfl (w.heap.size + 3) (relC .i64 (frS T T' A)) (by rfl) (by rfl) 52 (relC .i64 noR) R3.out (infoM _) (by first | rw [relC_size, relC_size] | rw [relC_size]) (relC_one _ _) ?_))
      exact bodyPost_ret (v := .agg (relC .i64 (frS T T' A))) (results_cell_row rfl _ _ (w.heap.size + 3) 52 _ (0, 0) _ (by rfl) (R3.out.row _) undM rfl (infoM _)) rfl ⟨rfl, Below.setRow RB.out (by omega) _⟩
end Go.Proofs.YtinjmdjnkneidaaGreatDoor
