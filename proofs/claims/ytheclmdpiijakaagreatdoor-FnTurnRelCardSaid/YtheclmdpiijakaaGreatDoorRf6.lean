/-
  CloseRel of the program and of the model.
-/
import Derived.Test.YtheclmdpiijakaaGreatDoorRd3
namespace Go.Proofs.YtheclmdpiijakaaGreatDoor
open Go.RowKit Go.Great

set_option maxRecDepth 100000 in
set_option maxHeartbeats 4000000 in
theorem implCloseRel_yes (s : ByteArray) (hs : Rel729 s) (w : World) : Calls Tryz.prog 15 #[.string s] w (TextOk (relT (cloR (relS s.data.toList))) true w) := by
  have C1 := Lib.hid (readRel_yes s hs)
  clear hs
  go_enter Tryz.func15, Tryz.ntmps15
  go_wp2_with fail
  refine (C1.out _).mono ?_
  rintro e w1 ⟨rfl, hb⟩
  have KB := Lib.hid hb
  clear hb
  obtain ⟨p0, pb⟩ := push_blk w1 (relC .u32 noR) (relC .u32 (relS s.data.toList)) 56
  have P0 := Lib.hid p0
  replace KB := Lib.hid (bnext KB.out pb)
  have L0 := Lib.hid (one_blk w1 (relC .u32 noR) 56).1
  clear p0 pb
  go_wp2_with (first
    | (refine r_alloc rfl rfl (some 4) rfl w1.heap.size rfl ?_)
    | (refine wpList_store_row rfl 56 _ _ rfl w1.heap.size (relC .u32 (relS s.data.toList)) (by rfl) (by rfl) 56 (relC .u32 noR) L0.out (infoR _) (by first | rw [relC_size, relC_size] | rw [relC_size]) (relC_one _ _) ?_)
    | (refine wpList_load_row rfl 56 _ rfl w1.heap.size (by rfl) 56 (relC .u32 (relS s.data.toList)) (0, 0) _ P0.out undR rfl (infoR _) ?_))
  refine (closed_any (relS s.data.toList) _).mono ?_
  rintro e w2 ⟨rfl, hb⟩
  replace KB := Lib.hid (bnext KB.out hb)
  clear hb
  go_wp2_with fail
  refine (rel_text (cloR (relS s.data.toList)) _).mono ?_
  rintro e w2 ⟨rfl, hb⟩
  replace KB := Lib.hid (bnext KB.out hb)
  clear hb
  go_wp2_with fail
  go_ret2
  exact ⟨rfl, KB.out⟩
set_option maxRecDepth 100000 in
set_option maxHeartbeats 4000000 in
theorem implCloseRel_no (s : ByteArray) (hs : ¬ Rel729 s) (w : World) : Calls Tryz.prog 15 #[.string s] w (TextOk [] false w) := by
  have C1 := Lib.hid (readRel_no s hs)
  clear hs
  go_enter Tryz.func15, Tryz.ntmps15
  go_wp2_with fail
  refine (C1.out _).mono ?_
  rintro e w1 ⟨rfl, hb⟩
  have KB := Lib.hid hb
  clear hb
  obtain ⟨p0, pb⟩ := push_blk w1 (relC .u32 noR) (relC .u32 noR) 56
  have P0 := Lib.hid p0
  replace KB := Lib.hid (bnext KB.out pb)
  have L0 := Lib.hid (one_blk w1 (relC .u32 noR) 56).1
  clear p0 pb
  go_wp2_with (first
    | (refine r_alloc rfl rfl (some 4) rfl w1.heap.size rfl ?_)
    | (refine wpList_store_row rfl 56 _ _ rfl w1.heap.size (relC .u32 noR) (by rfl) (by rfl) 56 (relC .u32 noR) L0.out (infoR _) (by first | rw [relC_size, relC_size] | rw [relC_size]) (relC_one _ _) ?_)
    | (refine wpList_load_row rfl 56 _ rfl w1.heap.size (by rfl) 56 (relC .u32 noR) (0, 0) _ P0.out undR rfl (infoR _) ?_))
  go_ret2
  exact ⟨rfl, KB.out⟩
set_option maxRecDepth 100000 in
set_option maxHeartbeats 4000000 in
theorem specCloseRel_no (s : ByteArray) (h : ¬ Rel729 s) (hm : s.size ≤ maxLen) (w : World) : Calls Tryz.prog 16 #[.string s] w (TextOk [] false w) := by
  have C := fun w => Lib.hid (specRelV_no s h hm w)
  clear h
  go_enter Tryz.func16, Tryz.ntmps16
  go_wp2_with fail
  refine ((C _).out).mono ?_
  rintro e w' ⟨rfl, rfl⟩
  go_wp2_with fail
  go_ret2
  exact ⟨rfl, Below.refl _ _⟩

theorem or_row (T : Nat → Nat → Bool) (k : Nat) : nb 27 (fun j => T k j || j == k) = nb 27 (orR T idR k) := nb_congr fun j _ => by
  unfold orR idR
  congr 1
  rw [Bool.eq_iff_iff, beq_iff_eq, beq_iff_eq]
  exact eq_comm
def boxOf : Value → Nat
  | .pointer (some a) => a.block
  | _ => 0
/-- One if the rows of two boxes differ. -/
noncomputable def neW (w : World) (v : Value) (g : Nat) : Nat := @ite _ (∀ k, k < 27 → w.cell? ⟨boxOf v, k, none⟩ = w.cell? ⟨g, k, none⟩) (Classical.propDecidable _) 0 1
theorem neW_le (w : World) (v : Value) (g : Nat) : neW w v g ≤ 1 := by
  unfold neW
  by_cases h : ∀ k, k < 27 → w.cell? ⟨boxOf v, k, none⟩ = w.cell? ⟨g, k, none⟩
  · rw [if_pos h]; omega
  · rw [if_neg h]; exact Nat.le_refl _
theorem sumM_rel {w : World} {g : Nat} {C : Nat → Nat → Bool} (h : Blk w g (relC .i64 C) 63) : ∀ k, k ≤ 27 → sumW w g k = sumR C k := by
  intro k
  induction k with
  | zero => intro _; rfl
  | succ k ih =>
    intro hk
    unfold sumW sumR
    rw [ih (by omega), mrel_cell h (by omega)]
    simp
theorem neW_same {w : World} {b g : Nat} {B C : Nat → Nat → Bool} (hB : Blk w b (relC .i64 B) 63) (hC : Blk w g (relC .i64 C) 63) (h : relEq B C = true) : neW w (.pointer (some ⟨b, 0, none⟩)) g = 0 := by
  unfold neW
  rw [if_pos]
  intro k hk
  rw [show boxOf (.pointer (some ⟨b, 0, none⟩)) = b from rfl, mrel_cell hB hk, mrel_cell hC hk, nb_congr fun j hj => relEq_iff.1 h k hk j hj]
theorem neW_diff {w : World} {b g : Nat} {B C : Nat → Nat → Bool} (hB : Blk w b (relC .i64 B) 63) (hC : Blk w g (relC .i64 C) 63) (h : relEq B C = false) : neW w (.pointer (some ⟨b, 0, none⟩)) g = 1 := by
  unfold neW
  rw [if_neg]
  intro hn
  have : relEq B C = true := relEq_iff.2 fun i hi j hj => by
    have e := hn i hi
    rw [show boxOf (.pointer (some ⟨b, 0, none⟩)) = b from rfl, mrel_cell hB hi, mrel_cell hC hi] at e
    have e2 : nb 27 (B i) = nb 27 (C i) := by simp at e; exact Int.ofNat_inj.1 e
    exact nb_inj e2 j hj
  rw [h] at this; cases this
theorem sumR_congr {A B : Nat → Nat → Bool} (h : relEq A B = true) : ∀ k, k ≤ 27 → sumR A k = sumR B k := by
  intro k
  induction k with
  | zero => intro _; rfl
  | succ k ih =>
    intro hk
    unfold sumR
    rw [ih (by omega), nb_congr fun j hj => relEq_iff.1 h k (by omega) j hj]
theorem relEq_self (A : Nat → Nat → Bool) : relEq A A = true := relEq_iff.2 fun _ _ _ _ => rfl
/-- What is known of the two relations between two rounds. -/
structure ClTwo (T B C : Nat → Nat → Bool) : Prop where
  inv : ClInv T C
  last : relEq B C = true → relEq (compR C C) C = true
theorem ClTwo.start (T : Nat → Nat → Bool) : ClTwo T noR (orR T idR) := ⟨ClInv.start T, fun h => by
  have := relEq_iff.1 h 0 (by omega) 0 (by omega)
  simp [noR, orR, idR] at this⟩
theorem ClTwo.step {T B C : Nat → Nat → Bool} (h : ClTwo T B C) : ClTwo T C (compR C C) := ⟨h.inv.step, fun e => relEq_iff.2 fun i hi j hj => by
  have e' := relEq_iff.1 e
  rw [Bool.eq_iff_iff, compR_iff, compR_iff]
  exact ⟨fun ⟨q, hq, h1, h2⟩ => ⟨q, hq, by rw [e' i hi q hq]; exact h1, by rw [e' q hq j hj]; exact h2⟩, fun ⟨q, hq, h1, h2⟩ => ⟨q, hq, by rw [← e' i hi q hq]; exact h1, by rw [← e' q hq j hj]; exact h2⟩⟩⟩

set_option maxRecDepth 100000 in
set_option maxHeartbeats 8000000 in
theorem specCloseRel_yes (s : ByteArray) (h : Rel729 s) (w : World) : Calls Tryz.prog 16 #[.string s] w (TextOk (relT (cloR (relS s.data.toList))) true w) := by
  have Hs := Lib.hid h
  clear h
  have KB := Lib.hid (Below.refl w.heap.size w)
  have CR := fun w => Lib.hid (specRead s Hs.out w)
  generalize relS s.data.toList = T at *
  go_enter Tryz.func16, Tryz.ntmps16
  go_wp2_with fail
  refine (specRelV_yes s Hs.out _).mono ?_
  rintro e w' ⟨rfl, rfl⟩
  go_wp2_with fail
  refine (CR _).out.mono ?_
  rintro e w2 ⟨rfl, hb⟩
  replace KB := Lib.hid (bnext KB.out hb)
  have HGL := Lib.hid KB.out.size
  clear hb CR
  obtain ⟨p0, pb⟩ := push_blk w2 (relC .i64 noR) (relC .i64 T) 63
  have P0 := Lib.hid p0
  replace KB := Lib.hid (bnext KB.out pb)
  have L0 := Lib.hid (one_blk w2 (relC .i64 noR) 63).1
  clear p0 pb
  go_wp2_with (first
    | (refine m_alloc rfl rfl (some 4) rfl w2.heap.size rfl ?_)
    | (refine wpList_store_row rfl 63 _ _ rfl w2.heap.size (relC .i64 T) (by rfl) (by rfl) 63 (relC .i64 noR) L0.out (infoM _) (by rw [relC_size, relC_size]) (relC_one _ _) ?_))
  clear L0
  generalize hwx : (w2.alloc (.cells (relC .i64 noR) 63)).setRow w2.heap.size (relC .i64 T) = wx at *
  clear hwx
  obtain ⟨g, hg⟩ : ∃ g, w2.heap.size = g := ⟨_, rfl⟩
  rw [hg] at P0 HGL ⊢
  clear hg
  go_loopw [5] (fun i wr => ∃ k : Nat, k ≤ 27 ∧ i = .int .i64 k ∧ Hid (Blk wr g (relC .i64 (mixR k (orR T idR) T)) 63) ∧ Hid (Below w.heap.size w wr)) (fun i _ => 27 - (intOf i).toNat)
  case atStart => exact ⟨0, by omega, rfl, by rw [mixR_zero]; exact P0, KB⟩
  case round =>
    clear P0 KB
    obtain ⟨k, hk, rfl, R0, RB⟩ := hrel
    by_cases hlt : k < 27
    · have c0 : wr.cell? ⟨g, k, none⟩ = some (.int .i64 (nb 27 (T k))) := mixM_cell R0.out hlt
      have c1 := R0.out.free k
      have HO := Lib.hid ((s_bit hlt (T k)).trans (congrArg (fun n : Nat => (n : Int)) (or_row T k)))
      have RP := Lib.hid (mixM_put R0.out hlt)
      have SB := Lib.hid (RB.out.setCell (p := ⟨g, k, none⟩) HGL.out (.int .i64 (nb 27 (orR T idR k))))
      go_wp2_with fail
      rw [HO.out]
      exact ⟨⟨k + 1, by omega, by go_num, RP, SB⟩, by simp [intOf]; omega⟩
    · have hk2 : k = 27 := by omega
      subst hk2
      have R := R0.out
      rw [mixR_all] at R
      replace R0 := Lib.hid R
      clear R
      obtain ⟨p0, pb⟩ := push_blk wr (relC .i64 noR) (relC .i64 noR) 63
      have P0 := Lib.hid p0
      have HLT := Lib.hid R0.out.lt
      replace R0 := Lib.hid (R0.out.kept pb)
      replace RB := Lib.hid (bnext RB.out pb)
      have L0 := Lib.hid (one_blk wr (relC .i64 noR) 63).1
      clear p0 pb
      go_wp2_with (first
        | (refine wpList_buildTo rfl 63 _ rfl _ rfl (relC .i64 noR) (by kernel_rfl) ?_)
        | (refine m_alloc rfl rfl (some 6) rfl wr.heap.size rfl ?_)
        | (refine wpList_store_row rfl 63 _ _ rfl wr.heap.size (relC .i64 noR) (by rfl) (by rfl) 63 (relC .i64 noR) L0.out (infoM _) (by first | rw [relC_size, relC_size] | rw [relC_size]) (relC_one _ _) ?_))
      clear L0
      generalize hwx : (wr.alloc (.cells (relC .i64 noR) 63)).setRow wr.heap.size (relC .i64 noR) = wy at *
      clear hwx
      obtain ⟨gb, hgb⟩ : ∃ gb, wr.heap.size = gb := ⟨_, rfl⟩
      rw [hgb] at P0 HLT ⊢
      clear hgb
      go_simp
      go_loopw [6] (fun v ws => ∃ (b : Nat) (B C : Nat → Nat → Bool), v = .pointer (some ⟨b, 0, none⟩) ∧ g < b ∧ ClTwo T B C ∧ Hid (Blk ws b (relC .i64 B) 63) ∧ Hid (Blk ws g (relC .i64 C) 63) ∧ Hid (Below w.heap.size w ws)) (fun v ws => 2 * (3623878656 - sumW ws g 27) + neW ws v g)
      case atStart => exact ⟨gb, _, _, rfl, HLT.out, ClTwo.start T, P0, R0, RB⟩
      case round =>
        clear P0 R0 RB
        obtain ⟨b, B, C, rfl, hgt, RI, R1, R0, RB⟩ := hrel
        have HEq := fun w => m_eq B C w
        have HGd := m_guard
        have HS := Lib.hid (sumM_rel R0.out 27 (Nat.le_refl _))
        cases hE : relEq B C
        · have HN := Lib.hid (neW_diff R1.out R0.out hE)
          rw [hE] at HEq
          clear hE
          have CT := fun w => Lib.hid (specComp C C w)
          have Q1 := Lib.hid (R1.out.row (relC .i64 C))
          have Q0 := Lib.hid (R0.out.rowOther (g := b) (by omega) (relC .i64 C))
          have QB := Lib.hid (Below.setRow RB.out (g := b) (by have := HGL.out; omega) (relC .i64 C))
          go_wp2_with (first
            | (refine wpList_load_row rfl 63 _ rfl b (by rfl) 63 (relC .i64 B) (0, 0) _ R1.out undM rfl (infoM _) ?_)
            | (refine wpList_load_row rfl 63 _ rfl g (by rfl) 63 (relC .i64 C) (0, 0) _ R0.out undM rfl (infoM _) ?_)
            | (refine wpList_store_row rfl 63 _ _ rfl b (relC .i64 C) (by rfl) (by rfl) 63 (relC .i64 B) R1.out (infoM _) (by first | rw [relC_size, relC_size] | rw [relC_size]) (relC_one _ _) ?_)
            | (refine wpList_load_row rfl 63 _ rfl g (by rfl) 63 (relC .i64 C) (0, 0) _ Q0.out undM rfl (infoM _) ?_))
          refine (CT _).out.mono ?_
          rintro e w5 ⟨rfl, hb⟩
          replace Q1 := Lib.hid (Q1.out.kept hb)
          replace Q0 := Lib.hid (Q0.out.kept hb)
          replace QB := Lib.hid (bnext QB.out hb)
          clear hb CT
          have V0 := Lib.hid (Q0.out.row (relC .i64 (compR C C)))
          have V1 := Lib.hid (Q1.out.rowOther (g := g) (by omega) (relC .i64 (compR C C)))
          have VB := Lib.hid (Below.setRow QB.out (g := g) HGL.out (relC .i64 (compR C C)))
          have hz : (w5.setRow g (relC .i64 (compR C C))).heap.size = w5.heap.size := by simp
          have vl := V0.out.lt
          rw [hz] at vl
          have VL := Lib.hid vl
          obtain ⟨p0, pb⟩ := push_blk (w5.setRow g (relC .i64 (compR C C))) (relC .i64 noR) (relC .i64 C) 63
          have l0 := (one_blk (w5.setRow g (relC .i64 (compR C C))) (relC .i64 noR) 63).1
          rw [hz] at p0 pb l0
          have P0 := Lib.hid p0
          have L0 := Lib.hid l0
          have F0 := Lib.hid (V0.out.kept (by rw [hz]; exact pb))
          have FB := Lib.hid (bnext VB.out (by rw [hz]; exact pb))
          clear p0 pb l0 vl hz
          go_wp2_with (first
            | (refine wpList_store_row rfl 63 _ _ rfl g (relC .i64 (compR C C)) (by rfl) (by rfl) 63 (relC .i64 C) Q0.out (infoM _) (by first | rw [relC_size, relC_size] | rw [relC_size]) (relC_one _ _) ?_)
            | (refine wpList_load_row rfl 63 _ rfl b (by rfl) 63 (relC .i64 C) (0, 0) _ V1.out undM rfl (infoM _) ?_)
            | (refine m_alloc rfl rfl (some 6) rfl w5.heap.size (by simp) ?_)
            | (refine wpList_store_row rfl 63 _ _ rfl w5.heap.size (relC .i64 C) (by rfl) (by rfl) 63 (relC .i64 noR) L0.out (infoM _) (by first | rw [relC_size, relC_size] | rw [relC_size]) (relC_one _ _) ?_))
          have hs := sumM_rel F0.out 27 (Nat.le_refl _)
          have hl := sumR_lt (compR C C) 27
          have hm : 2 * (3623878656 - sumR (compR C C) 27) + neW (((w5.setRow g (relC .i64 (compR C C))).alloc (.cells (relC .i64 noR) 63)).setRow w5.heap.size (relC .i64 C)) (.pointer (some ⟨w5.heap.size, 0, none⟩)) g < 2 * (3623878656 - sumR C 27) + 1 := by
            cases hF : relEq (compR C C) C
            · have h1 := RI.inv.grows hF
              have h2 := neW_le (((w5.setRow g (relC .i64 (compR C C))).alloc (.cells (relC .i64 noR) 63)).setRow w5.heap.size (relC .i64 C)) (.pointer (some ⟨w5.heap.size, 0, none⟩)) g
              omega
            · rw [neW_same P0.out F0.out (relEq_iff.2 fun i hi j hj => (relEq_iff.1 hF i hi j hj).symm), sumR_congr hF 27 (Nat.le_refl _)]
              omega
          go_simp
          go_round
          case rel => exact ⟨VL.out, C, compR C C, RI.step, P0, F0⟩
          case measure =>
            rw [HS.out, HN.out]
            exact hm
        · have HD := Lib.hid (RI.inv.done (RI.last hE))
          rw [hE] at HEq
          clear hE RI
          go_wp2_with (first
            | (refine wpList_load_row rfl 63 _ rfl b (by rfl) 63 (relC .i64 B) (0, 0) _ R1.out undM rfl (infoM _) ?_)
            | (refine wpList_load_row rfl 63 _ rfl g (by rfl) 63 (relC .i64 C) (0, 0) _ R0.out undM rfl (infoM _) ?_))
          refine (specRText C _).mono ?_
          rintro e w5 ⟨rfl, hb⟩
          replace RB := Lib.hid (bnext RB.out hb)
          clear hb
          go_wp2_with fail
          go_ret2
          exact ⟨by rw [relT_congr HD.out]; rfl, RB.out⟩
end Go.Proofs.YtheclmdpiijakaaGreatDoor
