/-
  SwapProgram: the letters of two variables are exchanged in the bytes of the text.
-/
import Derived.Test.YtopbkkmplgllkaaGreatDoorTopP
import Derived.Test.YtopbkkmplgllkaaGreatDoorEnd
import Derived.Test.YtopbkkmplgllkaaGreatDoorIv
import Derived.Test.YtopbkkmplgllkaaGreatDoorMBl
namespace Go.Proofs.YtopbkkmplgllkaaGreatDoor
open Go.RowKit Tm

def exch (v w c : UInt8) : UInt8 := if c = v then w else if c = w then v else c
theorem exch_t {v w c : UInt8} (h : c = v) : exch v w c = w := by simp [exch, h]
theorem exch_u {v w c : UInt8} (h : c = w) : exch v w c = v := by
  unfold exch
  by_cases h2 : c = v
  · rw [if_pos h2, ← h, h2]
  · rw [if_neg h2, if_pos h]
theorem exch_n {v w c : UInt8} (h : ¬ c = v) (h2 : ¬ c = w) : exch v w c = c := by simp [exch, h, h2]
/-- The text while it is exchanged, byte by byte. -/
def exL (v w : UInt8) (l : List UInt8) (m : Nat) : List UInt8 := (l.take m).map (exch v w) ++ l.drop m
theorem exL_len (v w : UInt8) (l : List UInt8) (m : Nat) : (exL v w l m).length = l.length := by simp [exL]; omega
theorem exL_at {v w : UInt8} {l : List UInt8} {m : Nat} (h : m < l.length) : (exL v w l m)[m]'(by rw [exL_len]; exact h) = l[m] := by
  unfold exL
  rw [List.getElem_append_right (by simp; omega)]
  simp [Nat.min_eq_left (Nat.le_of_lt h)]
theorem exL_step {v w : UInt8} {l : List UInt8} {m : Nat} (h : m < l.length) : (exL v w l m).set m (exch v w l[m]) = exL v w l (m + 1) := by
  unfold exL
  have hl : ((l.take m).map (exch v w)).length = m := by simp; omega
  rw [List.set_append_right _ _ (by omega), hl, Nat.sub_self, List.drop_eq_getElem_cons h, List.set_cons_zero, List.take_succ_eq_append_getElem h]
  simp only [List.map_append, List.map_cons, List.map_nil, List.append_assoc, List.cons_append, List.nil_append]
theorem exL_same {v w : UInt8} {l : List UInt8} {m : Nat} (h : m < l.length) (he : exch v w l[m] = l[m]) : exL v w l m = exL v w l (m + 1) := by
  rw [← exL_step h, he, ← exL_at (v := v) (w := w) h, List.set_getElem_self]
theorem exL_full (v w : UInt8) (l : List UInt8) : exL v w l l.length = l.map (exch v w) := by simp [exL]
theorem exL_zero (v w : UInt8) (l : List UInt8) : exL v w l 0 = l := by simp [exL]
theorem u8_eq {c d : UInt8} (h : c = d) : ((c.toNat : Int) == (d.toNat : Int)) = true := by rw [h]; simp
theorem u8_ne {c d : UInt8} (h : ¬ c = d) : ((c.toNat : Int) == (d.toNat : Int)) = false := by
  rw [beq_eq_false_iff_ne]; intro e; exact h (UInt8.toNat_inj.1 (by omega))

set_option maxRecDepth 100000 in
set_option maxHeartbeats 4000000 in
theorem exchange_any (l : List UInt8) (v u : UInt8) (w : World) (hn : l.length ≤ 1000) :
    Calls Tryz.prog 65 #[.string (bs l), .int .u8 v.toNat, .int .u8 u.toNat] w fun e w' => e = .returned (.string (bs (l.map (exch v u)))) ∧ Below w.heap.size w w' := by
  obtain ⟨cap, W0, hcv, hmb, hb⟩ := bytesOf w l
  have HB := Lib.hid hb
  have HM := Lib.hid hmb
  clear hb hmb
  generalize bs l = S at *
  go_enter Tryz.func65, Tryz.ntmps65
  go_wp2_with fail
  clear hcv
  go_loopw [14] (fun v14 wr => ∃ m : Nat, m ≤ l.length ∧ v14 = .int .i64 m ∧ Hid (MBlk wr w.heap.size (exL v u l m)) ∧ Hid (Below w.heap.size w wr)) (fun v14 _ => l.length - (intOf v14).toNat)
  case atStart => exact ⟨0, Nat.zero_le _, rfl, by rw [exL_zero]; exact HM, HB⟩
  case round =>
    obtain ⟨m, hm, rfl, HM1, HB1⟩ := hrel
    by_cases hlt : m < l.length
    · have hlen := exL_len v u l m
      have hc := HM1.out.get m (by rw [hlen]; exact hlt)
      rw [exL_at hlt] at hc
      have hf := HM1.out.free m (by rw [hlen]; exact hlt)
      have hst := fun c => HM1.out.set m (by rw [hlen]; exact hlt) c
      have h0 : (0 : Int) ≤ (m : Int) := by omega
      have h1 : (m : Int) < (l.length : Int) := by omega
      have hstep := exL_step (v := v) (w := u) hlt
      have hsame := fun h => exL_same (v := v) (w := u) hlt h
      have HST := Lib.hid hst
      have HSP := Lib.hid hstep
      have HSA := Lib.hid hsame
      clear hst hstep hsame hlen
      generalize l[m] = c at *
      by_cases e1 : c = v
      · have ht := u8_eq e1
        have HX := Lib.hid (exch_t (w := u) e1)
        clear e1
        go_wp2_with fail
        go_roundw
        case rel => exact ⟨m + 1, by omega, by go_num, by show MBlk _ _ _; rw [← HSP.out, HX.out]; exact HST.out u, HB1.out.setCell (Nat.le_refl _) _⟩
        case measure => simp [intOf]; omega
      · by_cases e2 : c = u
        · have ht := u8_ne e1
          have ht2 := u8_eq e2
          have HX := Lib.hid (exch_u (v := v) e2)
          clear e1 e2
          go_wp2_with fail
          go_roundw
          case rel => exact ⟨m + 1, by omega, by go_num, by show MBlk _ _ _; rw [← HSP.out, HX.out]; exact HST.out v, HB1.out.setCell (Nat.le_refl _) _⟩
          case measure => simp [intOf]; omega
        · have ht := u8_ne e1
          have ht2 := u8_ne e2
          have HX := Lib.hid (exch_n e1 e2)
          clear e1 e2
          go_wp2_with fail
          go_roundw
          case rel => exact ⟨m + 1, by omega, by go_num, by show MBlk _ _ _; rw [← HSA.out HX.out]; exact HM1.out, HB1⟩
          case measure => simp [intOf]; omega
    · have hme : m = l.length := by omega
      have hcs := toStrM HM1.out l.length cap (exL_len v u l m).symm
      rw [hme, exL_full] at hcs
      have h1 : ¬ (m : Int) < (l.length : Int) := by omega
      clear hme
      go_wp2_with fail
      go_ret
      exact ⟨rfl, HB1.out⟩
/-! ### The face -/
theorem implPV_t (s : ByteArray) (w : World) (h : IsP s) : Calls Tryz.prog 11 #[.string s] w fun e w' => e = .returned (.bool true) ∧ Below w.heap.size w w' := by
  obtain ⟨⟨p, hp, he⟩, hl⟩ := h
  exact implPV_yes s w hp he hl
theorem bs_self (S : ByteArray) : bs S.data.toList = S := by cases S; simp [bs]
theorem isvar_byte {v : ByteArray} (h : IsVar v) : ∃ c, v = ⟨#[c]⟩ := by
  rcases h with rfl | rfl | rfl <;> exact ⟨_, rfl⟩
theorem spVar_yes (v : ByteArray) (w : World) (h : IsVar v) : Calls Tryz.prog 50 #[.string v] w fun e w' => ∃ i : Nat, i ≤ 2 ∧ e = .returned (.int .i64 i) ∧ w = w' := by
  rcases h with rfl | rfl | rfl
  · exact (specVar_yes 120 0 w (by simp)).mono fun e w' h => ⟨0, by omega, h.1, h.2⟩
  · exact (specVar_yes 121 1 w (by simp)).mono fun e w' h => ⟨1, by omega, h.1, h.2⟩
  · exact (specVar_yes 122 2 w (by simp)).mono fun e w' h => ⟨2, by omega, h.1, h.2⟩

set_option maxRecDepth 100000 in
set_option maxHeartbeats 2000000 in
theorem implSwap_no (p v u : ByteArray) (w : World) (hm : v.size ≤ maxLen) (hm2 : u.size ≤ maxLen) (h : ¬ (IsP p ∧ IsVar v ∧ IsVar u)) :
    Calls Tryz.prog 37 #[.string p, .string v, .string u] w fun e w' => e = .returned (.tuple #[.string ⟨#[]⟩, .bool false]) ∧ Below w.heap.size w w' := by
  by_cases h1 : IsP p
  · by_cases h2 : IsVar v
    · have h3 : ¬ IsVar u := fun h3 => h ⟨h1, h2, h3⟩
      have HP := fun w => Lib.hid (implPV_t p w h1)
      have Hv := fun w => Lib.hid (implVar_yes v w h2)
      have Hu := fun w => Lib.hid (implVar_no u w hm2 h3)
      clear h h1 h2 h3
      go_enter Tryz.func37, Tryz.ntmps37
      go_wp2_with fail
      refine ((HP _).out).mono ?_
      rintro e w' ⟨rfl, hb⟩
      have HB := Lib.hid hb
      clear hb
      go_wp2_with fail
      refine ((Hv _).out).mono ?_
      rintro e w' ⟨rfl, rfl⟩
      go_wp2_with fail
      refine ((Hu _).out).mono ?_
      rintro e w' ⟨rfl, rfl⟩
      go_wp2_with fail
      go_ret2
      exact ⟨rfl, HB.out⟩
    · have HP := fun w => Lib.hid (implPV_t p w h1)
      have Hv := fun w => Lib.hid (implVar_no v w hm h2)
      clear h h1 h2
      go_enter Tryz.func37, Tryz.ntmps37
      go_wp2_with fail
      refine ((HP _).out).mono ?_
      rintro e w' ⟨rfl, hb⟩
      have HB := Lib.hid hb
      clear hb
      go_wp2_with fail
      refine ((Hv _).out).mono ?_
      rintro e w' ⟨rfl, rfl⟩
      go_wp2_with fail
      go_ret2
      exact ⟨rfl, HB.out⟩
  · have HP := fun w => Lib.hid (implPV_no p w h1)
    clear h h1
    go_enter Tryz.func37, Tryz.ntmps37
    go_wp2_with fail
    refine ((HP _).out).mono ?_
    rintro e w' ⟨rfl, hb⟩
    have HB := Lib.hid hb
    clear hb
    go_wp2_with fail
    go_ret2
    exact ⟨rfl, HB.out⟩

set_option maxRecDepth 100000 in
set_option maxHeartbeats 2000000 in
theorem specSwap_no (p v u : ByteArray) (w : World) (hm : v.size ≤ maxLen) (hm2 : u.size ≤ maxLen) (h : ¬ (IsP p ∧ IsVar v ∧ IsVar u)) :
    Calls Tryz.prog 36 #[.string p, .string v, .string u] w fun e w' => e = .returned (.tuple #[.string ⟨#[]⟩, .bool false]) ∧ Below w.heap.size w w' := by
  by_cases h1 : IsP p
  · by_cases h2 : IsVar v
    · have h3 : ¬ IsVar u := fun h3 => h ⟨h1, h2, h3⟩
      have HP := fun w => Lib.hid (specPV_yes p w h1.1 h1.2)
      have Hv := fun w => Lib.hid (spVar_yes v w h2)
      have Hu := fun w => Lib.hid (specVar_no u w hm2 h3)
      clear h h1 h2 h3
      go_enter Tryz.func36, Tryz.ntmps36
      go_wp2_with fail
      refine ((HP _).out).mono ?_
      rintro e w' ⟨rfl, n, rfl⟩
      go_wp2_with fail
      refine ((Hv _).out).mono ?_
      rintro e w' ⟨i, hi, rfl, rfl⟩
      go_wp2_with fail
      refine ((Hu _).out).mono ?_
      rintro e w' ⟨rfl, rfl⟩
      go_wp2_with fail
      go_ret2
      exact ⟨rfl, bdrewN (Below.refl w.heap.size w) n⟩
    · have HP := fun w => Lib.hid (specPV_yes p w h1.1 h1.2)
      have Hv := fun w => Lib.hid (specVar_no v w hm h2)
      clear h h1 h2
      go_enter Tryz.func36, Tryz.ntmps36
      go_wp2_with fail
      refine ((HP _).out).mono ?_
      rintro e w' ⟨rfl, n, rfl⟩
      go_wp2_with fail
      refine ((Hv _).out).mono ?_
      rintro e w' ⟨rfl, rfl⟩
      go_wp2_with fail
      go_ret2
      exact ⟨rfl, bdrewN (Below.refl w.heap.size w) n⟩
  · have HP := fun w => Lib.hid (specPV_no p w h1)
    clear h h1
    go_enter Tryz.func36, Tryz.ntmps36
    go_wp2_with fail
    refine ((HP _).out).mono ?_
    rintro e w' ⟨rfl, n, rfl⟩
    go_wp2_with fail
    go_ret2
    exact ⟨rfl, bdrewN (Below.refl w.heap.size w) n⟩

set_option maxRecDepth 100000 in
set_option maxHeartbeats 2000000 in
theorem implSwap_yes (S V U : ByteArray) (hV : 0 < V.size) (hU : 0 < U.size) (w : World) (h1 : IsP S) (h2 : IsVar V) (h3 : IsVar U) :
    Calls Tryz.prog 37 #[.string S, .string V, .string U] w fun e w' => e = .returned (.tuple #[.string (bs (S.data.toList.map (exch V[0] U[0]))), .bool true]) ∧ Below w.heap.size w w' := by
  have HP := fun w => Lib.hid (implPV_t S w h1)
  have Hv := fun w => Lib.hid (implVar_yes V w h2)
  have Hu := fun w => Lib.hid (implVar_yes U w h3)
  have HE := fun w => exchange_any S.data.toList V[0] U[0] w (by have := h1.2; simp; omega)
  rw [bs_self] at HE
  have HE := Lib.hid HE
  clear h1 h2 h3
  generalize bs (S.data.toList.map (exch V[0] U[0])) = R at *
  go_enter Tryz.func37, Tryz.ntmps37
  go_wp2_with fail
  refine (HP _).out.mono ?_
  rintro e w' ⟨rfl, hb⟩
  have hb' := hb.drew
  go_wp2_with fail
  refine (Hv _).out.mono ?_
  rintro e w' ⟨rfl, rfl⟩
  go_wp2_with fail
  refine (Hu _).out.mono ?_
  rintro e w' ⟨rfl, rfl⟩
  go_wp2_with fail
  go_region_held3 (fun w' => Below w.heap.size w w')
    ((first | assumption | exact Below.trans (by assumption) (hq.mono (by have := Below.size (by assumption : Below w.heap.size w _); omega))))
    (first | (go_at_call 65; (with_reducible refine (HE.out _).mono ?_); rintro e w2 ⟨rfl, hq⟩))
  all_goals
    go_wp2_with fail
    go_ret2
    exact ⟨rfl, by assumption⟩

set_option maxRecDepth 100000 in
set_option maxHeartbeats 4000000 in
theorem specSwap_yes (S V U : ByteArray) (hV : 0 < V.size) (hU : 0 < U.size) (w : World) (h1 : IsP S) (h2 : IsVar V) (h3 : IsVar U) :
    Calls Tryz.prog 36 #[.string S, .string V, .string U] w fun e w' => e = .returned (.tuple #[.string (bs (S.data.toList.map (exch V[0] U[0]))), .bool true]) ∧ Below w.heap.size w w' := by
  have HP := fun w => Lib.hid (specPV_yes S w h1.1 h1.2)
  have Hv := fun w => Lib.hid (spVar_yes V w h2)
  have Hu := fun w => Lib.hid (spVar_yes U w h3)
  have HCV := fun w => bytesOf w S.data.toList
  rw [bs_self] at HCV
  have hn : S.size ≤ 200 := h1.2
  have hll : S.data.toList.length = S.size := by simp
  have HLL := Lib.hid hll
  clear h1 h2 h3
  rw [hll] at HCV
  clear hll
  go_enter Tryz.func36, Tryz.ntmps36
  go_wp2_with fail
  refine (HP _).out.mono ?_
  rintro e w' ⟨rfl, n, rfl⟩
  go_wp2_with fail
  refine (Hv _).out.mono ?_
  rintro e w' ⟨i, hi, rfl, rfl⟩
  go_wp2_with fail
  refine (Hu _).out.mono ?_
  rintro e w' ⟨j, hj, rfl, rfl⟩
  obtain ⟨cap, W0, hcv, hmb, hb⟩ := HCV (w.drewN n)
  have HB := Lib.hid ((bdrewN (Below.refl w.heap.size w) n).trans (hb.mono (by simp)))
  have HM : Hid (MBlk W0 w.heap.size (exL V[0] U[0] S.data.toList 0)) := by
    show MBlk _ _ _
    rw [exL_zero]
    simpa using hmb
  clear hb hmb
  go_wp2_with fail
  clear hcv
  go_loopw [9] (fun v9 wr => ∃ m : Nat, m ≤ S.size ∧ v9 = .int .i64 m ∧ Hid (MBlk wr w.heap.size (exL V[0] U[0] S.data.toList m)) ∧ Hid (Below w.heap.size w wr)) (fun v9 _ => S.size - (intOf v9).toNat)
  case atStart => exact ⟨0, Nat.zero_le _, rfl, HM, HB⟩
  case round =>
    obtain ⟨m, hm, rfl, HM1, HB1⟩ := hrel
    by_cases hlt : m < S.size
    · have hlt2 : m < S.data.toList.length := by simpa using hlt
      have hlen := exL_len V[0] U[0] S.data.toList m
      have hc := HM1.out.get m (by rw [hlen]; exact hlt2)
      rw [exL_at hlt2] at hc
      have hf := HM1.out.free m (by rw [hlen]; exact hlt2)
      have HST := Lib.hid (fun c' => HM1.out.set m (by rw [hlen]; exact hlt2) c')
      have h0 : (0 : Int) ≤ (m : Int) := by omega
      have h1 : (m : Int) < (S.size : Int) := by omega
      have HSP := Lib.hid (exL_step (v := V[0]) (w := U[0]) hlt2)
      have HSA := Lib.hid (fun (h : exch V[0] U[0] S.data.toList[m] = S.data.toList[m]) => exL_same (v := V[0]) (w := U[0]) hlt2 h)
      clear hlen
      have hv0 : (0 : Int) < (V.size : Int) := by omega
      have hu0 : (0 : Int) < (U.size : Int) := by omega
      rw [show S.data.toList[m] = S[m] from rfl] at hc HSP HSA
      by_cases e1 : S[m] = V[0]
      · by_cases e2 : S[m] = U[0]
        · skip
          have ht1 := u8_eq e1
          have ht2 := u8_eq e2
          have HX := Lib.hid (exch_u (v := V[0]) e2)
          clear e1 e2
          go_wp2_with fail
          go_quiet (fail)
          go_wp2_with fail
          have hk1 := HM1.out.kept (bdrewN (Below.refl wr.heap.size wr) nq)
          have hb1 := bdrewN HB1.out nq
          have hk2 := hk1.set m (by rw [exL_len]; exact hlt2) U[0]
          have hb2 := hb1.setCell (p := ⟨w.heap.size, m, none⟩) (Nat.le_refl _) (.int .u8 U[0].toNat)
          have hf2 := hk2.free m (by simp [exL_len]; omega)
          have hc2 := hk2.get m (by simp [exL_len]; omega)
          have HKa := Lib.hid hk2
          have HBa := Lib.hid hb2
          clear hk1 hb1 hk2 hb2
          generalize ((wr.drewN nq).setCell ⟨w.heap.size, m, none⟩ (.int .u8 U[0].toNat)) = W1 at *
          go_quiet (fail)
          go_wp2_with fail
          have hk3 := HKa.out.kept (bdrewN (Below.refl W1.heap.size W1) nq)
          have hb3 := bdrewN HBa.out nq
          have hk4 := hk3.set m (by simp [exL_len]; omega) V[0]
          have hb4 := hb3.setCell (p := ⟨w.heap.size, m, none⟩) (Nat.le_refl _) (.int .u8 V[0].toNat)
          have HK5 : Hid (MBlk ((W1.drewN nq).setCell ⟨w.heap.size, m, none⟩ (.int .u8 V[0].toNat)) w.heap.size (exL V[0] U[0] S.data.toList (m + 1))) := by show MBlk _ _ _; rw [← HSP.out, HX.out]; rw [List.set_set] at hk4; exact hk4
          have HB5 := Lib.hid hb4
          clear hk3 hb3 hk4 hb4
          go_roundw
          case rel => exact ⟨m + 1, by omega, by go_num, HK5, HB5⟩
          case measure => simp [intOf]; omega
        · skip
          have ht1 := u8_eq e1
          have ht2 := u8_ne e2
          have HX := Lib.hid (exch_t (w := U[0]) e1)
          clear e1 e2
          go_wp2_with fail
          go_quiet (fail)
          go_wp2_with fail
          have hk1 := HM1.out.kept (bdrewN (Below.refl wr.heap.size wr) nq)
          have hb1 := bdrewN HB1.out nq
          have hk2 := hk1.set m (by rw [exL_len]; exact hlt2) U[0]
          have hb2 := hb1.setCell (p := ⟨w.heap.size, m, none⟩) (Nat.le_refl _) (.int .u8 U[0].toNat)
          have hf2 := hk2.free m (by simp [exL_len]; omega)
          have hc2 := hk2.get m (by simp [exL_len]; omega)
          have HKa := Lib.hid hk2
          have HBa := Lib.hid hb2
          clear hk1 hb1 hk2 hb2
          generalize ((wr.drewN nq).setCell ⟨w.heap.size, m, none⟩ (.int .u8 U[0].toNat)) = W1 at *
          go_quiet (fail)
          go_wp2_with fail
          have hk3 := HKa.out.kept (bdrewN (Below.refl W1.heap.size W1) nq)
          have hb3 := bdrewN HBa.out nq
          have HK5 : Hid (MBlk (W1.drewN nq) w.heap.size (exL V[0] U[0] S.data.toList (m + 1))) := by show MBlk _ _ _; rw [← HSP.out, HX.out]; exact hk3
          have HB5 := Lib.hid hb3
          clear hk3 hb3
          go_roundw
          case rel => exact ⟨m + 1, by omega, by go_num, HK5, HB5⟩
          case measure => simp [intOf]; omega
      · by_cases e2 : S[m] = U[0]
        · skip
          have ht1 := u8_ne e1
          have ht2 := u8_eq e2
          have HX := Lib.hid (exch_u (v := V[0]) e2)
          clear e1 e2
          go_wp2_with fail
          go_quiet (fail)
          go_wp2_with fail
          have hk1 := HM1.out.kept (bdrewN (Below.refl wr.heap.size wr) nq)
          have hb1 := bdrewN HB1.out nq
          have HKa := Lib.hid hk1
          have HBa := Lib.hid hb1
          clear hk1 hb1
          generalize (wr.drewN nq) = W1 at *
          have hf2 := HKa.out.free m (by rw [exL_len]; exact hlt2)
          have hc2 := HKa.out.get m (by rw [exL_len]; exact hlt2)
          go_quiet (fail)
          go_wp2_with fail
          have hk3 := HKa.out.kept (bdrewN (Below.refl W1.heap.size W1) nq)
          have hb3 := bdrewN HBa.out nq
          have hk4 := hk3.set m (by simp [exL_len]; omega) V[0]
          have hb4 := hb3.setCell (p := ⟨w.heap.size, m, none⟩) (Nat.le_refl _) (.int .u8 V[0].toNat)
          have HK5 : Hid (MBlk ((W1.drewN nq).setCell ⟨w.heap.size, m, none⟩ (.int .u8 V[0].toNat)) w.heap.size (exL V[0] U[0] S.data.toList (m + 1))) := by show MBlk _ _ _; rw [← HSP.out, HX.out]; exact hk4
          have HB5 := Lib.hid hb4
          clear hk3 hb3 hk4 hb4
          go_roundw
          case rel => exact ⟨m + 1, by omega, by go_num, HK5, HB5⟩
          case measure => simp [intOf]; omega
        · skip
          have ht1 := u8_ne e1
          have ht2 := u8_ne e2
          have HX := Lib.hid (exch_n e1 e2)
          clear e1 e2
          go_wp2_with fail
          go_quiet (fail)
          go_wp2_with fail
          have hk1 := HM1.out.kept (bdrewN (Below.refl wr.heap.size wr) nq)
          have hb1 := bdrewN HB1.out nq
          have HKa := Lib.hid hk1
          have HBa := Lib.hid hb1
          clear hk1 hb1
          generalize (wr.drewN nq) = W1 at *
          have hf2 := HKa.out.free m (by rw [exL_len]; exact hlt2)
          have hc2 := HKa.out.get m (by rw [exL_len]; exact hlt2)
          go_quiet (fail)
          go_wp2_with fail
          have hk3 := HKa.out.kept (bdrewN (Below.refl W1.heap.size W1) nq)
          have hb3 := bdrewN HBa.out nq
          have HK5 : Hid (MBlk (W1.drewN nq) w.heap.size (exL V[0] U[0] S.data.toList (m + 1))) := by show MBlk _ _ _; rw [← HSA.out HX.out]; exact hk3
          have HB5 := Lib.hid hb3
          clear hk3 hb3
          go_roundw
          case rel => exact ⟨m + 1, by omega, by go_num, HK5, HB5⟩
          case measure => simp [intOf]; omega
    · have hme : m = S.size := by omega
      have hcs := toStrM HM1.out S.size cap (by rw [exL_len]; exact HLL.out.symm)
      rw [hme, show exL V[0] U[0] S.data.toList S.size = S.data.toList.map (exch V[0] U[0]) by rw [← HLL.out]; exact exL_full _ _ _] at hcs
      have h1 : ¬ (m : Int) < (S.size : Int) := by omega
      clear hme
      go_wp2_with fail
      go_ret2
      exact ⟨rfl, HB1.out⟩
end Go.Proofs.YtopbkkmplgllkaaGreatDoor
