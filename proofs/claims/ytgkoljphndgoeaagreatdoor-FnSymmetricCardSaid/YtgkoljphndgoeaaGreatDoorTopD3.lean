/-
  Several small texts in one: Iv MBl Sw0 Sev.
-/
import Derived.Test.YtgkoljphndgoeaaGreatDoorTopY
import Derived.Test.YtgkoljphndgoeaaGreatDoorShelf
import Derived.Test.YtgkoljphndgoeaaGreatDoorTopB
import Derived.Test.YtgkoljphndgoeaaGreatDoorTopP
import Derived.Test.YtgkoljphndgoeaaGreatDoorTopE1
import Derived.Test.YtgkoljphndgoeaaGreatDoorTopD
namespace Go.Proofs.YtgkoljphndgoeaaGreatDoor
open Go.RowKit

set_option maxHeartbeats 1000000 in
theorem implVar_yes (v : ByteArray) (w : World) (hv : IsVar v) : Calls Tryz.prog 104 #[.string v] w fun e w' => e = .returned (.bool true) ∧ w = w' := by
  rcases hv with rfl | rfl | rfl
  all_goals
    go_enter Tryz.func104, Tryz.ntmps104
    go_wp2_with fail
    refine (Tryz.strings_Contains_one ⟨#[120, 121, 122]⟩ _ _).mono ?_
    rintro e w' ⟨rfl, rfl⟩
    rw [xyz_index]
    go_wp2_with fail
    go_ret
    exact ⟨rfl, rfl⟩

set_option maxHeartbeats 1000000 in
theorem implVar_no (v : ByteArray) (w : World) (hm : v.size ≤ maxLen) (hv : ¬ IsVar v) : Calls Tryz.prog 104 #[.string v] w fun e w' => e = .returned (.bool false) ∧ w = w' := by
  by_cases h1 : v.size = 1
  · obtain ⟨c, rfl⟩ := one_byte v h1
    have hc : Hid ((c == 120 || c == 121 || c == 122) = false) := by
      show (c == 120 || c == 121 || c == 122) = false
      cases hh : (c == 120 || c == 121 || c == 122)
      · rfl
      · simp at hh
        exact absurd (by rcases hh with (rfl | rfl) | rfl <;> simp [IsVar]) hv
    clear hv hm
    go_enter Tryz.func104, Tryz.ntmps104
    go_wp2_with fail
    refine (Tryz.strings_Contains_one ⟨#[120, 121, 122]⟩ _ _).mono ?_
    rintro e w' ⟨rfl, rfl⟩
    rw [xyz_index, hc.out]
    go_wp2_with fail
    go_ret
    exact ⟨rfl, rfl⟩
  · have hs : ((v.size : Int) == 1) = false := by rw [beq_eq_false_iff_ne]; omega
    clear hv h1
    go_enter Tryz.func104, Tryz.ntmps104
    go_wp2_with fail
    go_ret
    exact ⟨rfl, rfl⟩

end Go.Proofs.YtgkoljphndgoeaaGreatDoor

namespace Go.Proofs.YtgkoljphndgoeaaGreatDoor
open Go.RowKit

/-- The first cells of a block are these bytes, and may be written. -/
structure MBlk (w : World) (b : Nat) (l : List UInt8) : Prop where
  get : ∀ i (h : i < l.length), w.cell? ⟨b, i, none⟩ = some (.int .u8 (l[i].toNat : Int))
  free : ∀ i, i < l.length → w.frozen? ⟨b, i, none⟩ = false
  lt : b < w.heap.size
theorem MBlk.kept {w w' : World} {b : Nat} {l : List UInt8} (h : MBlk w b l) (hb : Below w.heap.size w w') : MBlk w' b l :=
  ⟨fun i hi => ckeep hb (h.get i hi), fun i hi => (hb.frozen (p := ⟨b, i, none⟩) h.lt).trans (h.free i hi), Nat.lt_of_lt_of_le h.lt hb.size⟩
theorem MBlk.set {w : World} {b : Nat} {l : List UInt8} (h : MBlk w b l) (i : Nat) (hi : i < l.length) (c : UInt8) : MBlk (w.setCell ⟨b, i, none⟩ (.int .u8 c.toNat)) b (l.set i c) := by
  refine ⟨fun j hj => ?_, fun j hj => ?_, ?_⟩
  · have hj2 : j < l.length := by simpa using hj
    by_cases e : i = j
    · subst e
      have := h.get i hi
      simp [go_sem, this]
    · rw [World.cell?_setCell_other _ _ _ _ (by intro e2; injection e2; omega), h.get j hj2, List.getElem_set_ne e]
  · have hj2 : j < l.length := by simpa using hj
    have := h.free j hj2
    simpa [go_sem] using this
  · have := h.lt
    simpa [World.setCell] using this
theorem bytesOf (w : World) (l : List UInt8) : ∃ cap W', (convert 9 22 (.string (bs l))).run Tryz.prog w = .ok (.slice (some ⟨w.heap.size, 0, none⟩) l.length cap) W' ∧ MBlk W' w.heap.size l ∧ Below w.heap.size w W' := by
  have h := run_bytes_of_string (P := Tryz.prog) w 9 22 5 (bs l) Tryz.underlying9 Tryz.underlying22 Tryz.underlying5
  rw [bs_size] at h
  obtain ⟨C, hC⟩ : ∃ C, C = bytesRow (bs l) (grownCap w l.length 0 5) := ⟨_, rfl⟩
  rw [← hC] at h
  have hget : ∀ i (hi : i < l.length), C[i]? = some (.int .u8 (l[i].toNat : Int)) := fun i hi => by
    rw [hC, bytesRow, Array.getElem?_append_left (by simpa [bs] using hi)]
    simp [bs, hi]
  have hsz : l.length ≤ C.size := by rw [hC, bytesRow]; simp [bs]
  have hbl : (w.drew.alloc (.cells C 5 (C.size, C.size + 1))).heap[w.heap.size]? = some (.cells C 5 (C.size, C.size + 1)) := by
    show (w.heap.push _)[w.heap.size]? = _
    simp
  refine ⟨_, _, h, ⟨?_, ?_, ?_⟩, ?_⟩
  · intro i hi
    rw [cell_of_row _ w.heap.size i C _ _ hbl]
    exact hget i hi
  · intro i hi
    have h2 : ¬ C.size ≤ i := by omega
    generalize w.drew.alloc (.cells C 5 (C.size, C.size + 1)) = W at hbl
    simp [World.frozen?, hbl, h2]
  · simp
  · exact ((Below.refl _ _).drew).alloc (Nat.le_refl _) _

theorem toStrM {w : World} {b : Nat} {l : List UInt8} (h : MBlk w b l) (n c : Nat) (hn : n = l.length) : (convert 22 9 (.slice (some ⟨b, 0, none⟩) n c)).run Tryz.prog w = .ok (.string (bs l)) w := by
  subst hn
  rw [run_convert_bytes_string _ _ _ 5 _ _ _ Tryz.underlying22 Tryz.underlying5 Tryz.underlying9]
  rw [run_bytesToString _ _ l.length c (l.map (fun c : UInt8 => (c.toNat : Int)))]
  · rw [fold_push]
    congr 2
  · have h2 := run_loadCells_list (w := w) (P := Tryz.prog) ⟨b, 0, none⟩ (l.map bv) (fun j v hj => by
      rw [List.getElem?_map] at hj
      have hlt : j < l.length := by
        rcases Nat.lt_or_ge j l.length with h | h
        · exact h
        · rw [List.getElem?_eq_none h] at hj; cases hj
      rw [List.getElem?_eq_getElem hlt] at hj
      simp at hj
      subst hj
      have e : (⟨b, 0, none⟩ : Addr).add j = ⟨b, j, none⟩ := by
        by_cases h0 : j = 0 <;> simp [Addr.add, h0]
      rw [e]
      exact h.get j hlt)
    simp at h2
    rw [h2]
    simp [bv, List.map_map, Function.comp_def]

end Go.Proofs.YtgkoljphndgoeaaGreatDoor

namespace Go.Proofs.YtgkoljphndgoeaaGreatDoor
open Go.RowKit Tm

def exch (v w c : UInt8) : UInt8 := if c = v then w else if c = w then v else c
theorem exch_t {v w c : UInt8} (h : c = v) : exch v w c = w := by simp [exch, h]
theorem exch_u {v w c : UInt8} (h : c = w) : exch v w c = v := by
  unfold exch
  by_cases h2 : c = v
  · rw [if_pos h2, ← h, h2]
  · rw [if_neg h2, if_pos h]
theorem exch_n {v w c : UInt8} (h : ¬ c = v) (h2 : ¬ c = w) : exch v w c = c := by simp [exch, h, h2]
/-- The text while it is exchanged, byte by byte. -/
def exL (v w : UInt8) (l : List UInt8) (m : Nat) : List UInt8 := (l.take m).map (exch v w) ++ l.drop m
theorem exL_len (v w : UInt8) (l : List UInt8) (m : Nat) : (exL v w l m).length = l.length := by simp [exL]; omega
theorem exL_at {v w : UInt8} {l : List UInt8} {m : Nat} (h : m < l.length) : (exL v w l m)[m]'(by rw [exL_len]; exact h) = l[m] := by
  unfold exL
  rw [List.getElem_append_right (by simp; omega)]
  simp [Nat.min_eq_left (Nat.le_of_lt h)]
theorem exL_step {v w : UInt8} {l : List UInt8} {m : Nat} (h : m < l.length) : (exL v w l m).set m (exch v w l[m]) = exL v w l (m + 1) := by
  unfold exL
  have hl : ((l.take m).map (exch v w)).length = m := by simp; omega
  rw [List.set_append_right _ _ (by omega), hl, Nat.sub_self, List.drop_eq_getElem_cons h, List.set_cons_zero, List.take_succ_eq_append_getElem h]
  simp only [List.map_append, List.map_cons, List.map_nil, List.append_assoc, List.cons_append, List.nil_append]
theorem exL_same {v w : UInt8} {l : List UInt8} {m : Nat} (h : m < l.length) (he : exch v w l[m] = l[m]) : exL v w l m = exL v w l (m + 1) := by
  rw [← exL_step h, he, ← exL_at (v := v) (w := w) h, List.set_getElem_self]
theorem exL_full (v w : UInt8) (l : List UInt8) : exL v w l l.length = l.map (exch v w) := by simp [exL]
theorem exL_zero (v w : UInt8) (l : List UInt8) : exL v w l 0 = l := by simp [exL]
theorem u8_eq {c d : UInt8} (h : c = d) : ((c.toNat : Int) == (d.toNat : Int)) = true := by rw [h]; simp
theorem u8_ne {c d : UInt8} (h : ¬ c = d) : ((c.toNat : Int) == (d.toNat : Int)) = false := by
  rw [beq_eq_false_iff_ne]; intro e; exact h (UInt8.toNat_inj.1 (by omega))

set_option maxRecDepth 100000 in
set_option maxHeartbeats 4000000 in
theorem exchange_any (l : List UInt8) (v u : UInt8) (w : World) (hn : l.length ≤ 1000) :
    Calls Tryz.prog 105 #[.string (bs l), .int .u8 v.toNat, .int .u8 u.toNat] w fun e w' => e = .returned (.string (bs (l.map (exch v u)))) ∧ Below w.heap.size w w' := by
  obtain ⟨cap, W0, hcv, hmb, hb⟩ := bytesOf w l
  have HB := Lib.hid hb
  have HM := Lib.hid hmb
  clear hb hmb
  generalize bs l = S at *
  go_enter Tryz.func105, Tryz.ntmps105
  go_wp2_with fail
  clear hcv
  go_loopw [14] (fun v14 wr => ∃ m : Nat, m ≤ l.length ∧ v14 = .int .i64 m ∧ Hid (MBlk wr w.heap.size (exL v u l m)) ∧ Hid (Below w.heap.size w wr)) (fun v14 _ => l.length - (intOf v14).toNat)
  case atStart => exact ⟨0, Nat.zero_le _, rfl, by rw [exL_zero]; exact HM, HB⟩
  case round =>
    obtain ⟨m, hm, rfl, HM1, HB1⟩ := hrel
    by_cases hlt : m < l.length
    · have hlen := exL_len v u l m
      have hc := HM1.out.get m (by rw [hlen]; exact hlt)
      rw [exL_at hlt] at hc
      have hf := HM1.out.free m (by rw [hlen]; exact hlt)
      have hst := fun c => HM1.out.set m (by rw [hlen]; exact hlt) c
      have h0 : (0 : Int) ≤ (m : Int) := by omega
      have h1 : (m : Int) < (l.length : Int) := by omega
      have hstep := exL_step (v := v) (w := u) hlt
      have hsame := fun h => exL_same (v := v) (w := u) hlt h
      have HST := Lib.hid hst
      have HSP := Lib.hid hstep
      have HSA := Lib.hid hsame
      clear hst hstep hsame hlen
      generalize l[m] = c at *
      by_cases e1 : c = v
      · have ht := u8_eq e1
        have HX := Lib.hid (exch_t (w := u) e1)
        clear e1
        go_wp2_with fail
        go_roundw
        case rel => exact ⟨m + 1, by omega, by go_num, by show MBlk _ _ _; rw [← HSP.out, HX.out]; exact HST.out u, HB1.out.setCell (Nat.le_refl _) _⟩
        case measure => simp [intOf]; omega
      · by_cases e2 : c = u
        · have ht := u8_ne e1
          have ht2 := u8_eq e2
          have HX := Lib.hid (exch_u (v := v) e2)
          clear e1 e2
          go_wp2_with fail
          go_roundw
          case rel => exact ⟨m + 1, by omega, by go_num, by show MBlk _ _ _; rw [← HSP.out, HX.out]; exact HST.out v, HB1.out.setCell (Nat.le_refl _) _⟩
          case measure => simp [intOf]; omega
        · have ht := u8_ne e1
          have ht2 := u8_ne e2
          have HX := Lib.hid (exch_n e1 e2)
          clear e1 e2
          go_wp2_with fail
          go_roundw
          case rel => exact ⟨m + 1, by omega, by go_num, by show MBlk _ _ _; rw [← HSA.out HX.out]; exact HM1.out, HB1⟩
          case measure => simp [intOf]; omega
    · have hme : m = l.length := by omega
      have hcs := toStrM HM1.out l.length cap (exL_len v u l m).symm
      rw [hme, exL_full] at hcs
      have h1 : ¬ (m : Int) < (l.length : Int) := by omega
      clear hme
      go_wp2_with fail
      go_ret
      exact ⟨rfl, HB1.out⟩
/-! ### The face -/
theorem implPV_t (s : ByteArray) (w : World) (h : IsP s) : Calls Tryz.prog 27 #[.string s] w fun e w' => e = .returned (.bool true) ∧ Below w.heap.size w w' := by
  obtain ⟨⟨p, hp, he⟩, hl⟩ := h
  exact implPV_yes s w hp he hl
theorem bs_self (S : ByteArray) : bs S.data.toList = S := by cases S; simp [bs]
theorem isvar_byte {v : ByteArray} (h : IsVar v) : ∃ c, v = ⟨#[c]⟩ := by
  rcases h with rfl | rfl | rfl <;> exact ⟨_, rfl⟩
theorem spVar_yes (v : ByteArray) (w : World) (h : IsVar v) : Calls Tryz.prog 159 #[.string v] w fun e w' => ∃ i : Nat, i ≤ 2 ∧ e = .returned (.int .i64 i) ∧ w = w' := by
  rcases h with rfl | rfl | rfl
  · exact (specVar_yes 120 0 w (by simp)).mono fun e w' h => ⟨0, by omega, h.1, h.2⟩
  · exact (specVar_yes 121 1 w (by simp)).mono fun e w' h => ⟨1, by omega, h.1, h.2⟩
  · exact (specVar_yes 122 2 w (by simp)).mono fun e w' h => ⟨2, by omega, h.1, h.2⟩

set_option maxRecDepth 100000 in
set_option maxHeartbeats 2000000 in
theorem implSwap_no (p v u : ByteArray) (w : World) (hm : v.size ≤ maxLen) (hm2 : u.size ≤ maxLen) (h : ¬ (IsP p ∧ IsVar v ∧ IsVar u)) :
    Calls Tryz.prog 34 #[.string p, .string v, .string u] w fun e w' => e = .returned (.tuple #[.string ⟨#[]⟩, .bool false]) ∧ Below w.heap.size w w' := by
  by_cases h1 : IsP p
  · by_cases h2 : IsVar v
    · have h3 : ¬ IsVar u := fun h3 => h ⟨h1, h2, h3⟩
      have HP := fun w => Lib.hid (implPV_t p w h1)
      have Hv := fun w => Lib.hid (implVar_yes v w h2)
      have Hu := fun w => Lib.hid (implVar_no u w hm2 h3)
      clear h h1 h2 h3
      go_enter Tryz.func34, Tryz.ntmps34
      go_wp2_with fail
      refine ((HP _).out).mono ?_
      rintro e w' ⟨rfl, hb⟩
      have HB := Lib.hid hb
      clear hb
      go_wp2_with fail
      refine ((Hv _).out).mono ?_
      rintro e w' ⟨rfl, rfl⟩
      go_wp2_with fail
      refine ((Hu _).out).mono ?_
      rintro e w' ⟨rfl, rfl⟩
      go_wp2_with fail
      go_ret2
      exact ⟨rfl, HB.out⟩
    · have HP := fun w => Lib.hid (implPV_t p w h1)
      have Hv := fun w => Lib.hid (implVar_no v w hm h2)
      clear h h1 h2
      go_enter Tryz.func34, Tryz.ntmps34
      go_wp2_with fail
      refine ((HP _).out).mono ?_
      rintro e w' ⟨rfl, hb⟩
      have HB := Lib.hid hb
      clear hb
      go_wp2_with fail
      refine ((Hv _).out).mono ?_
      rintro e w' ⟨rfl, rfl⟩
      go_wp2_with fail
      go_ret2
      exact ⟨rfl, HB.out⟩
  · have HP := fun w => Lib.hid (implPV_no p w h1)
    clear h h1
    go_enter Tryz.func34, Tryz.ntmps34
    go_wp2_with fail
    refine ((HP _).out).mono ?_
    rintro e w' ⟨rfl, hb⟩
    have HB := Lib.hid hb
    clear hb
    go_wp2_with fail
    go_ret2
    exact ⟨rfl, HB.out⟩

set_option maxRecDepth 100000 in
set_option maxHeartbeats 2000000 in
theorem specSwap_no (p v u : ByteArray) (w : World) (hm : v.size ≤ maxLen) (hm2 : u.size ≤ maxLen) (h : ¬ (IsP p ∧ IsVar v ∧ IsVar u)) :
    Calls Tryz.prog 102 #[.string p, .string v, .string u] w fun e w' => e = .returned (.tuple #[.string ⟨#[]⟩, .bool false]) ∧ Below w.heap.size w w' := by
  by_cases h1 : IsP p
  · by_cases h2 : IsVar v
    · have h3 : ¬ IsVar u := fun h3 => h ⟨h1, h2, h3⟩
      have HP := fun w => Lib.hid (specPV_yes p w h1.1 h1.2)
      have Hv := fun w => Lib.hid (spVar_yes v w h2)
      have Hu := fun w => Lib.hid (specVar_no u w hm2 h3)
      clear h h1 h2 h3
      go_enter Tryz.func102, Tryz.ntmps102
      go_wp2_with fail
      refine ((HP _).out).mono ?_
      rintro e w' ⟨rfl, n, rfl⟩
      go_wp2_with fail
      refine ((Hv _).out).mono ?_
      rintro e w' ⟨i, hi, rfl, rfl⟩
      go_wp2_with fail
      refine ((Hu _).out).mono ?_
      rintro e w' ⟨rfl, rfl⟩
      go_wp2_with fail
      go_ret2
      exact ⟨rfl, bdrewN (Below.refl w.heap.size w) n⟩
    · have HP := fun w => Lib.hid (specPV_yes p w h1.1 h1.2)
      have Hv := fun w => Lib.hid (specVar_no v w hm h2)
      clear h h1 h2
      go_enter Tryz.func102, Tryz.ntmps102
      go_wp2_with fail
      refine ((HP _).out).mono ?_
      rintro e w' ⟨rfl, n, rfl⟩
      go_wp2_with fail
      refine ((Hv _).out).mono ?_
      rintro e w' ⟨rfl, rfl⟩
      go_wp2_with fail
      go_ret2
      exact ⟨rfl, bdrewN (Below.refl w.heap.size w) n⟩
  · have HP := fun w => Lib.hid (specPV_no p w h1)
    clear h h1
    go_enter Tryz.func102, Tryz.ntmps102
    go_wp2_with fail
    refine ((HP _).out).mono ?_
    rintro e w' ⟨rfl, n, rfl⟩
    go_wp2_with fail
    go_ret2
    exact ⟨rfl, bdrewN (Below.refl w.heap.size w) n⟩

set_option maxRecDepth 100000 in
set_option maxHeartbeats 2000000 in
theorem implSwap_yes (S V U : ByteArray) (hV : 0 < V.size) (hU : 0 < U.size) (w : World) (h1 : IsP S) (h2 : IsVar V) (h3 : IsVar U) :
    Calls Tryz.prog 34 #[.string S, .string V, .string U] w fun e w' => e = .returned (.tuple #[.string (bs (S.data.toList.map (exch V[0] U[0]))), .bool true]) ∧ Below w.heap.size w w' := by
  have HP := fun w => Lib.hid (implPV_t S w h1)
  have Hv := fun w => Lib.hid (implVar_yes V w h2)
  have Hu := fun w => Lib.hid (implVar_yes U w h3)
  have HE := fun w => exchange_any S.data.toList V[0] U[0] w (by have := h1.2; simp; omega)
  rw [bs_self] at HE
  have HE := Lib.hid HE
  clear h1 h2 h3
  generalize bs (S.data.toList.map (exch V[0] U[0])) = R at *
  go_enter Tryz.func34, Tryz.ntmps34
  go_wp2_with fail
  refine (HP _).out.mono ?_
  rintro e w' ⟨rfl, hb⟩
  have hb' := hb.drew
  go_wp2_with fail
  refine (Hv _).out.mono ?_
  rintro e w' ⟨rfl, rfl⟩
  go_wp2_with fail
  refine (Hu _).out.mono ?_
  rintro e w' ⟨rfl, rfl⟩
  go_wp2_with fail
  go_region_held3 (fun w' => Below w.heap.size w w')
    ((first | assumption | exact Below.trans (by assumption) (hq.mono (by have := Below.size (by assumption : Below w.heap.size w _); omega))))
    (first | (go_at_call 105; (with_reducible refine (HE.out _).mono ?_); rintro e w2 ⟨rfl, hq⟩))
  all_goals
    go_wp2_with fail
    go_ret2
    exact ⟨rfl, by assumption⟩

set_option maxRecDepth 100000 in
set_option maxHeartbeats 4000000 in
theorem specSwap_yes (S V U : ByteArray) (hV : 0 < V.size) (hU : 0 < U.size) (w : World) (h1 : IsP S) (h2 : IsVar V) (h3 : IsVar U) :
    Calls Tryz.prog 102 #[.string S, .string V, .string U] w fun e w' => e = .returned (.tuple #[.string (bs (S.data.toList.map (exch V[0] U[0]))), .bool true]) ∧ Below w.heap.size w w' := by
  have HP := fun w => Lib.hid (specPV_yes S w h1.1 h1.2)
  have Hv := fun w => Lib.hid (spVar_yes V w h2)
  have Hu := fun w => Lib.hid (spVar_yes U w h3)
  have HCV := fun w => bytesOf w S.data.toList
  rw [bs_self] at HCV
  have hn : S.size ≤ 200 := h1.2
  have hll : S.data.toList.length = S.size := by simp
  have HLL := Lib.hid hll
  clear h1 h2 h3
  rw [hll] at HCV
  clear hll
  go_enter Tryz.func102, Tryz.ntmps102
  go_wp2_with fail
  refine (HP _).out.mono ?_
  rintro e w' ⟨rfl, n, rfl⟩
  go_wp2_with fail
  refine (Hv _).out.mono ?_
  rintro e w' ⟨i, hi, rfl, rfl⟩
  go_wp2_with fail
  refine (Hu _).out.mono ?_
  rintro e w' ⟨j, hj, rfl, rfl⟩
  obtain ⟨cap, W0, hcv, hmb, hb⟩ := HCV (w.drewN n)
  have HB := Lib.hid ((bdrewN (Below.refl w.heap.size w) n).trans (hb.mono (by simp)))
  have HM : Hid (MBlk W0 w.heap.size (exL V[0] U[0] S.data.toList 0)) := by
    show MBlk _ _ _
    rw [exL_zero]
    simpa using hmb
  clear hb hmb
  go_wp2_with fail
  clear hcv
  go_loopw [9] (fun v9 wr => ∃ m : Nat, m ≤ S.size ∧ v9 = .int .i64 m ∧ Hid (MBlk wr w.heap.size (exL V[0] U[0] S.data.toList m)) ∧ Hid (Below w.heap.size w wr)) (fun v9 _ => S.size - (intOf v9).toNat)
  case atStart => exact ⟨0, Nat.zero_le _, rfl, HM, HB⟩
  case round =>
    obtain ⟨m, hm, rfl, HM1, HB1⟩ := hrel
    by_cases hlt : m < S.size
    · have hlt2 : m < S.data.toList.length := by simpa using hlt
      have hlen := exL_len V[0] U[0] S.data.toList m
      have hc := HM1.out.get m (by rw [hlen]; exact hlt2)
      rw [exL_at hlt2] at hc
      have hf := HM1.out.free m (by rw [hlen]; exact hlt2)
      have HST := Lib.hid (fun c' => HM1.out.set m (by rw [hlen]; exact hlt2) c')
      have h0 : (0 : Int) ≤ (m : Int) := by omega
      have h1 : (m : Int) < (S.size : Int) := by omega
      have HSP := Lib.hid (exL_step (v := V[0]) (w := U[0]) hlt2)
      have HSA := Lib.hid (fun (h : exch V[0] U[0] S.data.toList[m] = S.data.toList[m]) => exL_same (v := V[0]) (w := U[0]) hlt2 h)
      clear hlen
      have hv0 : (0 : Int) < (V.size : Int) := by omega
      have hu0 : (0 : Int) < (U.size : Int) := by omega
      rw [show S.data.toList[m] = S[m] from rfl] at hc HSP HSA
      by_cases e1 : S[m] = V[0]
      · by_cases e2 : S[m] = U[0]
        · skip
          have ht1 := u8_eq e1
          have ht2 := u8_eq e2
          have HX := Lib.hid (exch_u (v := V[0]) e2)
          clear e1 e2
          go_wp2_with fail
          go_quiet (fail)
          go_wp2_with fail
          have hk1 := HM1.out.kept (bdrewN (Below.refl wr.heap.size wr) nq)
          have hb1 := bdrewN HB1.out nq
          have hk2 := hk1.set m (by rw [exL_len]; exact hlt2) U[0]
          have hb2 := hb1.setCell (p := ⟨w.heap.size, m, none⟩) (Nat.le_refl _) (.int .u8 U[0].toNat)
          have hf2 := hk2.free m (by simp [exL_len]; omega)
          have hc2 := hk2.get m (by simp [exL_len]; omega)
          have HKa := Lib.hid hk2
          have HBa := Lib.hid hb2
          clear hk1 hb1 hk2 hb2
          generalize ((wr.drewN nq).setCell ⟨w.heap.size, m, none⟩ (.int .u8 U[0].toNat)) = W1 at *
          go_quiet (fail)
          go_wp2_with fail
          have hk3 := HKa.out.kept (bdrewN (Below.refl W1.heap.size W1) nq)
          have hb3 := bdrewN HBa.out nq
          have hk4 := hk3.set m (by simp [exL_len]; omega) V[0]
          have hb4 := hb3.setCell (p := ⟨w.heap.size, m, none⟩) (Nat.le_refl _) (.int .u8 V[0].toNat)
          have HK5 : Hid (MBlk ((W1.drewN nq).setCell ⟨w.heap.size, m, none⟩ (.int .u8 V[0].toNat)) w.heap.size (exL V[0] U[0] S.data.toList (m + 1))) := by show MBlk _ _ _; rw [← HSP.out, HX.out]; rw [List.set_set] at hk4; exact hk4
          have HB5 := Lib.hid hb4
          clear hk3 hb3 hk4 hb4
          go_roundw
          case rel => exact ⟨m + 1, by omega, by go_num, HK5, HB5⟩
          case measure => simp [intOf]; omega
        · skip
          have ht1 := u8_eq e1
          have ht2 := u8_ne e2
          have HX := Lib.hid (exch_t (w := U[0]) e1)
          clear e1 e2
          go_wp2_with fail
          go_quiet (fail)
          go_wp2_with fail
          have hk1 := HM1.out.kept (bdrewN (Below.refl wr.heap.size wr) nq)
          have hb1 := bdrewN HB1.out nq
          have hk2 := hk1.set m (by rw [exL_len]; exact hlt2) U[0]
          have hb2 := hb1.setCell (p := ⟨w.heap.size, m, none⟩) (Nat.le_refl _) (.int .u8 U[0].toNat)
          have hf2 := hk2.free m (by simp [exL_len]; omega)
          have hc2 := hk2.get m (by simp [exL_len]; omega)
          have HKa := Lib.hid hk2
          have HBa := Lib.hid hb2
          clear hk1 hb1 hk2 hb2
          generalize ((wr.drewN nq).setCell ⟨w.heap.size, m, none⟩ (.int .u8 U[0].toNat)) = W1 at *
          go_quiet (fail)
          go_wp2_with fail
          have hk3 := HKa.out.kept (bdrewN (Below.refl W1.heap.size W1) nq)
          have hb3 := bdrewN HBa.out nq
          have HK5 : Hid (MBlk (W1.drewN nq) w.heap.size (exL V[0] U[0] S.data.toList (m + 1))) := by show MBlk _ _ _; rw [← HSP.out, HX.out]; exact hk3
          have HB5 := Lib.hid hb3
          clear hk3 hb3
          go_roundw
          case rel => exact ⟨m + 1, by omega, by go_num, HK5, HB5⟩
          case measure => simp [intOf]; omega
      · by_cases e2 : S[m] = U[0]
        · skip
          have ht1 := u8_ne e1
          have ht2 := u8_eq e2
          have HX := Lib.hid (exch_u (v := V[0]) e2)
          clear e1 e2
          go_wp2_with fail
          go_quiet (fail)
          go_wp2_with fail
          have hk1 := HM1.out.kept (bdrewN (Below.refl wr.heap.size wr) nq)
          have hb1 := bdrewN HB1.out nq
          have HKa := Lib.hid hk1
          have HBa := Lib.hid hb1
          clear hk1 hb1
          generalize (wr.drewN nq) = W1 at *
          have hf2 := HKa.out.free m (by rw [exL_len]; exact hlt2)
          have hc2 := HKa.out.get m (by rw [exL_len]; exact hlt2)
          go_quiet (fail)
          go_wp2_with fail
          have hk3 := HKa.out.kept (bdrewN (Below.refl W1.heap.size W1) nq)
          have hb3 := bdrewN HBa.out nq
          have hk4 := hk3.set m (by simp [exL_len]; omega) V[0]
          have hb4 := hb3.setCell (p := ⟨w.heap.size, m, none⟩) (Nat.le_refl _) (.int .u8 V[0].toNat)
          have HK5 : Hid (MBlk ((W1.drewN nq).setCell ⟨w.heap.size, m, none⟩ (.int .u8 V[0].toNat)) w.heap.size (exL V[0] U[0] S.data.toList (m + 1))) := by show MBlk _ _ _; rw [← HSP.out, HX.out]; exact hk4
          have HB5 := Lib.hid hb4
          clear hk3 hb3 hk4 hb4
          go_roundw
          case rel => exact ⟨m + 1, by omega, by go_num, HK5, HB5⟩
          case measure => simp [intOf]; omega
        · skip
          have ht1 := u8_ne e1
          have ht2 := u8_ne e2
          have HX := Lib.hid (exch_n e1 e2)
          clear e1 e2
          go_wp2_with fail
          go_quiet (fail)
          go_wp2_with fail
          have hk1 := HM1.out.kept (bdrewN (Below.refl wr.heap.size wr) nq)
          have hb1 := bdrewN HB1.out nq
          have HKa := Lib.hid hk1
          have HBa := Lib.hid hb1
          clear hk1 hb1
          generalize (wr.drewN nq) = W1 at *
          have hf2 := HKa.out.free m (by rw [exL_len]; exact hlt2)
          have hc2 := HKa.out.get m (by rw [exL_len]; exact hlt2)
          go_quiet (fail)
          go_wp2_with fail
          have hk3 := HKa.out.kept (bdrewN (Below.refl W1.heap.size W1) nq)
          have hb3 := bdrewN HBa.out nq
          have HK5 : Hid (MBlk (W1.drewN nq) w.heap.size (exL V[0] U[0] S.data.toList (m + 1))) := by show MBlk _ _ _; rw [← HSA.out HX.out]; exact hk3
          have HB5 := Lib.hid hb3
          clear hk3 hb3
          go_roundw
          case rel => exact ⟨m + 1, by omega, by go_num, HK5, HB5⟩
          case measure => simp [intOf]; omega
    · have hme : m = S.size := by omega
      have hcs := toStrM HM1.out S.size cap (by rw [exL_len]; exact HLL.out.symm)
      rw [hme, show exL V[0] U[0] S.data.toList S.size = S.data.toList.map (exch V[0] U[0]) by rw [← HLL.out]; exact exL_full _ _ _] at hcs
      have h1 : ¬ (m : Int) < (S.size : Int) := by omega
      clear hme
      go_wp2_with fail
      go_ret2
      exact ⟨rfl, HB1.out⟩
end Go.Proofs.YtgkoljphndgoeaaGreatDoor

namespace Go.Proofs.YtgkoljphndgoeaaGreatDoor
open Go.RowKit

def SevPost (a p : Nat) (w : World) (e : Ending) (w' : World) : Prop := ∃ (s t : ByteArray) (q : Nat), (1 ≤ s.size ∧ s.size ≤ 99000) ∧ (1 ≤ t.size ∧ t.size ≤ 99000) ∧ q ≤ p + 1000 ∧ e = .returned (.tuple #[.string s, .string t]) ∧ Rd a q w' ∧ Kp a w w'
theorem sub1_pos (c : UInt8) (new : List UInt8) (hn : 1 ≤ new.length) : ∀ l, 1 ≤ l.length → 1 ≤ (sub1 c new l).length
  | [], h => by simp at h
  | b :: l, _ => by
    rw [sub1_cons, List.length_append]
    have : 1 ≤ (if b = c then new else [b]).length := by split <;> simp_all
    omega
theorem sub_size7 (x : ByteArray) (h1 : 1 ≤ x.size) (hs : x.size ≤ 200) : 1 ≤ (bs (sub1 49 (⟨#[50]⟩ : ByteArray).data.toList x.data.toList)).size ∧ (bs (sub1 49 (⟨#[50]⟩ : ByteArray).data.toList x.data.toList)).size ≤ 99000 := by
  have h := sub1_le 49 (⟨#[50]⟩ : ByteArray).data.toList (by decide) x.data.toList
  have k := sub1_pos 49 (⟨#[50]⟩ : ByteArray).data.toList (by decide) x.data.toList (by simpa using h1)
  rw [bs_size]
  have : x.data.toList.length ≤ 200 := by simpa using hs
  omega
theorem bsz7 (N : ByteArray) : N.size = N.data.toList.length := by cases N; rfl
/-- Two letters exchanged, of any text: a text as long, or none. -/
theorem swap_any7 (x : ByteArray) : ∃ (y : ByteArray) (b : Bool), (b = true → y.size = x.size) ∧ ∀ w, Calls Tryz.prog 102 #[.string x, .string ⟨#[120]⟩, .string ⟨#[121]⟩] w fun e w' => e = .returned (.tuple #[.string y, .bool b]) ∧ Below w.heap.size w w' := by
  by_cases h : IsP x
  · exact ⟨_, true, fun _ => (by rw [bs_size, List.length_map]; exact (bsz7 x).symm), fun w => specSwap_yes x ⟨#[120]⟩ ⟨#[121]⟩ (by decide) (by decide) w h (.inl rfl) (.inr (.inl rfl))⟩
  · exact ⟨_, false, fun h => (by cases h), fun w => specSwap_no x ⟨#[120]⟩ ⟨#[121]⟩ w (by decide) (by decide) (fun k => h k.1)⟩
theorem Rd.below7 {a p : Nat} {w w' : World} (h : Rd a p w) (hb : Below w.heap.size w w') : Rd a p w' ∧ Kp a w w' := ⟨h.kept hb, Kp.of hb⟩
set_option maxRecDepth 100000 in
set_option maxHeartbeats 8000000 in
theorem pair7 {a p : Nat} (b : Bool) {w : World} (hr : Rd a p w) (hp : p ≤ 200000) :
    Calls Tryz.prog 234 #[.pointer (some ⟨a, 0, none⟩), .bool b] w (SevPost a p w) := by
  have HR := Lib.hid hr
  clear hr
  have C := Lib.hid (pick_any 2 HR.out (by omega) (by omega) (by omega))
  go_enter Tryz.func234, Tryz.ntmps234
  go_wp2_with fail
  refine C.out.mono ?_
  rintro e w1 ⟨k, k0, k1, rfl, hr, hk⟩
  have HR1 := Lib.hid hr
  have HK1 := Lib.hid hk
  clear hr hk C
  have ew : IntKind.i64.wrap (1 + k) = 1 + k := IntWalk.i64_in _ (by omega)
  have HC := Lib.hid (dP_any ⟨#[120, 121, 122]⟩ (by decide) (by decide) b (1 + k) (by omega) (by omega) HR1.out (by omega))
  go_wp2_with fail
  refine HC.out.mono ?_
  rintro e w3 ⟨x, q, x1, x2, hq, rfl, hr, hk⟩
  have HR3 := Lib.hid hr
  have HK3 := Lib.hid (HK1.out.trans hk)
  clear hr hk HC
  have C := Lib.hid (pick_any 4 HR3.out (by omega) (by omega) (by omega))
  go_wp2_with fail
  refine C.out.mono ?_
  rintro e w4 ⟨m, m0, m1, rfl, hr, hk⟩
  have HR4 := Lib.hid hr
  have HK4 := Lib.hid (HK3.out.trans hk)
  clear hr hk C
  by_cases e0 : m = 0
  · subst e0
    go_wp2_with fail
    go_ret2
    exact ⟨_, _, _, ⟨by omega, by omega⟩, ⟨by omega, by omega⟩, by omega, rfl, HR4.out, HK4.out⟩
  have n0 : (m == 0) = false := by simpa using e0
  by_cases e1 : m = 1
  · subst e1
    obtain ⟨y, c, hy, hc⟩ := swap_any7 x
    have HC := fun w => Lib.hid (hc w)
    clear hc
    cases c with
    | true =>
      have hy2 := Lib.hid (hy rfl)
      clear hy
      go_wp2_with fail
      refine (HC _).out.mono ?_
      rintro e w5 ⟨rfl, hb⟩
      obtain ⟨hr, hk⟩ := HR4.out.below7 hb
      have HR5 := Lib.hid hr
      have HK5 := Lib.hid (HK4.out.trans hk)
      clear hr hk hb HC
      go_wp2_with fail
      go_ret2
      exact ⟨_, _, _, ⟨by omega, by omega⟩, by rw [hy2.out]; exact ⟨by omega, by omega⟩, by omega, rfl, HR5.out, HK5.out⟩
    | false =>
      clear hy
      go_wp2_with fail
      refine (HC _).out.mono ?_
      rintro e w5 ⟨rfl, hb⟩
      obtain ⟨hr, hk⟩ := HR4.out.below7 hb
      have HR5 := Lib.hid hr
      have HK5 := Lib.hid (HK4.out.trans hk)
      clear hr hk hb HC
      have C := Lib.hid (pick_any 2 HR5.out (by omega) (by omega) (by omega))
      go_wp2_with fail
      refine C.out.mono ?_
      rintro e w6 ⟨k', k0', k1', rfl, hr, hk⟩
      have HR6 := Lib.hid hr
      have HK6 := Lib.hid (HK5.out.trans hk)
      clear hr hk C
      have ew' : IntKind.i64.wrap (1 + k') = 1 + k' := IntWalk.i64_in _ (by omega)
      have HC := Lib.hid (dP_any ⟨#[120, 121, 122]⟩ (by decide) (by decide) b (1 + k') (by omega) (by omega) HR6.out (by omega))
      go_wp2_with fail
      refine HC.out.mono ?_
      rintro e w7 ⟨y, q', y1, y2, hq', rfl, hr, hk⟩
      have HR7 := Lib.hid hr
      have HK7 := Lib.hid (HK6.out.trans hk)
      clear hr hk HC
      go_wp2_with fail
      go_ret2
      exact ⟨_, _, q', ⟨by omega, by omega⟩, ⟨by omega, by omega⟩, by omega, rfl, HR7.out, HK7.out⟩
  have n1 : (m == 1) = false := by simpa using e1
  by_cases e2 : m = 2
  · subst e2
    have HC := fun w => Lib.hid (specSub 49 x ⟨#[50]⟩ w (by omega) (by decide))
    have HZ := Lib.hid (sub_size7 x (by omega) (by omega))
    generalize bs (sub1 49 (⟨#[50]⟩ : ByteArray).data.toList x.data.toList) = y at *
    go_wp2_with fail
    refine (HC _).out.mono ?_
    rintro e w5 ⟨rfl, rfl⟩
    go_wp2_with fail
    go_ret2
    exact ⟨_, _, _, ⟨by omega, by omega⟩, HZ.out, by omega, rfl, HR4.out, HK4.out⟩
  have n2 : (m == 2) = false := by simpa using e2
  have HR5 := HR4
  have HK5 := HK4
  clear HR4 HK4
  have C := Lib.hid (pick_any 2 HR5.out (by omega) (by omega) (by omega))
  go_wp2_with fail
  refine C.out.mono ?_
  rintro e w6 ⟨k', k0', k1', rfl, hr, hk⟩
  have HR6 := Lib.hid hr
  have HK6 := Lib.hid (HK5.out.trans hk)
  clear hr hk C
  have ew' : IntKind.i64.wrap (1 + k') = 1 + k' := IntWalk.i64_in _ (by omega)
  have HC := Lib.hid (dP_any ⟨#[120, 121, 122]⟩ (by decide) (by decide) b (1 + k') (by omega) (by omega) HR6.out (by omega))
  go_wp2_with fail
  refine HC.out.mono ?_
  rintro e w7 ⟨y, q', y1, y2, hq', rfl, hr, hk⟩
  have HR7 := Lib.hid hr
  have HK7 := Lib.hid (HK6.out.trans hk)
  clear hr hk HC
  go_wp2_with fail
  go_ret2
  exact ⟨_, _, q', ⟨by omega, by omega⟩, ⟨by omega, by omega⟩, by omega, rfl, HR7.out, HK7.out⟩

end Go.Proofs.YtgkoljphndgoeaaGreatDoor
