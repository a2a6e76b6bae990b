/-
  FirstPair: the program and the model.
-/
import Derived.Test.YtheclmdpiijakaaDoorFst
import Derived.Test.YtheclmdpiijakaaDoorRs
namespace Go.Proofs.YtheclmdpiijakaaDoor
open Go.RowKit Go.Great

set_option maxHeartbeats 1000000 in
theorem specRelVf_yes (s : ByteArray) (hs : Rel729 s) (w : World) : Calls Tryd.prog 56 #[.string s] w fun e w' => e = .returned (.bool true) ∧ w = w' := by
  have C := fun w => Lib.hid (specBits_yes s 729 w hs (by omega))
  go_enter Tryd.func56, Tryd.ntmps56
  go_wp2_with fail
  refine (C _).out.mono ?_
  rintro e w' ⟨rfl, rfl⟩
  go_wp2_with fail
  go_ret
  exact ⟨rfl, rfl⟩
set_option maxHeartbeats 1000000 in
theorem specRelVf_no (s : ByteArray) (hs : ¬ Rel729 s) (hm : s.size ≤ maxLen) (w : World) : Calls Tryd.prog 56 #[.string s] w fun e w' => e = .returned (.bool false) ∧ w = w' := by
  have C := fun w => Lib.hid (specBits_no s 729 w hs hm (by omega))
  clear hs
  go_enter Tryd.func56, Tryd.ntmps56
  go_wp2_with fail
  refine (C _).out.mono ?_
  rintro e w' ⟨rfl, rfl⟩
  go_wp2_with fail
  go_ret
  exact ⟨rfl, rfl⟩

def zs3 : Array Value := #[.int .i64 0, .int .i64 0, .int .i64 0]

set_option maxRecDepth 100000 in
set_option maxHeartbeats 8000000 in
theorem implFP_of (s : ByteArray) (T : Nat → Nat → Bool) (ok : Bool) (a0 a1 a2 b0 b1 b2 : Int) (c : Bool) (w : World) (hT : Tab32 w)
    (R : ∀ w, Calls Tryd.prog 41 #[.string s] w (ReadPost T ok w))
    (D : ∀ w, Tab32 w → Calls Tryd.prog 55 #[.agg (relC .u32 T)] w fun e w' => e = .returned (.tuple #[.agg #[.int .i64 a0, .int .i64 a1, .int .i64 a2], .agg #[.int .i64 b0, .int .i64 b1, .int .i64 b2], .bool c]) ∧ Below w.heap.size w w') :
    Calls Tryd.prog 21 #[.string s] w fun e w' => e = .returned (.tuple #[.agg #[.int .i64 a0, .int .i64 a1, .int .i64 a2], .agg #[.int .i64 b0, .int .i64 b1, .int .i64 b2], .bool c]) ∧ Below w.heap.size w w' := by
  obtain ⟨k1, k2, kb, kz⟩ := two_blk w #[.int .i64 0, .int .i64 0, .int .i64 0] #[.int .i64 0, .int .i64 0, .int .i64 0] 32 32
  have K1 := Lib.hid k1
  have K2 := Lib.hid k2
  have KB := Lib.hid kb
  have HT := Lib.hid hT
  have R' := Lib.hid R
  have D' := Lib.hid D
  clear k1 k2 kb kz hT R D
  go_enter Tryd.func21, Tryd.ntmps21
  go_wp2_with fail
  generalize (w.alloc (.cells #[.int .i64 0, .int .i64 0, .int .i64 0] 32)).alloc (.cells #[.int .i64 0, .int .i64 0, .int .i64 0] 32) = w0 at *
  refine (R'.out _).mono ?_
  rintro e w1 ⟨rfl, hb⟩
  obtain ⟨p0, pb⟩ := push_blk w1 (relC .u32 noR) (relC .u32 T) 57
  have P0 := Lib.hid p0
  replace K1 := Lib.hid ((K1.out.kept hb).kept pb)
  replace K2 := Lib.hid ((K2.out.kept hb).kept pb)
  replace KB := Lib.hid (bnext (bnext KB.out hb) pb)
  have L0 := Lib.hid (one_blk w1 (relC .u32 noR) 57).1
  clear p0 pb hb
  go_wp2_with (first
    | (refine r_alloc rfl rfl (some 5) rfl w1.heap.size rfl ?_)
    | (refine wpList_store_row rfl 57 _ _ rfl w1.heap.size (relC .u32 T) (by rfl) (by rfl) 57 (relC .u32 noR) L0.out (infoR _) (by first | rw [relC_size, relC_size] | rw [relC_size]) (relC_one _ _) ?_)
    | (refine wpList_load_row rfl 57 _ rfl w1.heap.size (by rfl) 57 (relC .u32 T) (0, 0) _ P0.out undR rfl (infoR _) ?_))
  generalize (w1.alloc (.cells (relC .u32 noR) 57)).setRow w1.heap.size (relC .u32 T) = wx at *
  refine (D'.out _ (HT.out.below KB.out)).mono ?_
  rintro e w3 ⟨rfl, hb⟩
  have T1 := K1.out.kept hb
  have T2 := K2.out.kept hb
  have RB := Lib.hid (bnext KB.out hb)
  obtain ⟨g0, g1, g2, f0, f1, f2⟩ := T1.a3
  obtain ⟨g3, g4, g5, f3, f4, f5⟩ := T2.a3
  have TT1 := Lib.hid T1
  have TT2 := Lib.hid T2
  clear hb T1 T2 L0 P0 K1 K2 KB
  go_wp2_with fail
  have F1 : Blk _ _ #[.int .i64 a0, .int .i64 a1, .int .i64 a2] _ := ((((((TT1.out.set 0 (.int .i64 a0)).set 1 (.int .i64 a1)).set 2 (.int .i64 a2)).setOther (p := ⟨w.heap.size + 1, 0, none⟩) (by show w.heap.size ≠ w.heap.size + 1; omega) (.int .i64 b0)).setOther (p := ⟨w.heap.size + 1, 1, none⟩) (by show w.heap.size ≠ w.heap.size + 1; omega) (.int .i64 b1)).setOther (p := ⟨w.heap.size + 1, 2, none⟩) (by show w.heap.size ≠ w.heap.size + 1; omega) (.int .i64 b2))
  have F2 : Blk _ _ #[.int .i64 b0, .int .i64 b1, .int .i64 b2] _ := ((((((TT2.out.setOther (p := ⟨w.heap.size, 0, none⟩) (by show w.heap.size + 1 ≠ w.heap.size; omega) (.int .i64 a0)).setOther (p := ⟨w.heap.size, 1, none⟩) (by show w.heap.size + 1 ≠ w.heap.size; omega) (.int .i64 a1)).setOther (p := ⟨w.heap.size, 2, none⟩) (by show w.heap.size + 1 ≠ w.heap.size; omega) (.int .i64 a2)).set 0 (.int .i64 b0)).set 1 (.int .i64 b1)).set 2 (.int .i64 b2))
  obtain ⟨r0, r1, r2⟩ := F1.c3
  obtain ⟨r3, r4, r5⟩ := F2.c3
  have RF := ((((((RB.out.setCell (p := ⟨w.heap.size, 0, none⟩) (by show w.heap.size ≤ w.heap.size; omega) (.int .i64 a0)).setCell (p := ⟨w.heap.size, 1, none⟩) (by show w.heap.size ≤ w.heap.size; omega) (.int .i64 a1)).setCell (p := ⟨w.heap.size, 2, none⟩) (by show w.heap.size ≤ w.heap.size; omega) (.int .i64 a2)).setCell (p := ⟨w.heap.size + 1, 0, none⟩) (by show w.heap.size ≤ w.heap.size + 1; omega) (.int .i64 b0)).setCell (p := ⟨w.heap.size + 1, 1, none⟩) (by show w.heap.size ≤ w.heap.size + 1; omega) (.int .i64 b1)).setCell (p := ⟨w.heap.size + 1, 2, none⟩) (by show w.heap.size ≤ w.heap.size + 1; omega) (.int .i64 b2))
  exact bodyPost_ret (v := .tuple #[.agg #[.int .i64 a0, .int .i64 a1, .int .i64 a2], .agg #[.int .i64 b0, .int .i64 b1, .int .i64 b2], .bool c]) (by simp [results, Tryd.results21, go_sem, r0, r1, r2, r3, r4, r5]) rfl ⟨rfl, RF⟩

theorem fnd_at {l : List UInt8} {k : Nat} (hk : hs l k = true) (hb : ∀ j, j < k → hs l j = false) : fnd l 49 = k := by
  have hk2 : k < l.length := by
    rcases Nat.lt_or_ge k l.length with h | h
    · exact h
    · unfold hs at hk; rw [List.getElem?_eq_none h] at hk; simp at hk
  refine fnd_hit hk2 ?_ ?_
  · unfold hs at hk
    rw [List.getElem?_eq_getElem hk2] at hk
    simpa using hk
  · intro j hj e
    have := hb j hj
    unfold hs at this
    rw [e] at this
    simp at this

set_option maxRecDepth 100000 in
set_option maxHeartbeats 8000000 in
theorem specFP_yes (p : ByteArray) (i j : Nat) (w : World) (hp : Rel729 p) (hk : PFirst (relS p.data.toList) i j) (hm : p.size ≤ maxLen) :
    Calls Tryd.prog 22 #[.string p] w fun e w' => e = .returned (.tuple #[.agg #[.int .i64 (ax i), .int .i64 (ay i), .int .i64 (az i)], .agg #[.int .i64 (ax j), .int .i64 (ay j), .int .i64 (az j)], .bool true]) ∧ Below w.heap.size w w' := by
  obtain ⟨hi, ⟨hj, h1, h2⟩, h3⟩ := hk
  have C := fun w => Lib.hid (specRelVf_yes p hp w)
  have D := fun w => Lib.hid (specCount0 p 729 w hp (by omega))
  obtain ⟨n, hn⟩ : ∃ n : Nat, n = 27 * i + j := ⟨_, rfl⟩
  have hh : hs p.data.toList n = true := by rw [hn]; exact h1
  have hbf : ∀ m, m < n → hs p.data.toList m = false := by
    intro m hm
    have e : m = 27 * (m / 27) + m % 27 := by omega
    by_cases hq : m / 27 < i
    · rw [e]; exact h3 _ hq _ (by omega)
    · have e2 : m / 27 = i := by omega
      rw [e, e2]; exact h2 _ (by omega)
  have hF : ∀ w, Calls Tryd.prog 58 #[.string p, .int .u8 49] w fun e w' => e = .returned (.int .i64 n) ∧ w = w' := fun w => by
    have h := find_any p 49 w hm
    rw [fnd_at hh hbf] at h
    exact h
  have hF := Lib.hid hF
  have hc := cnt_pos (n := 729) (show n < 729 by omega) hh
  obtain ⟨c, hcc⟩ : ∃ c, cnt 729 (hs p.data.toList) = c := ⟨_, rfl⟩
  rw [hcc] at D hc
  have hc0 : ((c : Int) == 0) = false := by rw [beq_eq_false_iff_ne]; omega
  have E1 := fun w => Lib.hid (specAt0 i w (by omega) (by omega))
  have E2 := fun w => Lib.hid (specAt0 j w (by omega) (by omega))
  have hr : ((n : Int)).tmod 27 = (j : Int) := by rw [Int.tmod_eq_emod_of_nonneg (by omega)]; omega
  have hq : ((n : Int)).tdiv 27 = (i : Int) := by rw [Int.tdiv_eq_ediv_of_nonneg (by omega)]; omega
  have hr' : ((n : Int)) % 27 = (j : Int) := by omega
  have hq' : ((n : Int)) / 27 = (i : Int) := by omega
  have hn0 : (0 : Int) ≤ (n : Int) := by omega
  obtain ⟨k1, k2, kb, kz⟩ := two_blk w #[.int .i64 0, .int .i64 0, .int .i64 0] #[.int .i64 0, .int .i64 0, .int .i64 0] 32 32
  have K1 := Lib.hid k1
  have K2 := Lib.hid k2
  have KB := Lib.hid kb
  clear hcc hc hbf hh h1 h2 h3 k1 k2 kb kz hn hm
  generalize ax i = a0 at *
  generalize ay i = a1 at *
  generalize az i = a2 at *
  generalize ax j = b0 at *
  generalize ay j = b1 at *
  generalize az j = b2 at *
  go_enter Tryd.func22, Tryd.ntmps22
  go_wp2_with fail
  generalize (w.alloc (.cells #[.int .i64 0, .int .i64 0, .int .i64 0] 32)).alloc (.cells #[.int .i64 0, .int .i64 0, .int .i64 0] 32) = w0 at *
  refine (C _).out.mono ?_
  rintro e w' ⟨rfl, rfl⟩
  go_wp2_with fail
  refine (D _).out.mono ?_
  rintro e w' ⟨rfl, rfl⟩
  go_wp2_with fail
  refine (hF.out _).mono ?_
  rintro e w' ⟨rfl, rfl⟩
  go_wp2_with fail
  refine (E1 _).out.mono ?_
  rintro e w1 ⟨rfl, hb⟩
  replace K1 := Lib.hid (K1.out.kept hb)
  replace K2 := Lib.hid (K2.out.kept hb)
  replace KB := Lib.hid (bnext KB.out hb)
  clear hb
  go_wp2_with fail
  refine (E2 _).out.mono ?_
  rintro e w2 ⟨rfl, hb⟩
  have T1 := K1.out.kept hb
  have T2 := K2.out.kept hb
  have RB := Lib.hid (bnext KB.out hb)
  obtain ⟨g0, g1, g2, f0, f1, f2⟩ := T1.a3
  obtain ⟨g3, g4, g5, f3, f4, f5⟩ := T2.a3
  have TT1 := Lib.hid T1
  have TT2 := Lib.hid T2
  clear hb T1 T2 K1 K2 KB
  go_wp2_with fail
  have F1 : Blk _ _ #[.int .i64 a0, .int .i64 a1, .int .i64 a2] _ := ((((((TT1.out.set 0 (.int .i64 a0)).set 1 (.int .i64 a1)).set 2 (.int .i64 a2)).setOther (p := ⟨w.heap.size + 1, 0, none⟩) (by show w.heap.size ≠ w.heap.size + 1; omega) (.int .i64 b0)).setOther (p := ⟨w.heap.size + 1, 1, none⟩) (by show w.heap.size ≠ w.heap.size + 1; omega) (.int .i64 b1)).setOther (p := ⟨w.heap.size + 1, 2, none⟩) (by show w.heap.size ≠ w.heap.size + 1; omega) (.int .i64 b2))
  have F2 : Blk _ _ #[.int .i64 b0, .int .i64 b1, .int .i64 b2] _ := ((((((TT2.out.setOther (p := ⟨w.heap.size, 0, none⟩) (by show w.heap.size + 1 ≠ w.heap.size; omega) (.int .i64 a0)).setOther (p := ⟨w.heap.size, 1, none⟩) (by show w.heap.size + 1 ≠ w.heap.size; omega) (.int .i64 a1)).setOther (p := ⟨w.heap.size, 2, none⟩) (by show w.heap.size + 1 ≠ w.heap.size; omega) (.int .i64 a2)).set 0 (.int .i64 b0)).set 1 (.int .i64 b1)).set 2 (.int .i64 b2))
  obtain ⟨r0, r1, r2⟩ := F1.c3
  obtain ⟨r3, r4, r5⟩ := F2.c3
  have RF := ((((((RB.out.setCell (p := ⟨w.heap.size, 0, none⟩) (by show w.heap.size ≤ w.heap.size; omega) (.int .i64 a0)).setCell (p := ⟨w.heap.size, 1, none⟩) (by show w.heap.size ≤ w.heap.size; omega) (.int .i64 a1)).setCell (p := ⟨w.heap.size, 2, none⟩) (by show w.heap.size ≤ w.heap.size; omega) (.int .i64 a2)).setCell (p := ⟨w.heap.size + 1, 0, none⟩) (by show w.heap.size ≤ w.heap.size + 1; omega) (.int .i64 b0)).setCell (p := ⟨w.heap.size + 1, 1, none⟩) (by show w.heap.size ≤ w.heap.size + 1; omega) (.int .i64 b1)).setCell (p := ⟨w.heap.size + 1, 2, none⟩) (by show w.heap.size ≤ w.heap.size + 1; omega) (.int .i64 b2))
  exact bodyPost_ret (v := .tuple #[.agg #[.int .i64 a0, .int .i64 a1, .int .i64 a2], .agg #[.int .i64 b0, .int .i64 b1, .int .i64 b2], .bool true]) (by simp [results, Tryd.results22, go_sem, r0, r1, r2, r3, r4, r5]) rfl ⟨rfl, RF⟩

set_option maxHeartbeats 2000000 in
theorem specFP_none (p : ByteArray) (w : World) (hp : Rel729 p) (hk : ∀ k, k < 27 → ∀ m, m < 27 → relS p.data.toList k m = false) :
    Calls Tryd.prog 22 #[.string p] w fun e w' => e = .returned (.tuple #[.agg #[.int .i64 0, .int .i64 0, .int .i64 0], .agg #[.int .i64 0, .int .i64 0, .int .i64 0], .bool false]) ∧ Below w.heap.size w w' := by
  have C := fun w => Lib.hid (specRelVf_yes p hp w)
  have D := fun w => Lib.hid (specCount0 p 729 w hp (by omega))
  rw [cnt_none (fun m hm => by
    have e : m = 27 * (m / 27) + m % 27 := by omega
    rw [e]; exact hk _ (by omega) _ (by omega))] at D
  clear hk
  go_enter Tryd.func22, Tryd.ntmps22
  go_wp2_with fail
  refine (C _).out.mono ?_
  rintro e w' ⟨rfl, rfl⟩
  go_wp2_with fail
  refine (D _).out.mono ?_
  rintro e w' ⟨rfl, rfl⟩
  go_wp2_with fail
  exact bodyPost_ret (v := .tuple #[.agg #[.int .i64 0, .int .i64 0, .int .i64 0], .agg #[.int .i64 0, .int .i64 0, .int .i64 0], .bool false]) (by simp [results, Tryd.results22, go_sem]) rfl ⟨rfl, ((Below.refl _ _).alloc (Nat.le_refl _) _).alloc (by simp) _⟩
set_option maxHeartbeats 2000000 in
theorem specFP_no (p : ByteArray) (w : World) (hp : ¬ Rel729 p) (hm : p.size ≤ maxLen) :
    Calls Tryd.prog 22 #[.string p] w fun e w' => e = .returned (.tuple #[.agg #[.int .i64 0, .int .i64 0, .int .i64 0], .agg #[.int .i64 0, .int .i64 0, .int .i64 0], .bool false]) ∧ Below w.heap.size w w' := by
  have C := fun w => Lib.hid (specRelVf_no p hp hm w)
  clear hp
  go_enter Tryd.func22, Tryd.ntmps22
  go_wp2_with fail
  refine (C _).out.mono ?_
  rintro e w' ⟨rfl, rfl⟩
  go_wp2_with fail
  exact bodyPost_ret (v := .tuple #[.agg #[.int .i64 0, .int .i64 0, .int .i64 0], .agg #[.int .i64 0, .int .i64 0, .int .i64 0], .bool false]) (by simp [results, Tryd.results22, go_sem]) rfl ⟨rfl, ((Below.refl _ _).alloc (Nat.le_refl _) _).alloc (by simp) _⟩
end Go.Proofs.YtheclmdpiijakaaDoor
