/-
  The laws' words on slices of strings: compared, filled with marks, looked at again.
-/
import Derived.Test.YtheclmdpiijakaaDoorRow
import Derived.Test.YtheclmdpiijakaaDoorStrs
import Derived.Test.YtheclmdpiijakaaDoorTopB
import Derived.BigQuiet
import Derived.Deep.QuietTactic
import Derived.Laws.BytesString
import Derived.Deep.RegionHeld3
namespace Go.Proofs.YtheclmdpiijakaaDoor
open Go.RowKit

/-- The digits of a number. -/
def dg (k : Nat) : List UInt8 := if _h : k = 0 then [] else dg (k / 10) ++ [UInt8.ofNat (48 + k % 10)]
termination_by k
decreasing_by omega
theorem dg_zero : dg 0 = [] := by rw [dg]; simp
theorem dg_pos {k : Nat} (h : 0 < k) : dg k = dg (k / 10) ++ [UInt8.ofNat (48 + k % 10)] := by
  rw [dg]; simp; omega
theorem dg_len (k : Nat) : (dg k).length ≤ k := by
  induction k using Nat.strongRecOn with
  | _ k ih =>
    by_cases h : k = 0
    · subst h; rw [dg_zero]; simp
    · rw [dg_pos (by omega)]
      have := ih (k / 10) (by omega)
      simp; omega
def mkt (k : Nat) : List UInt8 := 109 :: dg k

theorem conv_one (W : World) (c : UInt8) : (convert 22 9 (.slice (some ⟨W.heap.size, 0, none⟩) 1 1)).run Tryd.prog (W.alloc (.cells #[.int .u8 c.toNat] 5)) = .ok (.string (bs [c])) (W.alloc (.cells #[.int .u8 c.toNat] 5)) := by
  rw [run_convert_bytes_string _ _ _ 5 _ _ _ Tryd.underlying22 Tryd.underlying5 Tryd.underlying9]
  rw [run_bytesToString _ _ 1 1 [(c.toNat : Int)] (by simp [go_sem])]
  congr 2
  apply ByteArray.ext
  simp [bs]

set_option maxRecDepth 100000 in
set_option maxHeartbeats 4000000 in
theorem mark_any (k : Nat) (w : World) (h1 : 1 ≤ k) (h2 : k ≤ 1000000) : Calls Tryd.prog 66 #[.int .i64 k] w fun e w' => e = .returned (.string (bs (mkt k))) ∧ Below w.heap.size w w' := by
  have hk : (1 : Int) ≤ (k : Int) := by omega
  have hk0 : ¬ (k : Int) ≤ 0 := by omega
  go_enter Tryd.func66, Tryd.ntmps66
  go_wp2_with fail
  go_loopw [0, 3] (fun v0 v3 wr => ∃ (n : Nat) (t : List UInt8), n ≤ k ∧ v0 = .int .i64 n ∧ v3 = .string (bs t) ∧ Hid (dg k = dg n ++ t) ∧ Hid (Below w.heap.size w wr)) (fun v0 _ _ => (intOf v0).toNat)
  case atStart => exact ⟨k, [], Nat.le_refl _, rfl, rfl, by show _ = _; simp, Below.refl _ _⟩
  case round =>
    obtain ⟨n, t, hn, rfl, rfl, HD, HB⟩ := hrel
    have hlen : (bs t).size ≤ 1000000 := by
      rw [bs_size]
      have := congrArg List.length HD.out
      have := dg_len k
      simp at *; omega
    by_cases hp : 0 < n
    · have hp1 : (0 : Int) < (n : Int) := by omega
      have hp0 : (0 : Int) ≤ (n : Int) := by omega
      have hb1 : (0 : Int) ≤ (n : Int) % 10 := by omega
      have hb2 : (n : Int) % 10 < 10 := by omega
      have hcv := conv_one wr (UInt8.ofNat (48 + n % 10))
      have hu : ((UInt8.ofNat (48 + n % 10)).toNat : Int) = 48 + (n : Int) % 10 := by
        rw [UInt8.toNat_ofNat_of_lt' (by show _ < 256; omega)]; omega
      have HU := Lib.hid hu
      have e1 : (bs [UInt8.ofNat (48 + n % 10)]).size ≤ 1 := by rw [bs_size]; simp
      have HC : Hid (bs [UInt8.ofNat (48 + n % 10)] ++ bs t = bs (UInt8.ofNat (48 + n % 10) :: t)) := by show _ = _; rw [bs_append]; rfl
      have HD2 : Hid (dg k = dg (n / 10) ++ (UInt8.ofNat (48 + n % 10) :: t)) := by show _ = _; rw [HD.out, dg_pos hp]; simp
      rw [hu] at hcv
      clear hu HD
      generalize bs [UInt8.ofNat (48 + n % 10)] = D at *
      generalize bs t = TT at *
      have f0 : ¬ (9223372036854775807 < D.size + TT.size) := by omega
      go_wp2_with fail
      exact ⟨⟨n / 10, UInt8.ofNat (48 + n % 10) :: t, by omega, by go_num, by rw [HC.out], HD2, bput HB.out _⟩, by simp [intOf]; omega⟩
    · obtain rfl : n = 0 := by omega
      have HR : Hid (ByteArray.mk #[109] ++ bs t = bs (mkt k)) := by
        show _ = _
        have e : dg k = t := by rw [HD.out, dg_zero]; rfl
        unfold mkt
        rw [e, show ByteArray.mk #[109] = bs [109] from rfl, bs_append]; rfl
      clear hp HD
      generalize bs t = TT at *
      have f0 : ¬ (9223372036854775807 < 1 + TT.size) := by omega
      go_wp2_with fail
      go_ret
      exact ⟨by rw [← HR.out]; rfl, HB.out⟩

theorem row_forms {w : World} {B : Nat} {T : TypeId} {v : Value} {ls : List (List UInt8)} (h : Row w B T v (strs ls)) : ∃ a cap, v = .slice a ls.length cap ∧ ∀ (m : Nat) (hm : m < ls.length), ∃ g, a = some ⟨g, 0, none⟩ ∧ B ≤ g ∧ w.cell? ⟨g, m, none⟩ = some (.string (bs ls[m])) := by
  have hl : (strs ls).length = ls.length := by simp [strs]
  rcases h.cases with ⟨h1, h2⟩ | ⟨g, cap, h1, hb, _, h3⟩
  · have : ls = [] := by
      rw [h2] at hl
      exact List.eq_nil_of_length_eq_zero hl.symm
    subst this
    exact ⟨_, _, h1, fun m hm => by simp at hm⟩
  · rw [hl] at h1
    exact ⟨_, _, h1, fun m hm => ⟨g, rfl, hb, h3 m _ (by simp [strs, List.getElem?_eq_getElem hm])⟩⟩

set_option maxRecDepth 100000 in
set_option maxHeartbeats 4000000 in
theorem eqS_any (w : World) (B1 B2 : Nat) (a b : Value) (ls : List (List UInt8)) (hn : ls.length ≤ 1000) (h1 : Row w B1 9 a (strs ls)) (h2 : Row w B2 9 b (strs ls)) :
    Calls Tryd.prog 27 #[a, b] w fun e w' => e = .returned (.bool true) ∧ Below w.heap.size w w' := by
  obtain ⟨pa, ca, rfl, ha⟩ := row_forms h1
  obtain ⟨pb, cb, rfl, hb⟩ := row_forms h2
  have HA := Lib.hid ha
  have HB := Lib.hid hb
  clear h1 h2 ha hb
  go_enter Tryd.func27, Tryd.ntmps27
  go_wp2_with fail
  go_loopw [5] (fun v5 wr => ∃ m : Nat, m ≤ ls.length ∧ v5 = .int .i64 m ∧ Hid (Below w.heap.size w wr)) (fun v5 _ => ls.length - (intOf v5).toNat)
  case atStart => exact ⟨0, Nat.zero_le _, rfl, Below.refl _ _⟩
  case round =>
    obtain ⟨m, hm, rfl, HW⟩ := hrel
    by_cases hlt : m < ls.length
    · obtain ⟨g, rfl, _, hc⟩ := HA.out m hlt
      obtain ⟨g2, rfl, _, hc2⟩ := HB.out m hlt
      have hc := ckeep HW.out hc
      have hc2 := ckeep HW.out hc2
      have h0 : (0 : Int) ≤ (m : Int) := by omega
      have h1 : (m : Int) < (ls.length : Int) := by omega
      generalize bs ls[m] = X at *
      go_wp2_with fail
      go_quiet (fail)
      have HW2 := Lib.hid (bdrewN HW.out nq)
      clear hc hc2
      go_wp2_with fail
      go_roundw
      case rel => exact ⟨m + 1, hlt, by go_num, HW2⟩
      case measure => simp [intOf]; omega
    · have h1 : ¬ (m : Int) < (ls.length : Int) := by omega
      go_wp2_with fail
      go_ret
      exact ⟨rfl, HW.out⟩

/-- The marks from k on. -/
def mks (k : Nat) : Nat → List (List UInt8)
  | 0 => []
  | n + 1 => mks k n ++ [mkt (k + n)]
theorem mks_len (k n : Nat) : (mks k n).length = n := by
  induction n with
  | zero => rfl
  | succ n ih => simp [mks, ih]
theorem mks_at (k n m : Nat) (h : m < n) : (mks k n)[m]'(by rw [mks_len]; exact h) = mkt (k + m) := by
  induction n with
  | zero => omega
  | succ n ih =>
    simp only [mks]
    by_cases e : m < n
    · rw [List.getElem_append_left (by rw [mks_len]; exact e)]; exact ih e
    · obtain rfl : m = n := by omega
      rw [List.getElem_append_right (by rw [mks_len]; omega)]; simp [mks_len]
theorem mks_step (k m : Nat) (ls : List (List UInt8)) (h : m < ls.length) : (mks k m ++ ls.drop m).set m (mkt (k + m)) = mks k (m + 1) ++ ls.drop (m + 1) := by
  rw [List.set_append_right _ _ (by rw [mks_len]; omega), mks_len, Nat.sub_self, List.drop_eq_getElem_cons h, List.set_cons_zero]
  simp [mks]

theorem Row.store {w : World} {B : Nat} {T : TypeId} {g n cap : Nat} {xs : List Value} (hn : n = xs.length) (h : Row w B T (.slice (some ⟨g, 0, none⟩) n cap) xs) (j : Nat) (u : Value) : Row (w.setCell ⟨g, j, none⟩ u) B T (.slice (some ⟨g, 0, none⟩) n cap) (xs.set j u) := by
  subst hn
  have := World.ownsRow.stored (show World.ownsRow _ _ _ _ _ _ _ from h) j u
  unfold Row
  rw [List.length_set]
  exact this.1

set_option maxRecDepth 100000 in
set_option maxHeartbeats 4000000 in
theorem markS_any (w : World) (B : Nat) (a : Value) (ls : List (List UInt8)) (k : Nat) (hk : 1 ≤ k) (hk2 : k ≤ 1000) (hn : ls.length ≤ 1000) (h1 : Row w B 9 a (strs ls)) :
    Calls Tryd.prog 28 #[a, .int .i64 k] w fun e w' => e = .returned (.int .i64 (k + ls.length : Nat)) ∧ Row w' B 9 a (strs (mks k ls.length)) ∧ Below B w w' := by
  have hl : (strs ls).length = ls.length := by simp [strs]
  rcases h1.cases with ⟨rfl, h2⟩ | ⟨g, cap, rfl, hb, _, _⟩
  · have hls : ls = [] := by
      rw [h2] at hl
      exact List.eq_nil_of_length_eq_zero hl.symm
    subst hls
    clear h2 hl
    go_enter Tryd.func28, Tryd.ntmps28
    go_wp2_with fail
    refine wp_loop_rounds 1 ?_
    rw [rounds_succ]
    go_wp2_with fail
    go_ret
    exact ⟨rfl, h1, Below.refl _ _⟩
  · rw [hl] at h1 ⊢
    have HR : Hid (Row w B 9 (.slice (some ⟨g, 0, none⟩) ls.length cap) (strs (mks k 0 ++ ls.drop 0))) := by
      show Row _ _ _ _ _
      simpa [mks] using h1
    clear h1
    go_enter Tryd.func28, Tryd.ntmps28
    go_wp2_with fail
    go_loopw [1, 5] (fun v1 v5 wr => ∃ m : Nat, m ≤ ls.length ∧ v5 = .int .i64 m ∧ v1 = .int .i64 (k + m : Nat) ∧ Hid (Row wr B 9 (.slice (some ⟨g, 0, none⟩) ls.length cap) (strs (mks k m ++ ls.drop m))) ∧ Hid (Below B w wr ∧ B ≤ wr.heap.size)) (fun _ v5 _ => ls.length - (intOf v5).toNat)
    case atStart => exact ⟨0, Nat.zero_le _, rfl, rfl, HR, Below.refl _ _, by have := (World.ownsRow.lt HR.out g (by rfl)); omega⟩
    case round =>
      obtain ⟨m, hm, rfl, rfl, HR1, HB1⟩ := hrel
      by_cases hlt : m < ls.length
      · have hlx : (strs (mks k m ++ ls.drop m)).length = ls.length := by simp [strs, mks_len]; omega
        have HMK := fun w => Lib.hid (mark_any (k + m) w (by omega) (by omega))
        have HST : Hid (strs (mks k (m + 1) ++ ls.drop (m + 1)) = (strs (mks k m ++ ls.drop m)).set m (.string (bs (mkt (k + m))))) := by
          show _ = _
          rw [← mks_step k m ls hlt]
          unfold strs
          rw [List.map_set]
        have HLX := Lib.hid hlx
        have h0 : (0 : Int) ≤ (m : Int) := by omega
        have h1 : (m : Int) < (ls.length : Int) := by omega
        clear hlx
        generalize strs (mks k m ++ ls.drop m) = X at *
        generalize bs (mkt (k + m)) = MT at *
        go_wp2_with fail
        refine (HMK _).out.mono ?_
        rintro e w2 ⟨rfl, hb2⟩
        have hr2 := HR1.out.kept hb2
        have hc : w2.cell? ⟨g, m, none⟩ = some (X[m]'(by rw [HLX.out]; exact hlt)) := by
          rw [World.ownsRow.cellAt (show World.ownsRow _ _ _ _ (.slice (some ⟨g, 0, none⟩) ls.length cap) ls.length _ by have := hr2; unfold Row at this; rw [HLX.out] at this; exact this) m (by omega)]
          rw [List.getElem?_eq_getElem]
        have hf : w2.frozen? ⟨g, m, none⟩ = false := World.ownsRow.frozenAt (show World.ownsRow _ _ _ _ (.slice (some ⟨g, 0, none⟩) ls.length cap) ls.length _ by have := hr2; unfold Row at this; rw [HLX.out] at this; exact this) m
        have hr3 := Row.store HLX.out.symm hr2 m (.string MT)
        have hb3 := (HB1.out.1.trans (hb2.mono HB1.out.2)).setCell (p := ⟨g, m, none⟩) hb (.string MT)
        have hs3 : B ≤ w2.heap.size := Nat.le_trans HB1.out.2 hb2.size
        rw [← HST.out] at hr3
        have HR3 := Lib.hid hr3
        have HB3 := Lib.hid hb3
        have HS3 := Lib.hid hs3
        clear hb2 hr2 hr3 hb3 hs3 HST
        generalize X[m]'(by rw [HLX.out]; exact hlt) = xv at *
        go_wp2_with fail
        exact ⟨⟨m + 1, hlt, by go_num, by go_num, HR3, HB3.out, by have := HS3.out; simpa [World.setCell] using this⟩, by simp [intOf]; omega⟩
      · have h1 : ¬ (m : Int) < (ls.length : Int) := by omega
        have hme : m = ls.length := by omega
        have hr := HR1.out
        rw [hme, List.drop_of_length_le (Nat.le_refl _), List.append_nil] at hr
        have HF := Lib.hid hr
        have HM : Hid (Ending.returned (.int .i64 ((k : Int) + (m : Int))) = .returned (.int .i64 ((k + ls.length : Nat) : Int))) := by show _ = _; rw [hme]; rfl
        clear hr HR1 hme
        go_wp2_with fail
        go_ret
        exact ⟨HM.out, HF.out, HB1.out.1⟩

set_option maxRecDepth 100000 in
set_option maxHeartbeats 4000000 in
theorem heldS_any (w : World) (B : Nat) (a : Value) (n k : Nat) (hk : 1 ≤ k) (hk2 : k ≤ 1000) (hn : n ≤ 1000) (h1 : Row w B 9 a (strs (mks k n))) :
    Calls Tryd.prog 29 #[a, .int .i64 k] w fun e w' => e = .returned (.int .i64 (k + n : Nat)) ∧ Below w.heap.size w w' := by
  obtain ⟨pa, ca, rfl, ha⟩ := row_forms h1
  have HA := Lib.hid ha
  have HLM := Lib.hid (mks_len k n)
  clear h1 ha
  rw [HLM.out]
  go_enter Tryd.func29, Tryd.ntmps29
  go_wp2_with fail
  go_loopw [1, 5] (fun v1 v5 wr => ∃ m : Nat, m ≤ n ∧ v5 = .int .i64 m ∧ v1 = .int .i64 (k + m : Nat) ∧ Hid (Below w.heap.size w wr)) (fun _ v5 _ => n - (intOf v5).toNat)
  case atStart => exact ⟨0, Nat.zero_le _, rfl, rfl, Below.refl _ _⟩
  case round =>
    obtain ⟨m, hm, rfl, rfl, HW⟩ := hrel
    by_cases hlt : m < n
    · obtain ⟨g, rfl, _, hc⟩ := HA.out m (by rw [HLM.out]; exact hlt)
      rw [mks_at k n m hlt] at hc
      have hc := ckeep HW.out hc
      have hmk := fun w => mark_any (k + m) w (by omega) (by omega)
      rw [Int.natCast_add] at hmk
      have HMK := Lib.hid hmk
      clear hmk
      have h0 : (0 : Int) ≤ (m : Int) := by omega
      have h1 : (m : Int) < (n : Int) := by omega
      have hB' := HW.out.drew
      have hB0 := HW.out
      generalize bs (mkt (k + m)) = MT at *
      go_wp2_with fail
      go_region_held3 (fun w' => Below w.heap.size w w' ∧ w'.cell? ⟨g, m, none⟩ = some (.string MT))
        ((go_split_ands; refine ⟨?_, ?_⟩ <;> first | assumption | exact ckeep hq (by assumption) | exact Below.trans (by assumption) (hq.mono (by have := Below.size (by assumption : Below w.heap.size w _); omega))))
        (first | (go_at_call 66; (with_reducible refine (HMK.out _).mono ?_); rintro e w2 ⟨rfl, hq⟩))
      all_goals
        go_split_ands
        go_wp2_with fail
        go_roundw
        case rel => exact ⟨m + 1, hlt, by go_num, by go_num, by show Below _ _ _; assumption⟩
        case measure => simp [intOf]; omega
    · have h1 : ¬ (m : Int) < (n : Int) := by omega
      have hme : m = n := by omega
      have HM : Hid (Ending.returned (.int .i64 ((k : Int) + (m : Int))) = .returned (.int .i64 ((k + n : Nat) : Int))) := by show _ = _; rw [hme]; rfl
      clear hme
      go_wp2_with fail
      go_ret
      exact ⟨HM.out, HW.out⟩
end Go.Proofs.YtheclmdpiijakaaDoor
