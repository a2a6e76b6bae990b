/-
  spec.l1Vars: the letters that occur in a text, in order.
-/
import Derived.Test.YtpdepihggpfmiaaDoorBytes
import Derived.Test.YtpdepihggpfmiaaDoorExpr
namespace Go.Proofs.YtpdepihggpfmiaaDoor
open Go.RowKit Tm

/-- Those of some letters that occur in a text. -/
def vlist (names l : List UInt8) : List UInt8 := names.filter fun c => decide (0 ≤ fnd l c)

set_option maxHeartbeats 2000000 in
theorem specVars (wide : Bool) (s : ByteArray) (w : World) (hs : s.size ≤ maxLen) : Calls Tryd.prog 47 #[.string s, .bool wide] w fun e w' => e = .returned (.string (bs (vlist (nm wide).data.toList s.data.toList))) ∧ w' = w := by
  have hnm6 : (nm wide).size ≤ 6 := by cases wide <;> decide
  go_enter Tryd.func47, Tryd.ntmps47
  go_wp2_with fail
  refine (names_any wide _).mono ?_
  rintro e w' ⟨rfl, rfl⟩
  go_wp2_with fail
  go_loop [5, 7] (fun out i => ∃ (k : Nat) (o : ByteArray), k ≤ (nm wide).size ∧ i = .int .i64 k ∧ out = .string o ∧ o.size ≤ k ∧ Hid (o = bs (vlist ((nm wide).data.toList.take k) s.data.toList))) (fun _ i => (nm wide).size - (intOf i).toNat)
  case atStart => exact ⟨0, bs [], Nat.zero_le _, rfl, rfl, by simp [bs, ByteArray.size], rfl⟩
  case round =>
    obtain ⟨k, o, hk, rfl, rfl, ho, HO⟩ := hrel
    by_cases hlt : k < (nm wide).size
    · have htake : (nm wide).data.toList.take (k + 1) = (nm wide).data.toList.take k ++ [(nm wide)[k]] := by
        rw [List.take_succ_eq_append_getElem (by simpa using hlt)]; rfl
      have hv : vlist ((nm wide).data.toList.take (k + 1)) s.data.toList = vlist ((nm wide).data.toList.take k) s.data.toList ++ (if 0 ≤ fnd s.data.toList (nm wide)[k] then [(nm wide)[k]] else []) := by
        rw [htake]; unfold vlist; rw [List.filter_append]; congr 1
        by_cases h : 0 ≤ fnd s.data.toList (nm wide)[k] <;> simp [h]
      have X := Lib.hid (extract_one (nm wide) k hlt)
      by_cases h : 0 ≤ fnd s.data.toList (nm wide)[k]
      · obtain ⟨n, hn⟩ := fnd_yes h
        have hn0 : (0 : Int) ≤ (n : Int) := by omega
        have K := fun w => Lib.hid (find_at hn w hs)
        rw [if_pos h] at hv
        have HV := Lib.hid hv
        clear h hn hv htake
        go_wp2_with fail
        refine (K _).out.mono ?_
        rintro e w' ⟨rfl, rfl⟩
        go_wp2_with fail
        go_round
        case rel => exact ⟨k + 1, o ++ (nm wide).extract k (k + 1), by omega, by go_num, rfl, by rw [X.out, ByteArray.size_append, bs_size]; simp; omega, by show _ = _; rw [X.out, HV.out, HO.out, bs_append]⟩
        case measure => simp [intOf]; omega
      · have K := fun w => Lib.hid (find_at (fnd_no h) w hs)
        rw [if_neg h, List.append_nil] at hv
        have HV := Lib.hid hv
        clear h hv htake
        go_wp2_with fail
        refine (K _).out.mono ?_
        rintro e w' ⟨rfl, rfl⟩
        go_wp2_with fail
        go_round
        case rel => exact ⟨k + 1, o, by omega, by go_num, rfl, by omega, by show _ = _; rw [HV.out, HO.out]⟩
        case measure => simp [intOf]; omega
    · have hfin : Hid (o = bs (vlist (nm wide).data.toList s.data.toList)) := by
        show _ = _
        rw [HO.out, List.take_of_length_le (by simp; omega)]
      go_wp2_with fail
      go_ret
      exact ⟨by rw [← hfin.out]; rfl, rfl⟩

end Go.Proofs.YtpdepihggpfmiaaDoor
