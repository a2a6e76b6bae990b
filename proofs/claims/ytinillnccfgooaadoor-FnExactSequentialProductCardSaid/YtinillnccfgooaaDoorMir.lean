/-
  impl.mirrored: strings.Map over otherLetter: at a text of ASCII bytes the letters of both states are exchanged.
-/
import Derived.Test.YtinillnccfgooaaDoorCas
import Derived.Test.YtinillnccfgooaaDoorShelf
import Derived.Lib.MapLaws
import Derived.Lib.TrimAscii
import Derived.Lib.RuneBytes
import Derived.Lib.LaidU8
namespace Go.Proofs.YtinillnccfgooaaDoor
open Go.RowKit Go.Lib

def swp (r : Int) : Int := if 120 ≤ r ∧ r ≤ 122 then r - 32 else if 88 ≤ r ∧ r ≤ 90 then r + 32 else r
theorem swp_bd {r m : Int} (h0 : 0 ≤ r) (h1 : r ≤ m) (h2 : 122 ≤ m) : 0 ≤ swp r ∧ swp r ≤ m := by
  unfold swp
  split
  · omega
  · split <;> omega

set_option maxHeartbeats 2000000 in
theorem other_any (r : Int) (w : World) : Calls Tryd.prog 84 #[.int .i32 r] w fun e w' => e = .returned (.int .i32 (swp r)) ∧ w' = w := by
  by_cases hA : 120 ≤ r ∧ r ≤ 122
  · have C := fun w => Lib.hid (Tryd.unicode_ToUpper r w (by omega))
    have e1 : Lib.toUpperR r = swp r := by unfold Lib.toUpperR swp; rw [if_pos (by omega), if_pos (by omega)]
    rw [e1] at C
    have h3 : r = 120 ∨ r = 121 ∨ r = 122 := by omega
    clear hA e1
    generalize swp r = R at *
    rcases h3 with rfl | rfl | rfl
    all_goals
      go_enter Tryd.func84, Tryd.ntmps84
      go_wp2_with fail
      refine (C _).out.mono ?_
      rintro e w2 ⟨rfl, rfl⟩
      go_wp2_with fail
      go_ret
      exact ⟨rfl, rfl⟩
  · by_cases hB : 88 ≤ r ∧ r ≤ 90
    · have C := fun w => Lib.hid (Tryd.unicode_ToLower r w (by omega))
      have e1 : Lib.toLowerR r = swp r := by unfold Lib.toLowerR swp; rw [if_pos (by omega), if_neg (by omega), if_pos (by omega)]
      rw [e1] at C
      have h3 : r = 88 ∨ r = 89 ∨ r = 90 := by omega
      clear hA hB e1
      generalize swp r = R at *
      rcases h3 with rfl | rfl | rfl
      all_goals
        go_enter Tryd.func84, Tryd.ntmps84
        go_wp2_with fail
        refine (C _).out.mono ?_
        rintro e w2 ⟨rfl, rfl⟩
        go_wp2_with fail
        go_ret
        exact ⟨rfl, rfl⟩
    · have e1 : swp r = r := by unfold swp; rw [if_neg hA, if_neg hB]
      rw [e1]
      have n1 : (r == 120) = false := by rw [beq_eq_false_iff_ne]; omega
      have n2 : (r == 121) = false := by rw [beq_eq_false_iff_ne]; omega
      have n3 : (r == 122) = false := by rw [beq_eq_false_iff_ne]; omega
      have n4 : (r == 88) = false := by rw [beq_eq_false_iff_ne]; omega
      have n5 : (r == 89) = false := by rw [beq_eq_false_iff_ne]; omega
      have n6 : (r == 90) = false := by rw [beq_eq_false_iff_ne]; omega
      have m1 : ¬ r = 120 := by omega
      have m2 : ¬ r = 121 := by omega
      have m3 : ¬ r = 122 := by omega
      have m4 : ¬ r = 88 := by omega
      have m5 : ¬ r = 89 := by omega
      have m6 : ¬ r = 90 := by omega
      clear hA hB e1
      go_enter Tryd.func84, Tryd.ntmps84
      go_wp2_with fail
      go_ret
      exact ⟨rfl, rfl⟩

theorem mapD_ascii : ∀ (l : List UInt8), (∀ b ∈ l, b.toNat < 128) → mapD swp l = l.map (mir true)
  | [], _ => rfl
  | b :: l, h => by
    have hb := h b (List.mem_cons_self ..)
    rw [mapD_step swp (b :: l) (by simp), decodeL_ascii b l hb]
    have hr : 0 ≤ swp (b.toNat : Int) ∧ swp (b.toNat : Int) ≤ 127 := swp_bd (by omega) (by omega) (by omega)
    simp only []
    rw [if_pos hr.1]
    have e1 : encodeRune (swp (b.toNat : Int)) = [mir true b] := by
      unfold encodeRune
      rw [encodeRuneZ_one hr.1 hr.2]
      have e2 : swp (b.toNat : Int) = ((mir true b).toNat : Int) := by
        by_cases hA : 120 ≤ b.toNat ∧ b.toNat ≤ 122
        · rw [mir_low hA.1 hA.2]; unfold swp; rw [if_pos (by omega)]
        · by_cases hB : 88 ≤ b.toNat ∧ b.toNat ≤ 90
          · rw [mir_up hB.1 hB.2]; unfold swp; rw [if_neg (by omega), if_pos (by omega)]
          · rw [mir_else hA (fun h => hB ⟨h.1, h.2.1⟩)]; unfold swp; rw [if_neg (by omega), if_neg (by omega)]
      rw [e2]
      simp
    rw [e1, List.map_cons]
    show [mir true b] ++ mapD swp (List.drop 1 (b :: l)) = _
    rw [List.drop_succ_cons, List.drop_zero, mapD_ascii l (fun x hx => h x (List.mem_cons_of_mem _ hx))]
    rfl

set_option maxHeartbeats 2000000 in
theorem mirrored_any (s : ByteArray) (hs : s.size ≤ 1000000) (ha : ∀ b ∈ s.data.toList, b.toNat < 128) (w : World) (hT : Lib.Utf8Tabs 1 2 w) :
    Calls Tryd.prog 50 #[.string s] w fun e w' => e = .returned (.string (bs (s.data.toList.map (mir true)))) ∧ Below w.heap.size w w' := by
  have CM := Tryd.strings_Map_runes 84 #[] (enters_of Tryd.func84 (by kernel_rfl) rfl) swp s w (by omega)
    (fun W x _ _ => (other_any (x : Int) W).mono fun e w' ⟨h1, h2⟩ => ⟨h1, 0, h2⟩)
    (fun x hx => swp_bd (by omega) (by omega) (by omega)) hT
  rw [mapD_ascii _ ha] at CM
  replace CM := Lib.hid CM
  clear hT
  go_enter Tryd.func50, Tryd.ntmps50
  go_wp2_with fail
  refine CM.out.mono ?_
  rintro e w2 ⟨rfl, hb⟩
  have HB := Lib.hid hb
  clear hb
  go_wp2_with fail
  go_ret
  exact ⟨rfl, HB.out⟩

theorem u8extra : U8Extra Tryd.prog Tryd.lays260_ren := { n3 := by kernel_rfl, n4 := by kernel_rfl, y3 := by kernel_rfl, y4 := by kernel_rfl, c5 := by kernel_rfl, c119 := by kernel_rfl, c138 := by kernel_rfl }
end Go.Proofs.YtinillnccfgooaaDoor
