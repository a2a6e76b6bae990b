/-
  ExprVars and TestVars, of the program and of the model: the variables that occur, in order.
-/
import Derived.Test.YtdlahmfnnfjhiaaSpecVars
import Derived.Test.YtdlahmfnnfjhiaaSpecValid
import Derived.Test.YtdlahmfnnfjhiaaRead
import Derived.Test.YtdlahmfnnfjhiaaShelf
namespace Go.Proofs.Ytdlahmfnnfjhiaa
open Go.RowKit Tm

theorem indexByte_fnd (l : List UInt8) (c : UInt8) : decide (0 ≤ Lib.indexByte l c) = decide (0 ≤ fnd l c) := by
  have h : 0 ≤ Lib.indexByte l c ↔ 0 ≤ fnd l c := by
    induction l with
    | nil => simp [Lib.indexByte, fnd]
    | cons b l ih =>
      rw [fnd_cons, ← ih]
      have hge := Lib.indexByte_ge l c
      show 0 ≤ (if b == c then 0 else if Lib.indexByte l c == -1 then -1 else Lib.indexByte l c + 1) ↔ _
      rw [show (c == b) = (b == c) by rw [Bool.eq_iff_iff, beq_iff_eq, beq_iff_eq]; exact eq_comm]
      cases hb : b == c
      · simp
        by_cases h1 : Lib.indexByte l c = -1
        · simp [h1]
        · simp [h1]; omega
      · simp
  by_cases h1 : 0 ≤ fnd l c
  · rw [decide_eq_true h1, decide_eq_true (h.2 h1)]
  · rw [decide_eq_false h1, decide_eq_false (fun h2 => h1 (h.1 h2))]

theorem contains_at (s : ByteArray) (c : UInt8) (hc : c.toNat < 128) (b : Bool) (h : decide (0 ≤ fnd s.data.toList c) = b) (w : World) :
    Calls Try.prog 32 #[.string s, .int .i32 c.toNat] w fun e w' => e = .returned (.bool b) ∧ w' = w := by
  refine (Try.strings_ContainsRune_ascii s c.toNat w (by omega) (by omega)).mono fun e w' ⟨h1, h2⟩ => ⟨?_, h2⟩
  rw [h1, Int.toNat_natCast]
  have e1 : c.toNat.toUInt8 = c := UInt8.toNat_inj.1 (by simp)
  rw [e1, indexByte_fnd, h]

theorem vlist3 (l : List UInt8) (b0 b1 b2 : Bool) (h0 : decide (0 ≤ fnd l 120) = b0) (h1 : decide (0 ≤ fnd l 121) = b1) (h2 : decide (0 ≤ fnd l 122) = b2) :
    vlist [120, 121, 122] l = (if b0 then [120] else []) ++ (if b1 then [121] else []) ++ (if b2 then [122] else []) := by
  unfold vlist
  simp only [List.filter_cons, h0, h1, h2, List.filter_nil]
  cases b0 <;> cases b1 <;> cases b2 <;> rfl

set_option maxRecDepth 100000 in
set_option maxHeartbeats 8000000 in
theorem varsOf_yes (k : Bool) (s : ByteArray) (w : World) {t : Tm} (ht : Ok false k t) (hs : s.data.toList = t.ser) (hl : s.size ≤ 200) :
    Calls Try.prog 25 #[.string s, .int .u8 (kcode k)] w fun e w' => e = .returned (.string (bs (vlist [120, 121, 122] s.data.toList))) ∧ Below w.heap.size w w' := by
  have HC := fun w => Lib.hid (read_yes k s w ht hs hl)
  clear hs
  cases h0 : decide (0 ≤ fnd s.data.toList 120) <;> cases h1 : decide (0 ≤ fnd s.data.toList 121) <;> cases h2 : decide (0 ≤ fnd s.data.toList 122)
  all_goals
    have V := Lib.hid (vlist3 _ _ _ _ h0 h1 h2)
    have K0 : Hid (∀ w, Calls Try.prog 32 #[.string s, .int .i32 120] w fun e w' => e = .returned (.bool _) ∧ w' = w) := fun w => contains_at s 120 (by decide) _ h0 w
    have K1 : Hid (∀ w, Calls Try.prog 32 #[.string s, .int .i32 121] w fun e w' => e = .returned (.bool _) ∧ w' = w) := fun w => contains_at s 121 (by decide) _ h1 w
    have K2 : Hid (∀ w, Calls Try.prog 32 #[.string s, .int .i32 122] w fun e w' => e = .returned (.bool _) ∧ w' = w) := fun w => contains_at s 122 (by decide) _ h2 w
    clear h0 h1 h2
    go_enter Try.func25, Try.ntmps25
    go_wp2_with fail
    refine (HC _).out.mono ?_
    rintro e w1 ⟨xc, ya, yn, ym, rfl, _, hb⟩
    have HB := Lib.hid (hb.alloc hb.size (.cells #[.int .u8 xc, .slice ya yn ym] 49))
    clear hb
    go_wp2_with fail
    have hsz : (w1.alloc (.cells #[.int .u8 xc, .slice ya yn ym] 49)).heap.size = w1.heap.size + 1 := by simp
    generalize w1.alloc (.cells #[.int .u8 xc, .slice ya yn ym] 49) = W at *
    have nx0 : ∀ ty, (Instr.next (.pointer (some ⟨w1.heap.size + 1, 0, none⟩)) true ty).run Try.prog (W.iter ⟨#[120, 121, 122]⟩ 0) = .ok (.tuple #[.bool true, .int .i64 0, .int .i32 120]) (W.iter ⟨#[120, 121, 122]⟩ 1) := fun ty => by rw [← hsz]; exact run_next_ascii W _ 0 ty (by decide) (by decide)
    have nx1 : ∀ ty, (Instr.next (.pointer (some ⟨w1.heap.size + 1, 0, none⟩)) true ty).run Try.prog (W.iter ⟨#[120, 121, 122]⟩ 1) = .ok (.tuple #[.bool true, .int .i64 1, .int .i32 121]) (W.iter ⟨#[120, 121, 122]⟩ 2) := fun ty => by rw [← hsz]; exact run_next_ascii W _ 1 ty (by decide) (by decide)
    have nx2 : ∀ ty, (Instr.next (.pointer (some ⟨w1.heap.size + 1, 0, none⟩)) true ty).run Try.prog (W.iter ⟨#[120, 121, 122]⟩ 2) = .ok (.tuple #[.bool true, .int .i64 2, .int .i32 122]) (W.iter ⟨#[120, 121, 122]⟩ 3) := fun ty => by rw [← hsz]; exact run_next_ascii W _ 2 ty (by decide) (by decide)
    have nx3 : ∀ ty, (Instr.next (.pointer (some ⟨w1.heap.size + 1, 0, none⟩)) true ty).run Try.prog (W.iter ⟨#[120, 121, 122]⟩ 3) = .ok (.tuple #[.bool false]) (W.iter ⟨#[120, 121, 122]⟩ 3) := fun ty => by rw [← hsz]; exact run_next_end W _ 3 ty (by decide)
    clear hsz
    refine wp_loop_rounds 4 ?_
    rw [rounds_succ]
    go_wp2_with fail
    refine (K0.out _).mono ?_
    rintro e w' ⟨rfl, rfl⟩
    go_wp2_with fail
    rw [rounds_succ]
    go_wp2_with fail
    refine (K1.out _).mono ?_
    rintro e w' ⟨rfl, rfl⟩
    go_wp2_with fail
    rw [rounds_succ]
    go_wp2_with fail
    refine (K2.out _).mono ?_
    rintro e w' ⟨rfl, rfl⟩
    go_wp2_with fail
    rw [rounds_succ]
    go_wp2_with fail
    go_ret
    exact ⟨by rw [V.out]; rfl, HB.out.alloc HB.out.size _⟩

set_option maxHeartbeats 2000000 in
theorem varsOf_no (k : Bool) (s : ByteArray) (w : World) (h : ¬ (Valid false k s.data.toList ∧ s.size ≤ 200)) :
    Calls Try.prog 25 #[.string s, .int .u8 (kcode k)] w fun e w' => e = .returned (.string (bs [])) ∧ Below w.heap.size w w' := by
  have HC := fun w => Lib.hid (read_no k s w h)
  clear h
  go_enter Try.func25, Try.ntmps25
  go_wp2_with fail
  refine (HC _).out.mono ?_
  rintro e w1 ⟨rfl, hb⟩
  have HB := Lib.hid hb
  clear hb
  go_wp2_with fail
  go_ret
  exact ⟨rfl, HB.out.alloc HB.out.size _⟩

set_option maxHeartbeats 2000000 in
theorem implVarsExpr_yes (s : ByteArray) (w : World) {t : Tm} (ht : Ok false false t) (hs : s.data.toList = t.ser) (hl : s.size ≤ 200) :
    Calls Try.prog 11 #[.string s] w fun e w' => e = .returned (.string (bs (vlist [120, 121, 122] s.data.toList))) ∧ Below w.heap.size w w' := by
  have HC := fun w => Lib.hid (varsOf_yes false s w ht hs hl)
  clear hs
  go_enter Try.func11, Try.ntmps11
  go_wp2_with fail
  refine (HC _).out.mono ?_
  rintro e w1 ⟨rfl, hb⟩
  have HB := Lib.hid hb
  clear hb
  go_wp2_with fail
  go_ret
  exact ⟨rfl, HB.out⟩

set_option maxHeartbeats 2000000 in
theorem implVarsExpr_no (s : ByteArray) (w : World) (h : ¬ (Valid false false s.data.toList ∧ s.size ≤ 200)) :
    Calls Try.prog 11 #[.string s] w fun e w' => e = .returned (.string (bs [])) ∧ Below w.heap.size w w' := by
  have HC := fun w => Lib.hid (varsOf_no false s w h)
  clear h
  go_enter Try.func11, Try.ntmps11
  go_wp2_with fail
  refine (HC _).out.mono ?_
  rintro e w1 ⟨rfl, hb⟩
  have HB := Lib.hid hb
  clear hb
  go_wp2_with fail
  go_ret
  exact ⟨rfl, HB.out⟩

set_option maxHeartbeats 2000000 in
theorem specVarsExpr_yes (s : ByteArray) (w : World) {t : Tm} (ht : Ok false false t) (hs : s.data.toList = t.ser) (hl : s.size ≤ 200) :
    Calls Try.prog 10 #[.string s] w fun e w' => e = .returned (.string (bs (vlist [120, 121, 122] s.data.toList))) ∧ Below w.heap.size w w' := by
  have HC := fun w => Lib.hid (specExpr_yes s w ⟨t, ht, hs⟩ hl)
  have HV := fun w => Lib.hid (specVars false s w (by unfold maxLen; omega))
  clear hs
  go_enter Try.func10, Try.ntmps10
  go_wp2_with fail
  refine (HC _).out.mono ?_
  rintro e w1 ⟨rfl, n, rfl⟩
  go_wp2_with fail
  refine (HV _).out.mono ?_
  rintro e w2 ⟨rfl, rfl⟩
  go_wp2_with fail
  go_ret
  exact ⟨rfl, below_of_drewN (Below.refl _ _) n⟩
set_option maxHeartbeats 2000000 in
theorem specVarsExpr_no (s : ByteArray) (w : World) (h : ¬ (Valid false false s.data.toList ∧ s.size ≤ 200)) :
    Calls Try.prog 10 #[.string s] w fun e w' => e = .returned (.string (bs [])) ∧ Below w.heap.size w w' := by
  have HC := fun w => Lib.hid (specExpr_no s w h)
  clear h
  go_enter Try.func10, Try.ntmps10
  go_wp2_with fail
  refine (HC _).out.mono ?_
  rintro e w1 ⟨rfl, n, rfl⟩
  go_wp2_with fail
  go_ret
  exact ⟨rfl, below_of_drewN (Below.refl _ _) n⟩

set_option maxHeartbeats 2000000 in
theorem implVarsTest_yes (s : ByteArray) (w : World) {t : Tm} (ht : Ok false true t) (hs : s.data.toList = t.ser) (hl : s.size ≤ 200) :
    Calls Try.prog 13 #[.string s] w fun e w' => e = .returned (.string (bs (vlist [120, 121, 122] s.data.toList))) ∧ Below w.heap.size w w' := by
  have HC := fun w => Lib.hid (varsOf_yes true s w ht hs hl)
  clear hs
  go_enter Try.func13, Try.ntmps13
  go_wp2_with fail
  refine (HC _).out.mono ?_
  rintro e w1 ⟨rfl, hb⟩
  have HB := Lib.hid hb
  clear hb
  go_wp2_with fail
  go_ret
  exact ⟨rfl, HB.out⟩

set_option maxHeartbeats 2000000 in
theorem implVarsTest_no (s : ByteArray) (w : World) (h : ¬ (Valid false true s.data.toList ∧ s.size ≤ 200)) :
    Calls Try.prog 13 #[.string s] w fun e w' => e = .returned (.string (bs [])) ∧ Below w.heap.size w w' := by
  have HC := fun w => Lib.hid (varsOf_no true s w h)
  clear h
  go_enter Try.func13, Try.ntmps13
  go_wp2_with fail
  refine (HC _).out.mono ?_
  rintro e w1 ⟨rfl, hb⟩
  have HB := Lib.hid hb
  clear hb
  go_wp2_with fail
  go_ret
  exact ⟨rfl, HB.out⟩

set_option maxHeartbeats 2000000 in
theorem specVarsTest_yes (s : ByteArray) (w : World) {t : Tm} (ht : Ok false true t) (hs : s.data.toList = t.ser) (hl : s.size ≤ 200) :
    Calls Try.prog 12 #[.string s] w fun e w' => e = .returned (.string (bs (vlist [120, 121, 122] s.data.toList))) ∧ Below w.heap.size w w' := by
  have HC := fun w => Lib.hid (specTest_yes s w ⟨t, ht, hs⟩ hl)
  have HV := fun w => Lib.hid (specVars false s w (by unfold maxLen; omega))
  clear hs
  go_enter Try.func12, Try.ntmps12
  go_wp2_with fail
  refine (HC _).out.mono ?_
  rintro e w1 ⟨rfl, n, rfl⟩
  go_wp2_with fail
  refine (HV _).out.mono ?_
  rintro e w2 ⟨rfl, rfl⟩
  go_wp2_with fail
  go_ret
  exact ⟨rfl, below_of_drewN (Below.refl _ _) n⟩
set_option maxHeartbeats 2000000 in
theorem specVarsTest_no (s : ByteArray) (w : World) (h : ¬ (Valid false true s.data.toList ∧ s.size ≤ 200)) :
    Calls Try.prog 12 #[.string s] w fun e w' => e = .returned (.string (bs [])) ∧ Below w.heap.size w w' := by
  have HC := fun w => Lib.hid (specTest_no s w h)
  clear h
  go_enter Try.func12, Try.ntmps12
  go_wp2_with fail
  refine (HC _).out.mono ?_
  rintro e w1 ⟨rfl, n, rfl⟩
  go_wp2_with fail
  go_ret
  exact ⟨rfl, below_of_drewN (Below.refl _ _) n⟩
end Go.Proofs.Ytdlahmfnnfjhiaa
