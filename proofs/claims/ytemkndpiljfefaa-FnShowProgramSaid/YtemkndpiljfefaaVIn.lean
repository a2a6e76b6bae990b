/-
  impl.variablesIn: the letters of variables that occur in a text, in order.
-/
import Derived.Test.YtemkndpiljfefaaSpecVars
import Derived.Test.YtemkndpiljfefaaShelf
namespace Go.Proofs.Ytemkndpiljfefaa
open Go.RowKit Tm

theorem indexByte_fnd (l : List UInt8) (c : UInt8) : decide (0 ≤ Lib.indexByte l c) = decide (0 ≤ fnd l c) := by
  have h : 0 ≤ Lib.indexByte l c ↔ 0 ≤ fnd l c := by
    induction l with
    | nil => simp [Lib.indexByte, fnd]
    | cons b l ih =>
      rw [fnd_cons, ← ih]
      have hge := Lib.indexByte_ge l c
      show 0 ≤ (if b == c then 0 else if Lib.indexByte l c == -1 then -1 else Lib.indexByte l c + 1) ↔ _
      rw [show (c == b) = (b == c) by rw [Bool.eq_iff_iff, beq_iff_eq, beq_iff_eq]; exact eq_comm]
      cases hb : b == c
      · simp
        by_cases h1 : Lib.indexByte l c = -1
        · simp [h1]
        · simp [h1]; omega
      · simp
  by_cases h1 : 0 ≤ fnd l c
  · rw [decide_eq_true h1, decide_eq_true (h.2 h1)]
  · rw [decide_eq_false h1, decide_eq_false (fun h2 => h1 (h.1 h2))]

theorem contains_at (s : ByteArray) (c : UInt8) (hc : c.toNat < 128) (b : Bool) (h : decide (0 ≤ fnd s.data.toList c) = b) (w : World) :
    Calls Try.prog 53 #[.string s, .int .i32 c.toNat] w fun e w' => e = .returned (.bool b) ∧ w' = w := by
  refine (Try.strings_ContainsRune_ascii s c.toNat w (by omega) (by omega)).mono fun e w' ⟨h1, h2⟩ => ⟨?_, h2⟩
  rw [h1, Int.toNat_natCast]
  have e1 : c.toNat.toUInt8 = c := UInt8.toNat_inj.1 (by simp)
  rw [e1, indexByte_fnd, h]

theorem vlist3 (l : List UInt8) (b0 b1 b2 : Bool) (h0 : decide (0 ≤ fnd l 120) = b0) (h1 : decide (0 ≤ fnd l 121) = b1) (h2 : decide (0 ≤ fnd l 122) = b2) :
    vlist [120, 121, 122] l = (if b0 then [120] else []) ++ (if b1 then [121] else []) ++ (if b2 then [122] else []) := by
  unfold vlist
  simp only [List.filter_cons, h0, h1, h2, List.filter_nil]
  cases b0 <;> cases b1 <;> cases b2 <;> rfl

set_option maxRecDepth 100000 in
set_option maxHeartbeats 8000000 in
theorem vIn_any (s : ByteArray) (W : World) :
    Calls Try.prog 36 #[.string s] W fun e w' => e = .returned (.string (bs (vlist [120, 121, 122] s.data.toList))) ∧ Below W.heap.size W w' := by
  cases h0 : decide (0 ≤ fnd s.data.toList 120) <;> cases h1 : decide (0 ≤ fnd s.data.toList 121) <;> cases h2 : decide (0 ≤ fnd s.data.toList 122)
  all_goals
    have V := Lib.hid (vlist3 _ _ _ _ h0 h1 h2)
    have K0 : Hid (∀ w, Calls Try.prog 53 #[.string s, .int .i32 120] w fun e w' => e = .returned (.bool _) ∧ w' = w) := fun w => contains_at s 120 (by decide) _ h0 w
    have K1 : Hid (∀ w, Calls Try.prog 53 #[.string s, .int .i32 121] w fun e w' => e = .returned (.bool _) ∧ w' = w) := fun w => contains_at s 121 (by decide) _ h1 w
    have K2 : Hid (∀ w, Calls Try.prog 53 #[.string s, .int .i32 122] w fun e w' => e = .returned (.bool _) ∧ w' = w) := fun w => contains_at s 122 (by decide) _ h2 w
    clear h0 h1 h2
    go_enter Try.func36, Try.ntmps36
    go_wp2_with fail
    have nx0 : ∀ ty, (Instr.next (.pointer (some ⟨W.heap.size, 0, none⟩)) true ty).run Try.prog (W.iter ⟨#[120, 121, 122]⟩ 0) = .ok (.tuple #[.bool true, .int .i64 0, .int .i32 120]) (W.iter ⟨#[120, 121, 122]⟩ 1) := fun ty => by exact run_next_ascii W _ 0 ty (by decide) (by decide)
    have nx1 : ∀ ty, (Instr.next (.pointer (some ⟨W.heap.size, 0, none⟩)) true ty).run Try.prog (W.iter ⟨#[120, 121, 122]⟩ 1) = .ok (.tuple #[.bool true, .int .i64 1, .int .i32 121]) (W.iter ⟨#[120, 121, 122]⟩ 2) := fun ty => by exact run_next_ascii W _ 1 ty (by decide) (by decide)
    have nx2 : ∀ ty, (Instr.next (.pointer (some ⟨W.heap.size, 0, none⟩)) true ty).run Try.prog (W.iter ⟨#[120, 121, 122]⟩ 2) = .ok (.tuple #[.bool true, .int .i64 2, .int .i32 122]) (W.iter ⟨#[120, 121, 122]⟩ 3) := fun ty => by exact run_next_ascii W _ 2 ty (by decide) (by decide)
    have nx3 : ∀ ty, (Instr.next (.pointer (some ⟨W.heap.size, 0, none⟩)) true ty).run Try.prog (W.iter ⟨#[120, 121, 122]⟩ 3) = .ok (.tuple #[.bool false]) (W.iter ⟨#[120, 121, 122]⟩ 3) := fun ty => by exact run_next_end W _ 3 ty (by decide)
    refine wp_loop_rounds 4 ?_
    rw [rounds_succ]
    go_wp2_with fail
    refine (K0.out _).mono ?_
    rintro e w' ⟨rfl, rfl⟩
    go_wp2_with fail
    rw [rounds_succ]
    go_wp2_with fail
    refine (K1.out _).mono ?_
    rintro e w' ⟨rfl, rfl⟩
    go_wp2_with fail
    rw [rounds_succ]
    go_wp2_with fail
    refine (K2.out _).mono ?_
    rintro e w' ⟨rfl, rfl⟩
    go_wp2_with fail
    rw [rounds_succ]
    go_wp2_with fail
    go_ret
    exact ⟨by rw [V.out]; rfl, (Below.refl _ _).alloc (Nat.le_refl _) _⟩

end Go.Proofs.Ytemkndpiljfefaa
