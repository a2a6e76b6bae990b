/-
  spec.l1Expr and spec.l1Test: where the expression, or the test, that begins at an index ends, or -1. They only read.
-/
import Derived.Test.YtpdepihggpfmiabDoorFind
import Derived.Test.YtpdepihggpfmiabDoorPure
import Derived.BigQuiet
import Derived.Deep.QuietTactic
namespace Go.Proofs.YtpdepihggpfmiabDoor
open Go.RowKit Tm

def nm (wide : Bool) : ByteArray := if wide then ⟨#[120, 121, 122, 88, 89, 90]⟩ else ⟨#[120, 121, 122]⟩

theorem names_any (wide : Bool) (w : World) : Calls Tryd.prog 63 #[.bool wide] w fun e w' => e = .returned (.string (nm wide)) ∧ w' = w := by
  cases wide
  · exact (names_one w).mono fun _ _ ⟨h, h2⟩ => ⟨h, h2.symm⟩
  · exact (names_two w).mono fun _ _ ⟨h, h2⟩ => ⟨h, h2.symm⟩

theorem find_at {s : ByteArray} {c : UInt8} {r : Int} (h : fnd s.data.toList c = r) (w : World) (hs : s.size ≤ maxLen) : Calls Tryd.prog 62 #[.string s, .int .u8 c.toNat] w fun e w' => e = .returned (.int .i64 r) ∧ w' = w := by
  subst h
  exact (find_any s c w hs).mono fun _ _ ⟨h, h2⟩ => ⟨h, h2.symm⟩

theorem fnd_cons (d : UInt8) (l : List UInt8) (c : UInt8) : 0 ≤ fnd (d :: l) c ↔ (c == d) = true ∨ 0 ≤ fnd l c := by
  unfold fnd
  rw [List.findIdx?_cons, show (c == d) = (d == c) by rw [Bool.eq_iff_iff, beq_iff_eq, beq_iff_eq]; exact eq_comm]
  cases h : d == c
  · simp
    cases l.findIdx? (fun x => x == c) <;> simp
    omega
  · simp
theorem fnd_nil (c : UInt8) : fnd [] c = -1 := rfl
theorem fnd_neg (l : List UInt8) (c : UInt8) : 0 ≤ fnd l c ∨ fnd l c = -1 := by
  unfold fnd
  split
  · left; omega
  · right; rfl
theorem nm_var (wide : Bool) (c : UInt8) : 0 ≤ fnd (nm wide).data.toList c ↔ isVarB wide c = true := by
  cases wide
  · show 0 ≤ fnd [120, 121, 122] c ↔ _
    simp only [fnd_cons, fnd_nil, isVarB]; simp [or_assoc]
  · show 0 ≤ fnd [120, 121, 122, 88, 89, 90] c ↔ _
    simp only [fnd_cons, fnd_nil, isVarB]; simp [or_assoc]
theorem dig_fnd (c : UInt8) : 0 ≤ fnd [48, 49, 50] c ↔ isDigB c = true := by
  simp only [fnd_cons, fnd_nil, isDigB]; simp [or_assoc]
theorem op_fnd (c : UInt8) : 0 ≤ fnd [43, 45, 42] c ↔ isOpB c = true := by
  simp only [fnd_cons, fnd_nil, isOpB]; simp [or_assoc]
theorem fnd_yes {l : List UInt8} {c : UInt8} (h : 0 ≤ fnd l c) : ∃ n : Nat, fnd l c = n := ⟨(fnd l c).toNat, by omega⟩
theorem fnd_no {l : List UInt8} {c : UInt8} (h : ¬ 0 ≤ fnd l c) : fnd l c = -1 := (fnd_neg l c).resolve_left h

/-- It only reads: the world behind the call is the one before it, after some draws. -/
def Quiet (v : Value) (w : World) (e : Ending) (w' : World) : Prop := e = .returned v ∧ ∃ n, w' = w.drewN n

theorem drop_cons' (s : ByteArray) (pos : Nat) (h : pos < s.size) : s.data.toList.drop pos = s[pos] :: s.data.toList.drop (pos + 1) := by
  rw [List.drop_eq_getElem_cons (by simpa using h)]; rfl

set_option maxHeartbeats 1000000 in
theorem expr_neg (wide : Bool) (s : ByteArray) (a : Int) (w : World) (ha : a < 0) : Calls Tryd.prog 64 #[.string s, .int .i64 a, .bool wide] w (Quiet (.int .i64 (-1)) w) := by
  go_enter Tryd.func64, Tryd.ntmps64
  go_wp2_with fail
  go_ret
  exact ⟨rfl, 0, rfl⟩

set_option maxHeartbeats 1000000 in
theorem expr_past (wide : Bool) (s : ByteArray) (a : Nat) (w : World) (ha : s.size ≤ a) : Calls Tryd.prog 64 #[.string s, .int .i64 a, .bool wide] w (Quiet (.int .i64 (-1)) w) := by
  have h0 : (0 : Int) ≤ (a : Int) := by omega
  have h1 : ¬ (a : Int) < (s.size : Int) := by omega
  go_enter Tryd.func64, Tryd.ntmps64
  go_wp2_with fail
  go_ret
  exact ⟨rfl, 0, rfl⟩

theorem nm_le (wide : Bool) : (nm wide).size ≤ maxLen := by cases wide <;> simp [nm, maxLen, ByteArray.size]

set_option maxHeartbeats 1000000 in
theorem expr_leaf (wide : Bool) (s : ByteArray) (a : Nat) (w : World) (hs : s.size ≤ 1000000) (ha : a < s.size) (hc : (isVarB wide s[a] || isDigB s[a]) = true) : Calls Tryd.prog 64 #[.string s, .int .i64 a, .bool wide] w (Quiet (.int .i64 (a + 1)) w) := by
  have h0 : (0 : Int) ≤ (a : Int) := by omega
  have h1 : (a : Int) < (s.size : Int) := by omega
  have hnm := nm_le wide
  by_cases hv : isVarB wide s[a] = true
  · obtain ⟨n, hn⟩ := fnd_yes ((nm_var wide s[a]).2 hv)
    have hn0 : (0 : Int) ≤ (n : Int) := by omega
    have HN := Lib.hid hn
    clear hn hc hv
    go_enter Tryd.func64, Tryd.ntmps64
    go_wp2_with fail
    go_quiet ((first | (go_at_call 63; exact Calls.quiet_of_same (names_any _ _)) | (go_at_call 62; exact Calls.quiet_of_same (find_at HN.out _ hnm))))
    go_wp2_with fail
    go_ret
    exact ⟨rfl, nq, rfl⟩
  · have hd : isDigB s[a] = true := by simpa [hv] using hc
    have HM := Lib.hid (fnd_no (fun h => hv ((nm_var wide s[a]).1 h)))
    obtain ⟨n, hn⟩ := fnd_yes ((dig_fnd s[a]).2 hd)
    have hn0 : (0 : Int) ≤ (n : Int) := by omega
    have HN := Lib.hid hn
    clear hn hc hv hd
    go_enter Tryd.func64, Tryd.ntmps64
    go_wp2_with fail
    go_quiet ((first | (go_at_call 63; exact Calls.quiet_of_same (names_any _ _)) | (go_at_call 62; first | (with_reducible exact Calls.quiet_of_same (find_at HM.out _ hnm)) | (exact Calls.quiet_of_same (find_at (s := ⟨#[48, 49, 50]⟩) HN.out _ (by decide))))))
    go_wp2_with fail
    go_ret
    exact ⟨rfl, nq, rfl⟩

set_option maxHeartbeats 1000000 in
theorem expr_bad (wide : Bool) (s : ByteArray) (a : Nat) (w : World) (_hs : s.size ≤ 1000000) (ha : a < s.size) (hv : ¬ isVarB wide s[a] = true) (hd : ¬ isDigB s[a] = true) (ho : ¬ isOpB s[a] = true) : Calls Tryd.prog 64 #[.string s, .int .i64 a, .bool wide] w (Quiet (.int .i64 (-1)) w) := by
  have h0 : (0 : Int) ≤ (a : Int) := by omega
  have h1 : (a : Int) < (s.size : Int) := by omega
  have hnm := nm_le wide
  have HM := Lib.hid (fnd_no (fun h => hv ((nm_var wide s[a]).1 h)))
  have HN := Lib.hid (fnd_no (fun h => hd ((dig_fnd s[a]).1 h)))
  have HO := Lib.hid (fnd_no (fun h => ho ((op_fnd s[a]).1 h)))
  clear hv hd ho
  go_enter Tryd.func64, Tryd.ntmps64
  go_wp2_with fail
  go_quiet ((first | (go_at_call 63; exact Calls.quiet_of_same (names_any _ _)) | (go_at_call 62; first | (with_reducible exact Calls.quiet_of_same (find_at HM.out _ hnm)) | (exact Calls.quiet_of_same (find_at (s := ⟨#[48, 49, 50]⟩) HN.out _ (by decide))))))
  go_wp2_with fail
  refine (find_at (s := ⟨#[43, 45, 42]⟩) HO.out _ (by decide)).mono ?_
  rintro e w' ⟨rfl, rfl⟩
  go_wp2_with fail
  go_ret
  exact ⟨rfl, nq, rfl⟩

theorem Quiet.after {v : Value} {w : World} {n : Nat} {e : Ending} {w' : World} (h : Quiet v (w.drewN n) e w') : Quiet v w e w' := by
  obtain ⟨h1, m, rfl⟩ := h
  exact ⟨h1, n + m, by rw [World.drewN_drewN]⟩

set_option maxHeartbeats 1000000 in
theorem expr_op (wide : Bool) (s : ByteArray) (a : Nat) (w : World) (hs : s.size ≤ 1000000) (ha : a < s.size) (hv : ¬ isVarB wide s[a] = true) (hd : ¬ isDigB s[a] = true) (ho : isOpB s[a] = true) (r1 r2 : Int)
    (c1 : ∀ w, Calls Tryd.prog 64 #[.string s, .int .i64 (a + 1), .bool wide] w (Quiet (.int .i64 r1) w)) (c2 : ∀ w, Calls Tryd.prog 64 #[.string s, .int .i64 r1, .bool wide] w (Quiet (.int .i64 r2) w)) :
    Calls Tryd.prog 64 #[.string s, .int .i64 a, .bool wide] w (Quiet (.int .i64 r2) w) := by
  have h0 : (0 : Int) ≤ (a : Int) := by omega
  have h1 : (a : Int) < (s.size : Int) := by omega
  have hnm := nm_le wide
  have HM := Lib.hid (fnd_no (fun h => hv ((nm_var wide s[a]).1 h)))
  have HN := Lib.hid (fnd_no (fun h => hd ((dig_fnd s[a]).1 h)))
  obtain ⟨n, hn⟩ := fnd_yes ((op_fnd s[a]).2 ho)
  have hn0 : (0 : Int) ≤ (n : Int) := by omega
  have HO := Lib.hid hn
  have C1 := Lib.hid c1
  have C2 := Lib.hid c2
  clear hv hd ho hn c1 c2
  go_enter Tryd.func64, Tryd.ntmps64
  go_wp2_with fail
  go_quiet ((first | (go_at_call 63; exact Calls.quiet_of_same (names_any _ _)) | (go_at_call 62; first | (with_reducible exact Calls.quiet_of_same (find_at HM.out _ hnm)) | (exact Calls.quiet_of_same (find_at (s := ⟨#[48, 49, 50]⟩) HN.out _ (by decide))))))
  go_wp2_with fail
  refine (find_at (s := ⟨#[43, 45, 42]⟩) HO.out _ (by decide)).mono ?_
  rintro e w' ⟨rfl, rfl⟩
  go_wp2_with fail
  refine (C1.out _).mono ?_
  rintro e w' ⟨rfl, n1, rfl⟩
  go_wp2_with fail
  refine (C2.out _).mono ?_
  rintro e w' ⟨rfl, n2, rfl⟩
  go_wp2_with fail
  go_ret
  exact ⟨rfl, nq + n1 + n2, rfl⟩

theorem opk_e (wide : Bool) (c : UInt8) : opk wide false c = if isVarB wide c || isDigB c then some [] else if isOpB c then some [false, false] else none := rfl

theorem expr_at (wide : Bool) (s : ByteArray) (hs : s.size ≤ 1000000) : ∀ (m : Nat) (a r : Int) (w : World), (s.size : Int) - a ≤ m → PrefAt wide false s.data.toList a r → Calls Tryd.prog 64 #[.string s, .int .i64 a, .bool wide] w (Quiet (.int .i64 r) w) := by
  intro m
  induction m with
  | zero =>
    intro a r w hm hr
    obtain ⟨i, rfl⟩ := Int.eq_ofNat_of_zero_le (show 0 ≤ a by omega)
    obtain rfl := hr.uniq (PrefAt.past (show s.data.toList.length ≤ i by simp; omega))
    exact expr_past wide s i w (by omega)
  | succ m ih =>
    intro a r w hm hr
    by_cases ha : a < 0
    · obtain rfl := hr.uniq (PrefAt.neg ha)
      exact expr_neg wide s a w ha
    · obtain ⟨i, rfl⟩ := Int.eq_ofNat_of_zero_le (show 0 ≤ a by omega)
      by_cases hi : i < s.size
      · have hd := drop_cons' s i hi
        by_cases hl : (isVarB wide s[i] || isDigB s[i]) = true
        · obtain rfl := hr.uniq (PrefAt.leaf hd (by rw [opk_e, if_pos hl]))
          exact expr_leaf wide s i w hs hi hl
        · have hv : ¬ isVarB wide s[i] = true := fun h => hl (by rw [h]; rfl)
          have hdg : ¬ isDigB s[i] = true := fun h => hl (by rw [h, Bool.or_true])
          by_cases ho : isOpB s[i] = true
          · obtain ⟨r1, h1⟩ := PrefAt.exists wide false s.data.toList (i + 1)
            obtain ⟨r2, h2⟩ := PrefAt.exists wide false s.data.toList r1
            obtain rfl := hr.uniq (PrefAt.bin hd (by rw [opk_e, if_neg hl, if_pos ho]) h1 h2)
            refine expr_op wide s i w hs hi hv hdg ho r1 _ (fun w => ih _ _ w (by omega) h1) (fun w => ?_)
            rcases h1.lo with h | h
            · subst h
              obtain rfl := h2.uniq (PrefAt.neg (by omega))
              exact expr_neg wide s _ w (by omega)
            · exact ih _ _ w (by omega) h2
          · obtain rfl := hr.uniq (PrefAt.bad hd (by rw [opk_e, if_neg hl, if_neg ho]))
            exact expr_bad wide s i w hs hi hv hdg ho
      · obtain rfl := hr.uniq (PrefAt.past (show s.data.toList.length ≤ i by simp; omega))
        exact expr_past wide s i w (by omega)

theorem expr_any (wide : Bool) (s : ByteArray) (hs : s.size ≤ 1000000) (a r : Int) (w : World) (hr : PrefAt wide false s.data.toList a r) : Calls Tryd.prog 64 #[.string s, .int .i64 a, .bool wide] w (Quiet (.int .i64 r) w) := by
  exact expr_at wide s hs ((s.size : Int) - a).toNat a r w (by omega) hr
set_option maxHeartbeats 1000000 in
theorem test_neg (wide : Bool) (s : ByteArray) (a : Int) (w : World) (ha : a < 0) : Calls Tryd.prog 65 #[.string s, .int .i64 a, .bool wide] w (Quiet (.int .i64 (-1)) w) := by
  go_enter Tryd.func65, Tryd.ntmps65
  go_wp2_with fail
  go_ret
  exact ⟨rfl, 0, rfl⟩

set_option maxHeartbeats 1000000 in
theorem test_past (wide : Bool) (s : ByteArray) (a : Nat) (w : World) (ha : s.size ≤ a) : Calls Tryd.prog 65 #[.string s, .int .i64 a, .bool wide] w (Quiet (.int .i64 (-1)) w) := by
  have h0 : (0 : Int) ≤ (a : Int) := by omega
  have h1 : ¬ (a : Int) < (s.size : Int) := by omega
  go_enter Tryd.func65, Tryd.ntmps65
  go_wp2_with fail
  go_ret
  exact ⟨rfl, 0, rfl⟩

set_option maxHeartbeats 2000000 in
theorem test_leaf (wide : Bool) (s : ByteArray) (a : Nat) (w : World) (hs : s.size ≤ 1000000) (ha : a < s.size) (hc : s[a].toNat = 116 ∨ s[a].toNat = 102) : Calls Tryd.prog 65 #[.string s, .int .i64 a, .bool wide] w (Quiet (.int .i64 (a + 1)) w) := by
  have h0 : (0 : Int) ≤ (a : Int) := by omega
  have h1 : (a : Int) < (s.size : Int) := by omega
  rcases hc with hc | hc
  all_goals
    go_enter Tryd.func65, Tryd.ntmps65
    go_wp2_with fail
    go_ret
    exact ⟨rfl, 0, rfl⟩

set_option maxHeartbeats 2000000 in
theorem test_cmp (wide : Bool) (s : ByteArray) (a : Nat) (w : World) (hs : s.size ≤ 1000000) (ha : a < s.size) (hc : s[a].toNat = 61 ∨ s[a].toNat = 60) (r1 r2 : Int)
    (c1 : ∀ w, Calls Tryd.prog 64 #[.string s, .int .i64 (a + 1), .bool wide] w (Quiet (.int .i64 r1) w)) (c2 : ∀ w, Calls Tryd.prog 64 #[.string s, .int .i64 r1, .bool wide] w (Quiet (.int .i64 r2) w)) :
    Calls Tryd.prog 65 #[.string s, .int .i64 a, .bool wide] w (Quiet (.int .i64 r2) w) := by
  have h0 : (0 : Int) ≤ (a : Int) := by omega
  have h1 : (a : Int) < (s.size : Int) := by omega
  have C1 := Lib.hid c1
  have C2 := Lib.hid c2
  clear c1 c2
  rcases hc with hc | hc
  all_goals
    go_enter Tryd.func65, Tryd.ntmps65
    go_wp2_with fail
    refine (C1.out _).mono ?_
    rintro e w' ⟨rfl, n1, rfl⟩
    go_wp2_with fail
    refine (C2.out _).mono ?_
    rintro e w' ⟨rfl, n2, rfl⟩
    go_wp2_with fail
    go_ret
    exact ⟨rfl, n1 + n2, rfl⟩


set_option maxHeartbeats 2000000 in
theorem test_bin (wide : Bool) (s : ByteArray) (a : Nat) (w : World) (hs : s.size ≤ 1000000) (ha : a < s.size) (hc : s[a].toNat = 38 ∨ s[a].toNat = 124) (r1 r2 : Int)
    (c1 : ∀ w, Calls Tryd.prog 65 #[.string s, .int .i64 (a + 1), .bool wide] w (Quiet (.int .i64 r1) w)) (c2 : ∀ w, Calls Tryd.prog 65 #[.string s, .int .i64 r1, .bool wide] w (Quiet (.int .i64 r2) w)) :
    Calls Tryd.prog 65 #[.string s, .int .i64 a, .bool wide] w (Quiet (.int .i64 r2) w) := by
  have h0 : (0 : Int) ≤ (a : Int) := by omega
  have h1 : (a : Int) < (s.size : Int) := by omega
  have C1 := Lib.hid c1
  have C2 := Lib.hid c2
  clear c1 c2
  rcases hc with hc | hc
  all_goals
    go_enter Tryd.func65, Tryd.ntmps65
    go_wp2_with fail
    refine (C1.out _).mono ?_
    rintro e w' ⟨rfl, n1, rfl⟩
    go_wp2_with fail
    refine (C2.out _).mono ?_
    rintro e w' ⟨rfl, n2, rfl⟩
    go_wp2_with fail
    go_ret
    exact ⟨rfl, n1 + n2, rfl⟩


set_option maxHeartbeats 2000000 in
theorem test_not (wide : Bool) (s : ByteArray) (a : Nat) (w : World) (hs : s.size ≤ 1000000) (ha : a < s.size) (hc : s[a].toNat = 33) (r1 : Int)
    (c1 : ∀ w, Calls Tryd.prog 65 #[.string s, .int .i64 (a + 1), .bool wide] w (Quiet (.int .i64 r1) w)) : Calls Tryd.prog 65 #[.string s, .int .i64 a, .bool wide] w (Quiet (.int .i64 r1) w) := by
  have h0 : (0 : Int) ≤ (a : Int) := by omega
  have h1 : (a : Int) < (s.size : Int) := by omega
  have C1 := Lib.hid c1
  clear c1
  go_enter Tryd.func65, Tryd.ntmps65
  go_wp2_with fail
  refine (C1.out _).mono ?_
  rintro e w' ⟨rfl, n1, rfl⟩
  go_wp2_with fail
  go_ret
  exact ⟨rfl, n1, rfl⟩

theorem byte_ne {c : UInt8} {d : UInt8} (h : (c == d) = false) : ((c.toNat : Int) == (d.toNat : Int)) = false := by
  rw [beq_eq_false_iff_ne] at h ⊢
  intro e; exact h (UInt8.toNat_inj.1 (by exact_mod_cast e))

set_option maxHeartbeats 2000000 in
theorem test_bad (wide : Bool) (s : ByteArray) (a : Nat) (w : World) (_hs : s.size ≤ 1000000) (ha : a < s.size) (hc : opk wide true s[a] = none) : Calls Tryd.prog 65 #[.string s, .int .i64 a, .bool wide] w (Quiet (.int .i64 (-1)) w) := by
  have h0 : (0 : Int) ≤ (a : Int) := by omega
  have h1 : (a : Int) < (s.size : Int) := by omega
  have hn : (s[a] == 116) = false ∧ (s[a] == 102) = false ∧ (s[a] == 61) = false ∧ (s[a] == 60) = false ∧ (s[a] == 33) = false ∧ (s[a] == 38) = false ∧ (s[a] == 124) = false := by
    generalize s[a] = c at hc
    unfold opk at hc
    simp only [if_true] at hc
    by_cases h1 : (c == 116 || c == 102) = true
    · rw [if_pos h1] at hc; cases hc
    rw [if_neg h1] at hc
    by_cases h2 : (c == 61 || c == 60) = true
    · rw [if_pos h2] at hc; cases hc
    rw [if_neg h2] at hc
    by_cases h3 : (c == 33) = true
    · rw [if_pos h3] at hc; cases hc
    rw [if_neg h3] at hc
    by_cases h4 : (c == 38 || c == 124) = true
    · rw [if_pos h4] at hc; cases hc
    simp only [Bool.not_eq_true, Bool.or_eq_false_iff] at h1 h2 h3 h4
    exact ⟨h1.1, h1.2, h2.1, h2.2, h3, h4.1, h4.2⟩
  obtain ⟨n1, n2, n3, n4, n5, n6, n7⟩ := hn
  have m1 := byte_ne n1; have m2 := byte_ne n2; have m3 := byte_ne n3; have m4 := byte_ne n4; have m5 := byte_ne n5; have m6 := byte_ne n6; have m7 := byte_ne n7
  simp at m1 m2 m3 m4 m5 m6 m7
  clear n1 n2 n3 n4 n5 n6 n7 hc
  go_enter Tryd.func65, Tryd.ntmps65
  go_wp2_with fail
  go_ret
  exact ⟨rfl, 0, rfl⟩

theorem opk_t {wide : Bool} {c : UInt8} {l : List Bool} (h : opk wide true c = some l) :
    (l = [] ∧ (c.toNat = 116 ∨ c.toNat = 102)) ∨ (l = [false, false] ∧ (c.toNat = 61 ∨ c.toNat = 60)) ∨ (l = [true] ∧ c.toNat = 33) ∨ (l = [true, true] ∧ (c.toNat = 38 ∨ c.toNat = 124)) := by
  unfold opk at h
  simp only [if_true] at h
  by_cases h1 : (c == 116 || c == 102) = true
  · rw [if_pos h1] at h; cases h
    simp at h1; left; rcases h1 with rfl | rfl <;> simp
  rw [if_neg h1] at h
  by_cases h2 : (c == 61 || c == 60) = true
  · rw [if_pos h2] at h; cases h
    simp at h2; right; left; rcases h2 with rfl | rfl <;> simp
  rw [if_neg h2] at h
  by_cases h3 : (c == 33) = true
  · rw [if_pos h3] at h; cases h
    simp at h3; subst h3; simp
  rw [if_neg h3] at h
  by_cases h4 : (c == 38 || c == 124) = true
  · rw [if_pos h4] at h; cases h
    simp at h4; right; right; right; rcases h4 with rfl | rfl <;> simp
  rw [if_neg h4] at h; cases h

theorem test_at (wide : Bool) (s : ByteArray) (hs : s.size ≤ 1000000) : ∀ (m : Nat) (a r : Int) (w : World), (s.size : Int) - a ≤ m → PrefAt wide true s.data.toList a r → Calls Tryd.prog 65 #[.string s, .int .i64 a, .bool wide] w (Quiet (.int .i64 r) w) := by
  intro m
  induction m with
  | zero =>
    intro a r w hm hr
    obtain ⟨i, rfl⟩ := Int.eq_ofNat_of_zero_le (show 0 ≤ a by omega)
    obtain rfl := hr.uniq (PrefAt.past (show s.data.toList.length ≤ i by simp; omega))
    exact test_past wide s i w (by omega)
  | succ m ih =>
    intro a r w hm hr
    by_cases ha : a < 0
    · obtain rfl := hr.uniq (PrefAt.neg ha)
      exact test_neg wide s a w ha
    · obtain ⟨i, rfl⟩ := Int.eq_ofNat_of_zero_le (show 0 ≤ a by omega)
      by_cases hi : i < s.size
      · have hd := drop_cons' s i hi
        cases ho : opk wide true s[i] with
        | none =>
          obtain rfl := hr.uniq (PrefAt.bad hd ho)
          exact test_bad wide s i w hs hi ho
        | some l =>
          rcases opk_t ho with ⟨rfl, hc⟩ | ⟨rfl, hc⟩ | ⟨rfl, hc⟩ | ⟨rfl, hc⟩
          · obtain rfl := hr.uniq (PrefAt.leaf hd ho)
            exact test_leaf wide s i w hs hi hc
          · obtain ⟨r1, h1⟩ := PrefAt.exists wide false s.data.toList (i + 1)
            obtain ⟨r2, h2⟩ := PrefAt.exists wide false s.data.toList r1
            obtain rfl := hr.uniq (PrefAt.bin hd ho h1 h2)
            exact test_cmp wide s i w hs hi hc r1 _ (fun w => expr_any wide s hs _ _ w h1) (fun w => expr_any wide s hs _ _ w h2)
          · obtain ⟨r1, h1⟩ := PrefAt.exists wide true s.data.toList (i + 1)
            obtain rfl := hr.uniq (PrefAt.un hd ho h1)
            exact test_not wide s i w hs hi hc _ (fun w => ih _ _ w (by omega) h1)
          · obtain ⟨r1, h1⟩ := PrefAt.exists wide true s.data.toList (i + 1)
            obtain ⟨r2, h2⟩ := PrefAt.exists wide true s.data.toList r1
            obtain rfl := hr.uniq (PrefAt.bin hd ho h1 h2)
            refine test_bin wide s i w hs hi hc r1 _ (fun w => ih _ _ w (by omega) h1) (fun w => ?_)
            rcases h1.lo with h | h
            · subst h
              obtain rfl := h2.uniq (PrefAt.neg (by omega))
              exact test_neg wide s _ w (by omega)
            · exact ih _ _ w (by omega) h2
      · obtain rfl := hr.uniq (PrefAt.past (show s.data.toList.length ≤ i by simp; omega))
        exact test_past wide s i w (by omega)

theorem test_any (wide : Bool) (s : ByteArray) (hs : s.size ≤ 1000000) (a r : Int) (w : World) (hr : PrefAt wide true s.data.toList a r) : Calls Tryd.prog 65 #[.string s, .int .i64 a, .bool wide] w (Quiet (.int .i64 r) w) := by
  exact test_at wide s hs ((s.size : Int) - a).toNat a r w (by omega) hr
end Go.Proofs.YtpdepihggpfmiabDoor
