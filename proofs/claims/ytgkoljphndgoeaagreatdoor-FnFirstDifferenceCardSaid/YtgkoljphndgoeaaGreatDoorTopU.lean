import Derived.Test.YtgkoljphndgoeaaGreatDoorBase
import Derived.Test.YtgkoljphndgoeaaGreatDoorPure
import Derived.BigQuiet
import Derived.Deep.QuietTactic
import Derived.Test.YtgkoljphndgoeaaGreatDoorTopT
import Derived.Test.YtgkoljphndgoeaaGreatDoorTopB
namespace Go.Proofs.YtgkoljphndgoeaaGreatDoor
open Go.RowKit
def fnd (l : List UInt8) (c : UInt8) : Int := match l.findIdx? (· == c) with | some i => i | none => -1
theorem fnd_hit {l : List UInt8} {c : UInt8} {i : Nat} (hi : i < l.length) (h : l[i] = c) (hb : ∀ j (_ : j < i), l[j]? ≠ some c) : fnd l c = i := by
 have : l.findIdx? (· == c) = some i := by
  rw [List.findIdx?_eq_some_iff_getElem]
  refine ⟨hi, by simp [h], fun j hj => ?_⟩
  have := hb j hj
  rw [List.getElem?_eq_getElem (by omega)] at this
  simpa using this
 unfold fnd; rw [this]
theorem fnd_miss {l : List UInt8} {c : UInt8} (h : ∀ j : Nat, l[j]? ≠ some c) : fnd l c = -1 := by
 have : l.findIdx? (· == c) = none := by
  rw [List.findIdx?_eq_none_iff]
  intro x hx
  obtain ⟨i, hi, rfl⟩ := List.getElem_of_mem hx
  have := h i
  rw [List.getElem?_eq_getElem hi] at this
  simpa using this
 unfold fnd; rw [this]
set_option maxHeartbeats 1000000 in
theorem find_any (s : ByteArray) (c : UInt8) (w : World) (hs : s.size ≤ maxLen) : Calls Tryz.prog 210 #[.string s, .int .u8 c.toNat] w fun e w' => e = .returned (.int .i64 (fnd s.data.toList c)) ∧ w = w' := by
 unfold maxLen at hs
 go_enter Tryz.func210, Tryz.ntmps210
 go_wp2
 go_loop [5] (fun i => ∃ k : Nat, k ≤ s.size ∧ i = .int .i64 k ∧ Hid (∀ j, j < k → s.data.toList[j]? ≠ some c)) (fun i => s.size - (intOf i).toNat)
 case atStart => exact ⟨0, Nat.zero_le _, rfl, fun j hj => by omega⟩
 case round =>
  obtain ⟨k, hk, rfl, HH⟩ := hrel
  by_cases hlt : k < s.size
  ·have hd : Hid (s.data.toList[k]? = some s[k]) := List.getElem?_eq_getElem (by simpa using hlt)
   by_cases hc : s[k] = c
   ·have hfin : Hid (fnd s.data.toList c = k) := fnd_hit (by simpa using hlt) hc HH.out
    have ht : ((s[k].toNat : Int) == (c.toNat : Int)) = true := by rw [hc]; simp
    clear hc
    go_wp2
    go_ret
    exact ⟨by rw [hfin.out]; rfl, rfl⟩
   ·have ht : ((s[k].toNat : Int) == (c.toNat : Int)) = false := by
     rw [beq_eq_false_iff_ne]; intro e; exact hc (UInt8.toNat_inj.1 (by exact_mod_cast e))
    have H2 : Hid (∀ j, j < k + 1 → s.data.toList[j]? ≠ some c) := fun j hj => by
     by_cases e : j = k
     ·subst e; rw [hd.out]; simpa using hc
     ·exact HH.out j (by omega)
    clear hc
    go_wp2
    go_round
    case rel => exact ⟨k + 1, by omega, by go_num, H2⟩
    case measure => simp [intOf]; omega
  ·have hfin : Hid (fnd s.data.toList c = -1) := fnd_miss fun j => by
    by_cases hj : j < k
    ·exact HH.out j hj
    ·rw [List.getElem?_eq_none (by simp; omega)]; simp
   go_wp2
   go_ret
   exact ⟨by rw [hfin.out]; rfl, rfl⟩
theorem names_one (w : World) : Calls Tryz.prog 225 #[.bool false] w fun e w' => e = .returned (.string ⟨#[120, 121, 122]⟩) ∧ w = w' := by
 go_enter Tryz.func225, Tryz.ntmps225
 go_wp2
 go_ret
 exact ⟨rfl, rfl⟩
theorem names_two (w : World) : Calls Tryz.prog 225 #[.bool true] w fun e w' => e = .returned (.string ⟨#[120, 121, 122, 88, 89, 90]⟩) ∧ w = w' := by
 go_enter Tryz.func225, Tryz.ntmps225
 go_wp2
 go_ret
 exact ⟨rfl, rfl⟩
end Go.Proofs.YtgkoljphndgoeaaGreatDoor
namespace Go.Proofs.YtgkoljphndgoeaaGreatDoor
open Go.RowKit Tm
def nm (wide : Bool) : ByteArray := if wide then ⟨#[120, 121, 122, 88, 89, 90]⟩ else ⟨#[120, 121, 122]⟩
theorem names_any (wide : Bool) (w : World) : Calls Tryz.prog 225 #[.bool wide] w fun e w' => e = .returned (.string (nm wide)) ∧ w' = w := by
 cases wide
 ·exact (names_one w).mono fun _ _ ⟨h, h2⟩ => ⟨h, h2.symm⟩
 ·exact (names_two w).mono fun _ _ ⟨h, h2⟩ => ⟨h, h2.symm⟩
theorem find_at {s : ByteArray} {c : UInt8} {r : Int} (h : fnd s.data.toList c = r) (w : World) (hs : s.size ≤ maxLen) : Calls Tryz.prog 210 #[.string s, .int .u8 c.toNat] w fun e w' => e = .returned (.int .i64 r) ∧ w' = w := by
 subst h
 exact (find_any s c w hs).mono fun _ _ ⟨h, h2⟩ => ⟨h, h2.symm⟩
theorem fnd_cons (d : UInt8) (l : List UInt8) (c : UInt8) : 0 ≤ fnd (d :: l) c ↔ (c == d) = true ∨ 0 ≤ fnd l c := by
 unfold fnd
 rw [List.findIdx?_cons, show (c == d) = (d == c) by rw [Bool.eq_iff_iff, beq_iff_eq, beq_iff_eq]; exact eq_comm]
 cases h : d == c
 ·simp
  cases l.findIdx? (fun x => x == c) <;> simp
  omega
 ·simp
theorem fnd_nil (c : UInt8) : fnd [] c = -1 := rfl
theorem fnd_neg (l : List UInt8) (c : UInt8) : 0 ≤ fnd l c ∨ fnd l c = -1 := by
 unfold fnd
 split
 ·left; omega
 ·right; rfl
theorem nm_var (wide : Bool) (c : UInt8) : 0 ≤ fnd (nm wide).data.toList c ↔ isVarB wide c = true := by
 cases wide
 ·show 0 ≤ fnd [120, 121, 122] c ↔ _
  simp only [fnd_cons, fnd_nil, isVarB]; simp [or_assoc]
 ·show 0 ≤ fnd [120, 121, 122, 88, 89, 90] c ↔ _
  simp only [fnd_cons, fnd_nil, isVarB]; simp [or_assoc]
theorem dig_fnd (c : UInt8) : 0 ≤ fnd [48, 49, 50] c ↔ isDigB c = true := by
 simp only [fnd_cons, fnd_nil, isDigB]; simp [or_assoc]
theorem op_fnd (c : UInt8) : 0 ≤ fnd [43, 45, 42] c ↔ isOpB c = true := by
 simp only [fnd_cons, fnd_nil, isOpB]; simp [or_assoc]
theorem fnd_yes {l : List UInt8} {c : UInt8} (h : 0 ≤ fnd l c) : ∃ n : Nat, fnd l c = n := ⟨(fnd l c).toNat, by omega⟩
theorem fnd_no {l : List UInt8} {c : UInt8} (h : ¬ 0 ≤ fnd l c) : fnd l c = -1 := (fnd_neg l c).resolve_left h
def Quiet (v : Value) (w : World) (e : Ending) (w' : World) : Prop := e = .returned v ∧ ∃ n, w' = w.drewN n
theorem drop_cons' (s : ByteArray) (pos : Nat) (h : pos < s.size) : s.data.toList.drop pos = s[pos] :: s.data.toList.drop (pos + 1) := by
 rw [List.drop_eq_getElem_cons (by simpa using h)]; rfl
set_option maxHeartbeats 1000000 in
theorem expr_neg (wide : Bool) (s : ByteArray) (a : Int) (w : World) (ha : a < 0) : Calls Tryz.prog 226 #[.string s, .int .i64 a, .bool wide] w (Quiet (.int .i64 (-1)) w) := by
 go_enter Tryz.func226, Tryz.ntmps226
 go_wp2_with fail
 go_ret
 exact ⟨rfl, 0, rfl⟩
set_option maxHeartbeats 1000000 in
theorem expr_past (wide : Bool) (s : ByteArray) (a : Nat) (w : World) (ha : s.size ≤ a) : Calls Tryz.prog 226 #[.string s, .int .i64 a, .bool wide] w (Quiet (.int .i64 (-1)) w) := by
 have h0 : (0 : Int) ≤ (a : Int) := by omega
 have h1 : ¬ (a : Int) < (s.size : Int) := by omega
 go_enter Tryz.func226, Tryz.ntmps226
 go_wp2_with fail
 go_ret
 exact ⟨rfl, 0, rfl⟩
theorem nm_le (wide : Bool) : (nm wide).size ≤ maxLen := by cases wide <;> simp [nm, maxLen, ByteArray.size]
set_option maxHeartbeats 1000000 in
theorem expr_leaf (wide : Bool) (s : ByteArray) (a : Nat) (w : World) (hs : s.size ≤ 1000000) (ha : a < s.size) (hc : (isVarB wide s[a] || isDigB s[a]) = true) : Calls Tryz.prog 226 #[.string s, .int .i64 a, .bool wide] w (Quiet (.int .i64 (a + 1)) w) := by
 have h0 : (0 : Int) ≤ (a : Int) := by omega
 have h1 : (a : Int) < (s.size : Int) := by omega
 have hnm := nm_le wide
 by_cases hv : isVarB wide s[a] = true
 ·obtain ⟨n, hn⟩ := fnd_yes ((nm_var wide s[a]).2 hv)
  have hn0 : (0 : Int) ≤ (n : Int) := by omega
  have HN := Lib.hid hn
  clear hn hc hv
  go_enter Tryz.func226, Tryz.ntmps226
  go_wp2_with fail
  go_quiet ((first | (go_at_call 225; exact Calls.quiet_of_same (names_any _ _)) | (go_at_call 210; exact Calls.quiet_of_same (find_at HN.out _ hnm))))
  go_wp2_with fail
  go_ret
  exact ⟨rfl, nq, rfl⟩
 ·have hd : isDigB s[a] = true := by simpa [hv] using hc
  have HM := Lib.hid (fnd_no (fun h => hv ((nm_var wide s[a]).1 h)))
  obtain ⟨n, hn⟩ := fnd_yes ((dig_fnd s[a]).2 hd)
  have hn0 : (0 : Int) ≤ (n : Int) := by omega
  have HN := Lib.hid hn
  clear hn hc hv hd
  go_enter Tryz.func226, Tryz.ntmps226
  go_wp2_with fail
  go_quiet ((first | (go_at_call 225; exact Calls.quiet_of_same (names_any _ _)) | (go_at_call 210; first | (with_reducible exact Calls.quiet_of_same (find_at HM.out _ hnm)) | (exact Calls.quiet_of_same (find_at (s := ⟨#[48, 49, 50]⟩) HN.out _ (by decide))))))
  go_wp2_with fail
  go_ret
  exact ⟨rfl, nq, rfl⟩
set_option maxHeartbeats 1000000 in
theorem expr_bad (wide : Bool) (s : ByteArray) (a : Nat) (w : World) (_hs : s.size ≤ 1000000) (ha : a < s.size) (hv : ¬ isVarB wide s[a] = true) (hd : ¬ isDigB s[a] = true) (ho : ¬ isOpB s[a] = true) : Calls Tryz.prog 226 #[.string s, .int .i64 a, .bool wide] w (Quiet (.int .i64 (-1)) w) := by
 have h0 : (0 : Int) ≤ (a : Int) := by omega
 have h1 : (a : Int) < (s.size : Int) := by omega
 have hnm := nm_le wide
 have HM := Lib.hid (fnd_no (fun h => hv ((nm_var wide s[a]).1 h)))
 have HN := Lib.hid (fnd_no (fun h => hd ((dig_fnd s[a]).1 h)))
 have HO := Lib.hid (fnd_no (fun h => ho ((op_fnd s[a]).1 h)))
 clear hv hd ho
 go_enter Tryz.func226, Tryz.ntmps226
 go_wp2_with fail
 go_quiet ((first | (go_at_call 225; exact Calls.quiet_of_same (names_any _ _)) | (go_at_call 210; first | (with_reducible exact Calls.quiet_of_same (find_at HM.out _ hnm)) | (exact Calls.quiet_of_same (find_at (s := ⟨#[48, 49, 50]⟩) HN.out _ (by decide))))))
 go_wp2_with fail
 refine (find_at (s := ⟨#[43, 45, 42]⟩) HO.out _ (by decide)).mono ?_
 rintro e w' ⟨rfl, rfl⟩
 go_wp2_with fail
 go_ret
 exact ⟨rfl, nq, rfl⟩
set_option maxHeartbeats 1000000 in
theorem expr_op (wide : Bool) (s : ByteArray) (a : Nat) (w : World) (hs : s.size ≤ 1000000) (ha : a < s.size) (hv : ¬ isVarB wide s[a] = true) (hd : ¬ isDigB s[a] = true) (ho : isOpB s[a] = true) (r1 r2 : Int)
  (c1 : ∀ w, Calls Tryz.prog 226 #[.string s, .int .i64 (a + 1), .bool wide] w (Quiet (.int .i64 r1) w)) (c2 : ∀ w, Calls Tryz.prog 226 #[.string s, .int .i64 r1, .bool wide] w (Quiet (.int .i64 r2) w)) :
  Calls Tryz.prog 226 #[.string s, .int .i64 a, .bool wide] w (Quiet (.int .i64 r2) w) := by
 have h0 : (0 : Int) ≤ (a : Int) := by omega
 have h1 : (a : Int) < (s.size : Int) := by omega
 have hnm := nm_le wide
 have HM := Lib.hid (fnd_no (fun h => hv ((nm_var wide s[a]).1 h)))
 have HN := Lib.hid (fnd_no (fun h => hd ((dig_fnd s[a]).1 h)))
 obtain ⟨n, hn⟩ := fnd_yes ((op_fnd s[a]).2 ho)
 have hn0 : (0 : Int) ≤ (n : Int) := by omega
 have HO := Lib.hid hn
 have C1 := Lib.hid c1
 have C2 := Lib.hid c2
 clear hv hd ho hn c1 c2
 go_enter Tryz.func226, Tryz.ntmps226
 go_wp2_with fail
 go_quiet ((first | (go_at_call 225; exact Calls.quiet_of_same (names_any _ _)) | (go_at_call 210; first | (with_reducible exact Calls.quiet_of_same (find_at HM.out _ hnm)) | (exact Calls.quiet_of_same (find_at (s := ⟨#[48, 49, 50]⟩) HN.out _ (by decide))))))
 go_wp2_with fail
 refine (find_at (s := ⟨#[43, 45, 42]⟩) HO.out _ (by decide)).mono ?_
 rintro e w' ⟨rfl, rfl⟩
 go_wp2_with fail
 refine (C1.out _).mono ?_
 rintro e w' ⟨rfl, n1, rfl⟩
 go_wp2_with fail
 refine (C2.out _).mono ?_
 rintro e w' ⟨rfl, n2, rfl⟩
 go_wp2_with fail
 go_ret
 exact ⟨rfl, nq + n1 + n2, rfl⟩
theorem opk_e (wide : Bool) (c : UInt8) : opk wide false c = if isVarB wide c || isDigB c then some [] else if isOpB c then some [false, false] else none := rfl
theorem expr_at (wide : Bool) (s : ByteArray) (hs : s.size ≤ 1000000) : ∀ (m : Nat) (a r : Int) (w : World), (s.size : Int) - a ≤ m → PrefAt wide false s.data.toList a r → Calls Tryz.prog 226 #[.string s, .int .i64 a, .bool wide] w (Quiet (.int .i64 r) w) := by
 intro m
 induction m with
 | zero =>
  intro a r w hm hr
  obtain ⟨i, rfl⟩ := Int.eq_ofNat_of_zero_le (show 0 ≤ a by omega)
  obtain rfl := hr.uniq (PrefAt.past (show s.data.toList.length ≤ i by simp; omega))
  exact expr_past wide s i w (by omega)
 | succ m ih =>
  intro a r w hm hr
  by_cases ha : a < 0
  ·obtain rfl := hr.uniq (PrefAt.neg ha)
   exact expr_neg wide s a w ha
  ·obtain ⟨i, rfl⟩ := Int.eq_ofNat_of_zero_le (show 0 ≤ a by omega)
   by_cases hi : i < s.size
   ·have hd := drop_cons' s i hi
    by_cases hl : (isVarB wide s[i] || isDigB s[i]) = true
    ·obtain rfl := hr.uniq (PrefAt.leaf hd (by rw [opk_e, if_pos hl]))
     exact expr_leaf wide s i w hs hi hl
    ·have hv : ¬ isVarB wide s[i] = true := fun h => hl (by rw [h]; rfl)
     have hdg : ¬ isDigB s[i] = true := fun h => hl (by rw [h, Bool.or_true])
     by_cases ho : isOpB s[i] = true
     ·obtain ⟨r1, h1⟩ := PrefAt.exists wide false s.data.toList (i + 1)
      obtain ⟨r2, h2⟩ := PrefAt.exists wide false s.data.toList r1
      obtain rfl := hr.uniq (PrefAt.bin hd (by rw [opk_e, if_neg hl, if_pos ho]) h1 h2)
      refine expr_op wide s i w hs hi hv hdg ho r1 _ (fun w => ih _ _ w (by omega) h1) (fun w => ?_)
      rcases h1.lo with h | h
      ·subst h
       obtain rfl := h2.uniq (PrefAt.neg (by omega))
       exact expr_neg wide s _ w (by omega)
      ·exact ih _ _ w (by omega) h2
     ·obtain rfl := hr.uniq (PrefAt.bad hd (by rw [opk_e, if_neg hl, if_neg ho]))
      exact expr_bad wide s i w hs hi hv hdg ho
   ·obtain rfl := hr.uniq (PrefAt.past (show s.data.toList.length ≤ i by simp; omega))
    exact expr_past wide s i w (by omega)
theorem expr_any (wide : Bool) (s : ByteArray) (hs : s.size ≤ 1000000) (a r : Int) (w : World) (hr : PrefAt wide false s.data.toList a r) : Calls Tryz.prog 226 #[.string s, .int .i64 a, .bool wide] w (Quiet (.int .i64 r) w) := by
 exact expr_at wide s hs ((s.size : Int) - a).toNat a r w (by omega) hr
set_option maxHeartbeats 1000000 in
theorem test_neg (wide : Bool) (s : ByteArray) (a : Int) (w : World) (ha : a < 0) : Calls Tryz.prog 207 #[.string s, .int .i64 a, .bool wide] w (Quiet (.int .i64 (-1)) w) := by
 go_enter Tryz.func207, Tryz.ntmps207
 go_wp2_with fail
 go_ret
 exact ⟨rfl, 0, rfl⟩
set_option maxHeartbeats 1000000 in
theorem test_past (wide : Bool) (s : ByteArray) (a : Nat) (w : World) (ha : s.size ≤ a) : Calls Tryz.prog 207 #[.string s, .int .i64 a, .bool wide] w (Quiet (.int .i64 (-1)) w) := by
 have h0 : (0 : Int) ≤ (a : Int) := by omega
 have h1 : ¬ (a : Int) < (s.size : Int) := by omega
 go_enter Tryz.func207, Tryz.ntmps207
 go_wp2_with fail
 go_ret
 exact ⟨rfl, 0, rfl⟩
set_option maxHeartbeats 2000000 in
theorem test_leaf (wide : Bool) (s : ByteArray) (a : Nat) (w : World) (hs : s.size ≤ 1000000) (ha : a < s.size) (hc : s[a].toNat = 116 ∨ s[a].toNat = 102) : Calls Tryz.prog 207 #[.string s, .int .i64 a, .bool wide] w (Quiet (.int .i64 (a + 1)) w) := by
 have h0 : (0 : Int) ≤ (a : Int) := by omega
 have h1 : (a : Int) < (s.size : Int) := by omega
 rcases hc with hc | hc
 all_goals
  go_enter Tryz.func207, Tryz.ntmps207
  go_wp2_with fail
  go_ret
  exact ⟨rfl, 0, rfl⟩
set_option maxHeartbeats 2000000 in
theorem test_cmp (wide : Bool) (s : ByteArray) (a : Nat) (w : World) (hs : s.size ≤ 1000000) (ha : a < s.size) (hc : s[a].toNat = 61 ∨ s[a].toNat = 60) (r1 r2 : Int)
  (c1 : ∀ w, Calls Tryz.prog 226 #[.string s, .int .i64 (a + 1), .bool wide] w (Quiet (.int .i64 r1) w)) (c2 : ∀ w, Calls Tryz.prog 226 #[.string s, .int .i64 r1, .bool wide] w (Quiet (.int .i64 r2) w)) :
  Calls Tryz.prog 207 #[.string s, .int .i64 a, .bool wide] w (Quiet (.int .i64 r2) w) := by
 have h0 : (0 : Int) ≤ (a : Int) := by omega
 have h1 : (a : Int) < (s.size : Int) := by omega
 have C1 := Lib.hid c1
 have C2 := Lib.hid c2
 clear c1 c2
 rcases hc with hc | hc
 all_goals
  go_enter Tryz.func207, Tryz.ntmps207
  go_wp2_with fail
  refine (C1.out _).mono ?_
  rintro e w' ⟨rfl, n1, rfl⟩
  go_wp2_with fail
  refine (C2.out _).mono ?_
  rintro e w' ⟨rfl, n2, rfl⟩
  go_wp2_with fail
  go_ret
  exact ⟨rfl, n1 + n2, rfl⟩
set_option maxHeartbeats 2000000 in
theorem test_bin (wide : Bool) (s : ByteArray) (a : Nat) (w : World) (hs : s.size ≤ 1000000) (ha : a < s.size) (hc : s[a].toNat = 38 ∨ s[a].toNat = 124) (r1 r2 : Int)
  (c1 : ∀ w, Calls Tryz.prog 207 #[.string s, .int .i64 (a + 1), .bool wide] w (Quiet (.int .i64 r1) w)) (c2 : ∀ w, Calls Tryz.prog 207 #[.string s, .int .i64 r1, .bool wide] w (Quiet (.int .i64 r2) w)) :
  Calls Tryz.prog 207 #[.string s, .int .i64 a, .bool wide] w (Quiet (.int .i64 r2) w) := by
 have h0 : (0 : Int) ≤ (a : Int) := by omega
 have h1 : (a : Int) < (s.size : Int) := by omega
 have C1 := Lib.hid c1
 have C2 := Lib.hid c2
 clear c1 c2
 rcases hc with hc | hc
 all_goals
  go_enter Tryz.func207, Tryz.ntmps207
  go_wp2_with fail
  refine (C1.out _).mono ?_
  rintro e w' ⟨rfl, n1, rfl⟩
  go_wp2_with fail
  refine (C2.out _).mono ?_
  rintro e w' ⟨rfl, n2, rfl⟩
  go_wp2_with fail
  go_ret
  exact ⟨rfl, n1 + n2, rfl⟩
set_option maxHeartbeats 2000000 in
theorem test_not (wide : Bool) (s : ByteArray) (a : Nat) (w : World) (hs : s.size ≤ 1000000) (ha : a < s.size) (hc : s[a].toNat = 33) (r1 : Int)
  (c1 : ∀ w, Calls Tryz.prog 207 #[.string s, .int .i64 (a + 1), .bool wide] w (Quiet (.int .i64 r1) w)) : Calls Tryz.prog 207 #[.string s, .int .i64 a, .bool wide] w (Quiet (.int .i64 r1) w) := by
 have h0 : (0 : Int) ≤ (a : Int) := by omega
 have h1 : (a : Int) < (s.size : Int) := by omega
 have C1 := Lib.hid c1
 clear c1
 go_enter Tryz.func207, Tryz.ntmps207
 go_wp2_with fail
 refine (C1.out _).mono ?_
 rintro e w' ⟨rfl, n1, rfl⟩
 go_wp2_with fail
 go_ret
 exact ⟨rfl, n1, rfl⟩
theorem byte_ne {c : UInt8} {d : UInt8} (h : (c == d) = false) : ((c.toNat : Int) == (d.toNat : Int)) = false := by
 rw [beq_eq_false_iff_ne] at h ⊢
 intro e; exact h (UInt8.toNat_inj.1 (by exact_mod_cast e))
set_option maxHeartbeats 2000000 in
theorem test_bad (wide : Bool) (s : ByteArray) (a : Nat) (w : World) (_hs : s.size ≤ 1000000) (ha : a < s.size) (hc : opk wide true s[a] = none) : Calls Tryz.prog 207 #[.string s, .int .i64 a, .bool wide] w (Quiet (.int .i64 (-1)) w) := by
 have h0 : (0 : Int) ≤ (a : Int) := by omega
 have h1 : (a : Int) < (s.size : Int) := by omega
 have hn : (s[a] == 116) = false ∧ (s[a] == 102) = false ∧ (s[a] == 61) = false ∧ (s[a] == 60) = false ∧ (s[a] == 33) = false ∧ (s[a] == 38) = false ∧ (s[a] == 124) = false := by
  generalize s[a] = c at hc
  unfold opk at hc
  simp only [if_true] at hc
  by_cases h1 : (c == 116 || c == 102) = true
  ·rw [if_pos h1] at hc; cases hc
  rw [if_neg h1] at hc
  by_cases h2 : (c == 61 || c == 60) = true
  ·rw [if_pos h2] at hc; cases hc
  rw [if_neg h2] at hc
  by_cases h3 : (c == 33) = true
  ·rw [if_pos h3] at hc; cases hc
  rw [if_neg h3] at hc
  by_cases h4 : (c == 38 || c == 124) = true
  ·rw [if_pos h4] at hc; cases hc
  simp only [Bool.not_eq_true, Bool.or_eq_false_iff] at h1 h2 h3 h4
  exact ⟨h1.1, h1.2, h2.1, h2.2, h3, h4.1, h4.2⟩
 obtain ⟨n1, n2, n3, n4, n5, n6, n7⟩ := hn
 have m1 := byte_ne n1; have m2 := byte_ne n2; have m3 := byte_ne n3; have m4 := byte_ne n4; have m5 := byte_ne n5; have m6 := byte_ne n6; have m7 := byte_ne n7
 simp at m1 m2 m3 m4 m5 m6 m7
 clear n1 n2 n3 n4 n5 n6 n7 hc
 go_enter Tryz.func207, Tryz.ntmps207
 go_wp2_with fail
 go_ret
 exact ⟨rfl, 0, rfl⟩
theorem opk_t {wide : Bool} {c : UInt8} {l : List Bool} (h : opk wide true c = some l) :
  (l = [] ∧ (c.toNat = 116 ∨ c.toNat = 102)) ∨ (l = [false, false] ∧ (c.toNat = 61 ∨ c.toNat = 60)) ∨ (l = [true] ∧ c.toNat = 33) ∨ (l = [true, true] ∧ (c.toNat = 38 ∨ c.toNat = 124)) := by
 unfold opk at h
 simp only [if_true] at h
 by_cases h1 : (c == 116 || c == 102) = true
 ·rw [if_pos h1] at h; cases h
  simp at h1; left; rcases h1 with rfl | rfl <;> simp
 rw [if_neg h1] at h
 by_cases h2 : (c == 61 || c == 60) = true
 ·rw [if_pos h2] at h; cases h
  simp at h2; right; left; rcases h2 with rfl | rfl <;> simp
 rw [if_neg h2] at h
 by_cases h3 : (c == 33) = true
 ·rw [if_pos h3] at h; cases h
  simp at h3; subst h3; simp
 rw [if_neg h3] at h
 by_cases h4 : (c == 38 || c == 124) = true
 ·rw [if_pos h4] at h; cases h
  simp at h4; right; right; right; rcases h4 with rfl | rfl <;> simp
 rw [if_neg h4] at h; cases h
theorem test_at (wide : Bool) (s : ByteArray) (hs : s.size ≤ 1000000) : ∀ (m : Nat) (a r : Int) (w : World), (s.size : Int) - a ≤ m → PrefAt wide true s.data.toList a r → Calls Tryz.prog 207 #[.string s, .int .i64 a, .bool wide] w (Quiet (.int .i64 r) w) := by
 intro m
 induction m with
 | zero =>
  intro a r w hm hr
  obtain ⟨i, rfl⟩ := Int.eq_ofNat_of_zero_le (show 0 ≤ a by omega)
  obtain rfl := hr.uniq (PrefAt.past (show s.data.toList.length ≤ i by simp; omega))
  exact test_past wide s i w (by omega)
 | succ m ih =>
  intro a r w hm hr
  by_cases ha : a < 0
  ·obtain rfl := hr.uniq (PrefAt.neg ha)
   exact test_neg wide s a w ha
  ·obtain ⟨i, rfl⟩ := Int.eq_ofNat_of_zero_le (show 0 ≤ a by omega)
   by_cases hi : i < s.size
   ·have hd := drop_cons' s i hi
    cases ho : opk wide true s[i] with
    | none =>
     obtain rfl := hr.uniq (PrefAt.bad hd ho)
     exact test_bad wide s i w hs hi ho
    | some l =>
     rcases opk_t ho with ⟨rfl, hc⟩ | ⟨rfl, hc⟩ | ⟨rfl, hc⟩ | ⟨rfl, hc⟩
     ·obtain rfl := hr.uniq (PrefAt.leaf hd ho)
      exact test_leaf wide s i w hs hi hc
     ·obtain ⟨r1, h1⟩ := PrefAt.exists wide false s.data.toList (i + 1)
      obtain ⟨r2, h2⟩ := PrefAt.exists wide false s.data.toList r1
      obtain rfl := hr.uniq (PrefAt.bin hd ho h1 h2)
      exact test_cmp wide s i w hs hi hc r1 _ (fun w => expr_any wide s hs _ _ w h1) (fun w => expr_any wide s hs _ _ w h2)
     ·obtain ⟨r1, h1⟩ := PrefAt.exists wide true s.data.toList (i + 1)
      obtain rfl := hr.uniq (PrefAt.un hd ho h1)
      exact test_not wide s i w hs hi hc _ (fun w => ih _ _ w (by omega) h1)
     ·obtain ⟨r1, h1⟩ := PrefAt.exists wide true s.data.toList (i + 1)
      obtain ⟨r2, h2⟩ := PrefAt.exists wide true s.data.toList r1
      obtain rfl := hr.uniq (PrefAt.bin hd ho h1 h2)
      refine test_bin wide s i w hs hi hc r1 _ (fun w => ih _ _ w (by omega) h1) (fun w => ?_)
      rcases h1.lo with h | h
      ·subst h
       obtain rfl := h2.uniq (PrefAt.neg (by omega))
       exact test_neg wide s _ w (by omega)
      ·exact ih _ _ w (by omega) h2
   ·obtain rfl := hr.uniq (PrefAt.past (show s.data.toList.length ≤ i by simp; omega))
    exact test_past wide s i w (by omega)
theorem test_any (wide : Bool) (s : ByteArray) (hs : s.size ≤ 1000000) (a r : Int) (w : World) (hr : PrefAt wide true s.data.toList a r) : Calls Tryz.prog 207 #[.string s, .int .i64 a, .bool wide] w (Quiet (.int .i64 r) w) := by
 exact test_at wide s hs ((s.size : Int) - a).toNat a r w (by omega) hr
theorem below_of_drewN {B : Nat} {a w : World} (h : Below B a w) (n : Nat) : Below B a (w.drewN n) := h.trans ⟨rfl, rfl, rfl, Nat.le_refl _, fun _ _ => rfl⟩
def cmp3 (c : UInt8) (a b : Int) : Int := if c = 43 then (a + b) % 3 else if c = 45 then (a - b + 3) % 3 else a * b % 3
def val (e : Nat → Int) : Tm → Int
 | .leaf c => if c = 120 then e 0 else if c = 121 then e 1 else if c = 122 then e 2 else if c = 88 then e 3 else if c = 89 then e 4 else if c = 90 then e 5 else c.toNat - 48
 | .un _ _ => 0
 | .bin c a b => cmp3 c (val e a) (val e b)
def one (x y z : Int) : Nat → Int
 | 0 => x
 | 1 => y
 | 2 => z
 | _ => 0
theorem cmp3_bd (c : UInt8) {a b : Int} (_ha : 0 ≤ a ∧ a ≤ 2) (_hb : 0 ≤ b ∧ b ≤ 2) : 0 ≤ cmp3 c a b ∧ cmp3 c a b ≤ 2 := by
 unfold cmp3
 split
 ·omega
 ·split
  ·omega
  ·exact ⟨Int.emod_nonneg _ (by omega), by have := Int.emod_lt_of_pos (a * b) (show (0 : Int) < 3 by omega); omega⟩
theorem ok_expr {wide : Bool} {t : Tm} (h : Ok wide false t) : (∃ c, t = .leaf c ∧ (isVarB wide c || isDigB c) = true) ∨ (∃ c a b, t = .bin c a b ∧ isOpB c = true ∧ Ok wide false a ∧ Ok wide false b) := by
 cases t with
 | leaf c =>
  left
  simp only [Ok, opk_e] at h
  split at h
  ·rename_i hh; exact ⟨c, rfl, hh⟩
  ·split at h <;> cases h
 | un c a =>
  obtain ⟨k1, h, _⟩ := h
  rw [opk_e] at h
  split at h
  ·cases h
  ·split at h <;> cases h
 | bin c a b =>
  right
  obtain ⟨k1, k2, h, ha, hb⟩ := h
  rw [opk_e] at h
  split at h
  ·cases h
  ·split at h
   ·rename_i hh; cases h; exact ⟨c, a, b, rfl, hh, ha, hb⟩
   ·cases h
theorem op_cases {c : UInt8} (h : isOpB c = true) : c = 43 ∨ c = 45 ∨ c = 42 := by
 simp [isOpB] at h; rcases h with (h | h) | h <;> simp [h]
theorem val_bd {wide : Bool} {e : Nat → Int} (he : ∀ i, 0 ≤ e i ∧ e i ≤ 2) : ∀ {t : Tm}, Ok wide false t → 0 ≤ val e t ∧ val e t ≤ 2 := by
 intro t
 induction t with
 | leaf c =>
  intro h
  rcases ok_expr h with ⟨c', e1, hc⟩ | ⟨c', a, b, e1, _⟩
  ·cases e1
   simp only [val]
   by_cases h1 : c = 120
   ·rw [if_pos h1]; exact he 0
   rw [if_neg h1]
   by_cases h2 : c = 121
   ·rw [if_pos h2]; exact he 1
   rw [if_neg h2]
   by_cases h3 : c = 122
   ·rw [if_pos h3]; exact he 2
   rw [if_neg h3]
   by_cases h4 : c = 88
   ·rw [if_pos h4]; exact he 3
   rw [if_neg h4]
   by_cases h5 : c = 89
   ·rw [if_pos h5]; exact he 4
   rw [if_neg h5]
   by_cases h6 : c = 90
   ·rw [if_pos h6]; exact he 5
   rw [if_neg h6]
   simp [isVarB, isDigB, h1, h2, h3, h4, h5, h6] at hc
   rcases hc with (rfl | rfl) | rfl <;> decide
  ·cases e1
 | un c a _ => intro _; simp [val]
 | bin c a b iha ihb =>
  intro h
  rcases ok_expr h with ⟨c', e1, _⟩ | ⟨c', a', b', e1, _, h2, h3⟩
  ·cases e1
  ·cases e1
   exact cmp3_bd c (iha h2) (ihb h3)
theorem cell_keep {w w' : World} {b o : Nat} {v : Value} (hb : Below w.heap.size w w') (h : w.cell? ⟨b, o, none⟩ = some v) : w'.cell? ⟨b, o, none⟩ = some v := (hb.cell (p := ⟨b, o, none⟩) (cell_lt h)).trans h
set_option maxHeartbeats 1000000 in
theorem compute_any (c : UInt8) (a b : Int) (w : World) (hc : c = 43 ∨ c = 45 ∨ c = 42) (ha0 : 0 ≤ a) (ha : a ≤ 2) (hb0 : 0 ≤ b) (hb : b ≤ 2) :
  Calls Tryz.prog 273 #[.int .u8 c.toNat, .int .i64 a, .int .i64 b] w fun e w' => e = .returned (.int .i64 (cmp3 c a b)) ∧ w = w' := by
 rcases hc with rfl | rfl | rfl
 ·go_enter Tryz.func273, Tryz.ntmps273
  go_wp2_with fail
  go_ret
  exact ⟨rfl, rfl⟩
 ·go_enter Tryz.func273, Tryz.ntmps273
  go_wp2_with fail
  go_ret
  exact ⟨rfl, rfl⟩
 ·have h1 : 0 ≤ a * b := Int.mul_nonneg ha0 hb0
  have h2 : a * b ≤ 4 := by
   have := Int.mul_le_mul ha hb hb0 (show (0 : Int) ≤ 2 by omega)
   omega
  go_enter Tryz.func273, Tryz.ntmps273
  go_wp2_with fail
  go_ret
  exact ⟨rfl, rfl⟩
theorem vleaf_cases {c : UInt8} (h : (isVarB true c || isDigB c) = true) : c = 120 ∨ c = 121 ∨ c = 122 ∨ c = 88 ∨ c = 89 ∨ c = 90 ∨ c = 48 ∨ c = 49 ∨ c = 50 := by
 simp [isVarB, isDigB] at h; rcases h with (((h | h) | h) | ((h | h) | h)) | ((h | h) | h) <;> simp [h]
set_option maxHeartbeats 1000000 in
theorem value_leaf (c : UInt8) (y : Value) (E : Nat → Int) (w : World) (hc : c = 120 ∨ c = 121 ∨ c = 122 ∨ c = 88 ∨ c = 89 ∨ c = 90 ∨ c = 48 ∨ c = 49 ∨ c = 50) (a : Option Addr) (n : Nat) (hy : y = .slice a 0 n) :
  Calls Tryz.prog 247 #[.agg #[.int .u8 c.toNat, y], .agg #[.int .i64 (E 0), .int .i64 (E 1), .int .i64 (E 2), .int .i64 (E 3), .int .i64 (E 4), .int .i64 (E 5)]] w fun e w' => e = .returned (.int .i64 (val (E) (.leaf c))) ∧ Below w.heap.size w w' := by
 subst hy
 rcases hc with rfl | rfl | rfl | rfl | rfl | rfl | rfl | rfl | rfl
 all_goals
  go_enter Tryz.func247, Tryz.ntmps247
  go_wp2_with fail
  go_ret
  exact ⟨rfl, ((Below.refl _ _).alloc (Nat.le_refl _) _).alloc (by simp) _⟩
set_option maxRecDepth 100000 in
set_option maxHeartbeats 2000000 in
theorem value_bin (c : UInt8) (va vb : Int) (E : Nat → Int) (w : World) (hc : c = 43 ∨ c = 45 ∨ c = 42) (b n : Nat) (x1 x2 : Int) (p1 p2 : Option Addr) (m1 m2 n1 n2 : Nat)
  (k0 : w.cell? ⟨b, 0, none⟩ = some (.int .u8 x1)) (k1 : w.cell? ⟨b, 1, none⟩ = some (.slice p1 m1 n1)) (k2 : w.cell? ⟨b, 2, none⟩ = some (.int .u8 x2)) (k3 : w.cell? ⟨b, 3, none⟩ = some (.slice p2 m2 n2))
  (ha0 : 0 ≤ va) (ha : va ≤ 2) (hb0 : 0 ≤ vb) (hb : vb ≤ 2)
  (c1 : ∀ w', Below w.heap.size w w' → Calls Tryz.prog 247 #[.agg #[.int .u8 x1, .slice p1 m1 n1], .agg #[.int .i64 (E 0), .int .i64 (E 1), .int .i64 (E 2), .int .i64 (E 3), .int .i64 (E 4), .int .i64 (E 5)]] w' fun e w2 => e = .returned (.int .i64 va) ∧ Below w'.heap.size w' w2)
  (c2 : ∀ w', Below w.heap.size w w' → Calls Tryz.prog 247 #[.agg #[.int .u8 x2, .slice p2 m2 n2], .agg #[.int .i64 (E 0), .int .i64 (E 1), .int .i64 (E 2), .int .i64 (E 3), .int .i64 (E 4), .int .i64 (E 5)]] w' fun e w2 => e = .returned (.int .i64 vb) ∧ Below w'.heap.size w' w2) :
  Calls Tryz.prog 247 #[.agg #[.int .u8 c.toNat, .slice (some ⟨b, 0, none⟩) 2 n], .agg #[.int .i64 (E 0), .int .i64 (E 1), .int .i64 (E 2), .int .i64 (E 3), .int .i64 (E 4), .int .i64 (E 5)]] w fun e w' => e = .returned (.int .i64 (cmp3 c va vb)) ∧ Below w.heap.size w w' := by
 have C1 := Lib.hid c1
 have C2 := Lib.hid c2
 have hlt := cell_lt k0
 clear c1 c2
 rcases hc with rfl | rfl | rfl
 ·have K : Hid (∀ w, Calls Tryz.prog 273 #[.int .u8 43, .int .i64 va, .int .i64 vb] w fun e w' => e = .returned (.int .i64 (cmp3 43 va vb)) ∧ w = w') := fun w => compute_any 43 va vb w (by simp) ha0 ha hb0 hb
  go_enter Tryz.func247, Tryz.ntmps247
  go_wp2_with fail
  have t0 := (heap_at_old (heap_at_new (w := w) (o := .cells #[.int .u8 43, .slice (some ⟨b, 0, none⟩) 2 n] 110) rfl) : (World.alloc _ (.cells #[.int .i64 (E 0), .int .i64 (E 1), .int .i64 (E 2), .int .i64 (E 3), .int .i64 (E 4), .int .i64 (E 5)] 242)).heap[_]? = _)
  have t1 := (heap_at_new (w := w.alloc (.cells #[.int .u8 43, .slice (some ⟨b, 0, none⟩) 2 n] 110)) (o := .cells #[.int .i64 (E 0), .int .i64 (E 1), .int .i64 (E 2), .int .i64 (E 3), .int .i64 (E 4), .int .i64 (E 5)] 242) (k := w.heap.size + 1) (by simp))
  have hB := ((Below.refl w.heap.size w).alloc (Nat.le_refl _) (.cells #[.int .u8 43, .slice (some ⟨b, 0, none⟩) 2 n] 110)).alloc (by simp) (.cells #[.int .i64 (E 0), .int .i64 (E 1), .int .i64 (E 2), .int .i64 (E 3), .int .i64 (E 4), .int .i64 (E 5)] 242)
  generalize (w.alloc (.cells #[.int .u8 43, .slice (some ⟨b, 0, none⟩) 2 n] 110)).alloc (.cells #[.int .i64 (E 0), .int .i64 (E 1), .int .i64 (E 2), .int .i64 (E 3), .int .i64 (E 4), .int .i64 (E 5)] 242) = W0 at *
  have q0 : W0.cell? ⟨w.heap.size, 0, none⟩ = some (.int .u8 43) := by rw [cell_of_row W0 _ 0 _ _ (0, 0) t0]; rfl
  have q1 : W0.cell? ⟨w.heap.size, 1, none⟩ = some (.slice (some ⟨b, 0, none⟩) 2 n) := by rw [cell_of_row W0 _ 1 _ _ (0, 0) t0]; rfl
  have q2 : W0.cell? ⟨w.heap.size + 1, 0, none⟩ = some (.int .i64 (E 0)) := by rw [cell_of_row W0 _ 0 _ _ (0, 0) t1]; rfl
  have q3 : W0.cell? ⟨w.heap.size + 1, 1, none⟩ = some (.int .i64 (E 1)) := by rw [cell_of_row W0 _ 1 _ _ (0, 0) t1]; rfl
  have q4 : W0.cell? ⟨w.heap.size + 1, 2, none⟩ = some (.int .i64 (E 2)) := by rw [cell_of_row W0 _ 2 _ _ (0, 0) t1]; rfl
  have q5 : W0.cell? ⟨w.heap.size + 1, 3, none⟩ = some (.int .i64 (E 3)) := by rw [cell_of_row W0 _ 3 _ _ (0, 0) t1]; rfl
  have q6 : W0.cell? ⟨w.heap.size + 1, 4, none⟩ = some (.int .i64 (E 4)) := by rw [cell_of_row W0 _ 4 _ _ (0, 0) t1]; rfl
  have q7 : W0.cell? ⟨w.heap.size + 1, 5, none⟩ = some (.int .i64 (E 5)) := by rw [cell_of_row W0 _ 5 _ _ (0, 0) t1]; rfl
  have j0 := cell_keep hB k0
  have j1 := cell_keep hB k1
  have j2 := cell_keep hB k2
  have j3 := cell_keep hB k3
  have hB' := hB.drew
  clear k0 k1 k2 k3 t0 t1
  go_region_held3 (fun w' => Below w.heap.size w w' ∧ w'.cell? ⟨w.heap.size, 0, none⟩ = some (.int .u8 43) ∧ w'.cell? ⟨w.heap.size, 1, none⟩ = some (.slice (some ⟨b, 0, none⟩) 2 n) ∧
    w'.cell? ⟨w.heap.size + 1, 0, none⟩ = some (.int .i64 (E 0)) ∧ w'.cell? ⟨w.heap.size + 1, 1, none⟩ = some (.int .i64 (E 1)) ∧ w'.cell? ⟨w.heap.size + 1, 2, none⟩ = some (.int .i64 (E 2)) ∧ w'.cell? ⟨w.heap.size + 1, 3, none⟩ = some (.int .i64 (E 3)) ∧ w'.cell? ⟨w.heap.size + 1, 4, none⟩ = some (.int .i64 (E 4)) ∧ w'.cell? ⟨w.heap.size + 1, 5, none⟩ = some (.int .i64 (E 5)) ∧
    w'.cell? ⟨b, 0, none⟩ = some (.int .u8 x1) ∧ w'.cell? ⟨b, 1, none⟩ = some (.slice p1 m1 n1) ∧ w'.cell? ⟨b, 2, none⟩ = some (.int .u8 x2) ∧ w'.cell? ⟨b, 3, none⟩ = some (.slice p2 m2 n2))
   ((go_split_ands; refine ⟨?_, ?_, ?_, ?_, ?_, ?_, ?_, ?_, ?_, ?_, ?_, ?_, ?_⟩ <;> first | assumption | exact cell_keep hq (by assumption) | exact Below.trans (by assumption) (hq.mono (by have := Below.size (by assumption : Below w.heap.size w _); omega))))
   (first
    | (go_at_call 247; (first | (with_reducible refine (C1.out _ ?_).mono ?_) | (with_reducible refine (C2.out _ ?_).mono ?_)); (go_split_ands; assumption); rintro e w2 ⟨rfl, hq⟩)
    | (go_at_call 273; refine (K.out _).mono ?_; rintro e w2 ⟨rfl, rfl⟩))
  go_wp2_with fail
  go_split_ands
  go_ret
  exact ⟨rfl, by assumption⟩
 ·have K : Hid (∀ w, Calls Tryz.prog 273 #[.int .u8 45, .int .i64 va, .int .i64 vb] w fun e w' => e = .returned (.int .i64 (cmp3 45 va vb)) ∧ w = w') := fun w => compute_any 45 va vb w (by simp) ha0 ha hb0 hb
  go_enter Tryz.func247, Tryz.ntmps247
  go_wp2_with fail
  have t0 := (heap_at_old (heap_at_new (w := w) (o := .cells #[.int .u8 45, .slice (some ⟨b, 0, none⟩) 2 n] 110) rfl) : (World.alloc _ (.cells #[.int .i64 (E 0), .int .i64 (E 1), .int .i64 (E 2), .int .i64 (E 3), .int .i64 (E 4), .int .i64 (E 5)] 242)).heap[_]? = _)
  have t1 := (heap_at_new (w := w.alloc (.cells #[.int .u8 45, .slice (some ⟨b, 0, none⟩) 2 n] 110)) (o := .cells #[.int .i64 (E 0), .int .i64 (E 1), .int .i64 (E 2), .int .i64 (E 3), .int .i64 (E 4), .int .i64 (E 5)] 242) (k := w.heap.size + 1) (by simp))
  have hB := ((Below.refl w.heap.size w).alloc (Nat.le_refl _) (.cells #[.int .u8 45, .slice (some ⟨b, 0, none⟩) 2 n] 110)).alloc (by simp) (.cells #[.int .i64 (E 0), .int .i64 (E 1), .int .i64 (E 2), .int .i64 (E 3), .int .i64 (E 4), .int .i64 (E 5)] 242)
  generalize (w.alloc (.cells #[.int .u8 45, .slice (some ⟨b, 0, none⟩) 2 n] 110)).alloc (.cells #[.int .i64 (E 0), .int .i64 (E 1), .int .i64 (E 2), .int .i64 (E 3), .int .i64 (E 4), .int .i64 (E 5)] 242) = W0 at *
  have q0 : W0.cell? ⟨w.heap.size, 0, none⟩ = some (.int .u8 45) := by rw [cell_of_row W0 _ 0 _ _ (0, 0) t0]; rfl
  have q1 : W0.cell? ⟨w.heap.size, 1, none⟩ = some (.slice (some ⟨b, 0, none⟩) 2 n) := by rw [cell_of_row W0 _ 1 _ _ (0, 0) t0]; rfl
  have q2 : W0.cell? ⟨w.heap.size + 1, 0, none⟩ = some (.int .i64 (E 0)) := by rw [cell_of_row W0 _ 0 _ _ (0, 0) t1]; rfl
  have q3 : W0.cell? ⟨w.heap.size + 1, 1, none⟩ = some (.int .i64 (E 1)) := by rw [cell_of_row W0 _ 1 _ _ (0, 0) t1]; rfl
  have q4 : W0.cell? ⟨w.heap.size + 1, 2, none⟩ = some (.int .i64 (E 2)) := by rw [cell_of_row W0 _ 2 _ _ (0, 0) t1]; rfl
  have q5 : W0.cell? ⟨w.heap.size + 1, 3, none⟩ = some (.int .i64 (E 3)) := by rw [cell_of_row W0 _ 3 _ _ (0, 0) t1]; rfl
  have q6 : W0.cell? ⟨w.heap.size + 1, 4, none⟩ = some (.int .i64 (E 4)) := by rw [cell_of_row W0 _ 4 _ _ (0, 0) t1]; rfl
  have q7 : W0.cell? ⟨w.heap.size + 1, 5, none⟩ = some (.int .i64 (E 5)) := by rw [cell_of_row W0 _ 5 _ _ (0, 0) t1]; rfl
  have j0 := cell_keep hB k0
  have j1 := cell_keep hB k1
  have j2 := cell_keep hB k2
  have j3 := cell_keep hB k3
  have hB' := hB.drew
  clear k0 k1 k2 k3 t0 t1
  go_region_held3 (fun w' => Below w.heap.size w w' ∧ w'.cell? ⟨w.heap.size, 0, none⟩ = some (.int .u8 45) ∧ w'.cell? ⟨w.heap.size, 1, none⟩ = some (.slice (some ⟨b, 0, none⟩) 2 n) ∧
    w'.cell? ⟨w.heap.size + 1, 0, none⟩ = some (.int .i64 (E 0)) ∧ w'.cell? ⟨w.heap.size + 1, 1, none⟩ = some (.int .i64 (E 1)) ∧ w'.cell? ⟨w.heap.size + 1, 2, none⟩ = some (.int .i64 (E 2)) ∧ w'.cell? ⟨w.heap.size + 1, 3, none⟩ = some (.int .i64 (E 3)) ∧ w'.cell? ⟨w.heap.size + 1, 4, none⟩ = some (.int .i64 (E 4)) ∧ w'.cell? ⟨w.heap.size + 1, 5, none⟩ = some (.int .i64 (E 5)) ∧
    w'.cell? ⟨b, 0, none⟩ = some (.int .u8 x1) ∧ w'.cell? ⟨b, 1, none⟩ = some (.slice p1 m1 n1) ∧ w'.cell? ⟨b, 2, none⟩ = some (.int .u8 x2) ∧ w'.cell? ⟨b, 3, none⟩ = some (.slice p2 m2 n2))
   ((go_split_ands; refine ⟨?_, ?_, ?_, ?_, ?_, ?_, ?_, ?_, ?_, ?_, ?_, ?_, ?_⟩ <;> first | assumption | exact cell_keep hq (by assumption) | exact Below.trans (by assumption) (hq.mono (by have := Below.size (by assumption : Below w.heap.size w _); omega))))
   (first
    | (go_at_call 247; (first | (with_reducible refine (C1.out _ ?_).mono ?_) | (with_reducible refine (C2.out _ ?_).mono ?_)); (go_split_ands; assumption); rintro e w2 ⟨rfl, hq⟩)
    | (go_at_call 273; refine (K.out _).mono ?_; rintro e w2 ⟨rfl, rfl⟩))
  go_wp2_with fail
  go_split_ands
  go_ret
  exact ⟨rfl, by assumption⟩
 ·have K : Hid (∀ w, Calls Tryz.prog 273 #[.int .u8 42, .int .i64 va, .int .i64 vb] w fun e w' => e = .returned (.int .i64 (cmp3 42 va vb)) ∧ w = w') := fun w => compute_any 42 va vb w (by simp) ha0 ha hb0 hb
  go_enter Tryz.func247, Tryz.ntmps247
  go_wp2_with fail
  have t0 := (heap_at_old (heap_at_new (w := w) (o := .cells #[.int .u8 42, .slice (some ⟨b, 0, none⟩) 2 n] 110) rfl) : (World.alloc _ (.cells #[.int .i64 (E 0), .int .i64 (E 1), .int .i64 (E 2), .int .i64 (E 3), .int .i64 (E 4), .int .i64 (E 5)] 242)).heap[_]? = _)
  have t1 := (heap_at_new (w := w.alloc (.cells #[.int .u8 42, .slice (some ⟨b, 0, none⟩) 2 n] 110)) (o := .cells #[.int .i64 (E 0), .int .i64 (E 1), .int .i64 (E 2), .int .i64 (E 3), .int .i64 (E 4), .int .i64 (E 5)] 242) (k := w.heap.size + 1) (by simp))
  have hB := ((Below.refl w.heap.size w).alloc (Nat.le_refl _) (.cells #[.int .u8 42, .slice (some ⟨b, 0, none⟩) 2 n] 110)).alloc (by simp) (.cells #[.int .i64 (E 0), .int .i64 (E 1), .int .i64 (E 2), .int .i64 (E 3), .int .i64 (E 4), .int .i64 (E 5)] 242)
  generalize (w.alloc (.cells #[.int .u8 42, .slice (some ⟨b, 0, none⟩) 2 n] 110)).alloc (.cells #[.int .i64 (E 0), .int .i64 (E 1), .int .i64 (E 2), .int .i64 (E 3), .int .i64 (E 4), .int .i64 (E 5)] 242) = W0 at *
  have q0 : W0.cell? ⟨w.heap.size, 0, none⟩ = some (.int .u8 42) := by rw [cell_of_row W0 _ 0 _ _ (0, 0) t0]; rfl
  have q1 : W0.cell? ⟨w.heap.size, 1, none⟩ = some (.slice (some ⟨b, 0, none⟩) 2 n) := by rw [cell_of_row W0 _ 1 _ _ (0, 0) t0]; rfl
  have q2 : W0.cell? ⟨w.heap.size + 1, 0, none⟩ = some (.int .i64 (E 0)) := by rw [cell_of_row W0 _ 0 _ _ (0, 0) t1]; rfl
  have q3 : W0.cell? ⟨w.heap.size + 1, 1, none⟩ = some (.int .i64 (E 1)) := by rw [cell_of_row W0 _ 1 _ _ (0, 0) t1]; rfl
  have q4 : W0.cell? ⟨w.heap.size + 1, 2, none⟩ = some (.int .i64 (E 2)) := by rw [cell_of_row W0 _ 2 _ _ (0, 0) t1]; rfl
  have q5 : W0.cell? ⟨w.heap.size + 1, 3, none⟩ = some (.int .i64 (E 3)) := by rw [cell_of_row W0 _ 3 _ _ (0, 0) t1]; rfl
  have q6 : W0.cell? ⟨w.heap.size + 1, 4, none⟩ = some (.int .i64 (E 4)) := by rw [cell_of_row W0 _ 4 _ _ (0, 0) t1]; rfl
  have q7 : W0.cell? ⟨w.heap.size + 1, 5, none⟩ = some (.int .i64 (E 5)) := by rw [cell_of_row W0 _ 5 _ _ (0, 0) t1]; rfl
  have j0 := cell_keep hB k0
  have j1 := cell_keep hB k1
  have j2 := cell_keep hB k2
  have j3 := cell_keep hB k3
  have hB' := hB.drew
  clear k0 k1 k2 k3 t0 t1
  go_region_held3 (fun w' => Below w.heap.size w w' ∧ w'.cell? ⟨w.heap.size, 0, none⟩ = some (.int .u8 42) ∧ w'.cell? ⟨w.heap.size, 1, none⟩ = some (.slice (some ⟨b, 0, none⟩) 2 n) ∧
    w'.cell? ⟨w.heap.size + 1, 0, none⟩ = some (.int .i64 (E 0)) ∧ w'.cell? ⟨w.heap.size + 1, 1, none⟩ = some (.int .i64 (E 1)) ∧ w'.cell? ⟨w.heap.size + 1, 2, none⟩ = some (.int .i64 (E 2)) ∧ w'.cell? ⟨w.heap.size + 1, 3, none⟩ = some (.int .i64 (E 3)) ∧ w'.cell? ⟨w.heap.size + 1, 4, none⟩ = some (.int .i64 (E 4)) ∧ w'.cell? ⟨w.heap.size + 1, 5, none⟩ = some (.int .i64 (E 5)) ∧
    w'.cell? ⟨b, 0, none⟩ = some (.int .u8 x1) ∧ w'.cell? ⟨b, 1, none⟩ = some (.slice p1 m1 n1) ∧ w'.cell? ⟨b, 2, none⟩ = some (.int .u8 x2) ∧ w'.cell? ⟨b, 3, none⟩ = some (.slice p2 m2 n2))
   ((go_split_ands; refine ⟨?_, ?_, ?_, ?_, ?_, ?_, ?_, ?_, ?_, ?_, ?_, ?_, ?_⟩ <;> first | assumption | exact cell_keep hq (by assumption) | exact Below.trans (by assumption) (hq.mono (by have := Below.size (by assumption : Below w.heap.size w _); omega))))
   (first
    | (go_at_call 247; (first | (with_reducible refine (C1.out _ ?_).mono ?_) | (with_reducible refine (C2.out _ ?_).mono ?_)); (go_split_ands; assumption); rintro e w2 ⟨rfl, hq⟩)
    | (go_at_call 273; refine (K.out _).mono ?_; rintro e w2 ⟨rfl, rfl⟩))
  go_wp2_with fail
  go_split_ands
  go_ret
  exact ⟨rfl, by assumption⟩
theorem value_any (E : Nat → Int) (he : ∀ i, 0 ≤ E i ∧ E i ≤ 2) : ∀ (t : Tm) (B : Nat) (x y : Value) (w : World), Ok true false t → RepT w B t x y →
  Calls Tryz.prog 247 #[.agg #[x, y], .agg #[.int .i64 (E 0), .int .i64 (E 1), .int .i64 (E 2), .int .i64 (E 3), .int .i64 (E 4), .int .i64 (E 5)]] w fun e w' => e = .returned (.int .i64 (val (E) t)) ∧ Below w.heap.size w w' := by
 intro t
 induction t with
 | leaf c =>
  intro B x y w ht hr
  obtain ⟨rfl, a, n, rfl⟩ := hr
  rcases ok_expr ht with ⟨c', e1, hc⟩ | ⟨_, _, _, e1, _⟩
  ·cases e1
   exact value_leaf c _ E w (vleaf_cases hc) a n rfl
  ·cases e1
 | un c a _ =>
  intro B x y w ht hr
  rcases ok_expr ht with ⟨_, e1, _⟩ | ⟨_, _, _, e1, _⟩ <;> cases e1
 | bin c a d iha ihd =>
  intro B x y w ht hr
  rcases ok_expr ht with ⟨_, e1, _⟩ | ⟨c', a', d', e1, hc, oa, od⟩
  ·cases e1
  ·cases e1
   obtain ⟨rfl, b, n, x1, y1, x2, y2, rfl, _, k0, k1, k2, k3, r1, r2⟩ := hr
   obtain ⟨z1, p1, m1, n1, rfl, rfl⟩ := r1.forms
   obtain ⟨z2, p2, m2, n2, rfl, rfl⟩ := r2.forms
   have h1 := val_bd he oa
   have h2 := val_bd he od
   exact value_bin c _ _ E w (op_cases hc) b n z1 z2 p1 p2 m1 m2 n1 n2 k0 k1 k2 k3 h1.1 h1.2 h2.1 h2.2 (fun w' h => iha B _ _ w' oa (r1.below h)) (fun w' h => ihd B _ _ w' od (r2.below h))
def envV (e : Nat → Int) : Value := .agg #[.int .i64 (e 0), .int .i64 (e 1), .int .i64 (e 2), .int .i64 (e 3), .int .i64 (e 4), .int .i64 (e 5)]
theorem byte_at {s : ByteArray} {a : Nat} {c : UInt8} {r : List UInt8} (h : s.data.toList.drop a = c :: r) : ∃ h : a < s.size, s[a] = c := by
 have hl : a < s.size := by
  have := congrArg List.length h
  simp at this
  have h2 : s.size = s.data.size := rfl
  omega
 refine ⟨hl, ?_⟩
 rw [drop_cons' s a hl] at h
 exact (List.cons.inj h).1
theorem wleaf_cases {c : UInt8} (h : (isVarB true c || isDigB c) = true) : c = 120 ∨ c = 121 ∨ c = 122 ∨ c = 88 ∨ c = 89 ∨ c = 90 ∨ c = 48 ∨ c = 49 ∨ c = 50 := by
 simp [isVarB, isDigB] at h; rcases h with (((h | h) | h) | ((h | h) | h)) | ((h | h) | h) <;> simp [h]
theorem six_find (c : UInt8) (r : Int) (w : World) (h : fnd [120, 121, 122, 88, 89, 90] c = r) : Calls Tryz.prog 210 #[.string ⟨#[120, 121, 122, 88, 89, 90]⟩, .int .u8 c.toNat] w fun e w' => e = .returned (.int .i64 r) ∧ w' = w :=
 find_at (s := ⟨#[120, 121, 122, 88, 89, 90]⟩) h w (by simp [maxLen, ByteArray.size])
set_option maxHeartbeats 2000000 in
theorem spv_leaf (e : Nat → Int) (s : ByteArray) (a : Nat) (w : World) (hs : s.size ≤ 1000000) (ha : a < s.size) (hc : s[a] = 120 ∨ s[a] = 121 ∨ s[a] = 122 ∨ s[a] = 88 ∨ s[a] = 89 ∨ s[a] = 90 ∨ s[a] = 48 ∨ s[a] = 49 ∨ s[a] = 50) :
  Calls Tryz.prog 252 #[.string s, .int .i64 a, envV e] w fun e' w' => e' = .returned (.tuple #[.int .i64 (val e (.leaf s[a])), .int .i64 (a + 1)]) ∧ Below w.heap.size w w' := by
 have h0 : (0 : Int) ≤ (a : Int) := by omega
 have h1 : (a : Int) < (s.size : Int) := by omega
 unfold envV
 rcases hc with hc | hc | hc | hc | hc | hc | hc | hc | hc
 ·have hcn : s[a].toNat = 120 := by rw [hc]; rfl
  have K : Hid (∀ w, Calls Tryz.prog 210 #[.string ⟨#[120, 121, 122, 88, 89, 90]⟩, .int .u8 120] w fun e w' => e = .returned (.int .i64 0) ∧ w' = w) := fun w => six_find 120 0 w rfl
  have V : Hid (val e (.leaf s[a]) = e 0) := by rw [hc]; rfl
  clear hc
  go_enter Tryz.func252, Tryz.ntmps252
  go_wp2_with fail
  refine (K.out _).mono ?_
  rintro e' w' ⟨rfl, rfl⟩
  go_wp2_with fail
  go_ret2
  exact ⟨by rw [V.out]; rfl, (Below.refl _ _).alloc (Nat.le_refl _) _⟩
 ·have hcn : s[a].toNat = 121 := by rw [hc]; rfl
  have K : Hid (∀ w, Calls Tryz.prog 210 #[.string ⟨#[120, 121, 122, 88, 89, 90]⟩, .int .u8 121] w fun e w' => e = .returned (.int .i64 1) ∧ w' = w) := fun w => six_find 121 1 w rfl
  have V : Hid (val e (.leaf s[a]) = e 1) := by rw [hc]; rfl
  clear hc
  go_enter Tryz.func252, Tryz.ntmps252
  go_wp2_with fail
  refine (K.out _).mono ?_
  rintro e' w' ⟨rfl, rfl⟩
  go_wp2_with fail
  go_ret2
  exact ⟨by rw [V.out]; rfl, (Below.refl _ _).alloc (Nat.le_refl _) _⟩
 ·have hcn : s[a].toNat = 122 := by rw [hc]; rfl
  have K : Hid (∀ w, Calls Tryz.prog 210 #[.string ⟨#[120, 121, 122, 88, 89, 90]⟩, .int .u8 122] w fun e w' => e = .returned (.int .i64 2) ∧ w' = w) := fun w => six_find 122 2 w rfl
  have V : Hid (val e (.leaf s[a]) = e 2) := by rw [hc]; rfl
  clear hc
  go_enter Tryz.func252, Tryz.ntmps252
  go_wp2_with fail
  refine (K.out _).mono ?_
  rintro e' w' ⟨rfl, rfl⟩
  go_wp2_with fail
  go_ret2
  exact ⟨by rw [V.out]; rfl, (Below.refl _ _).alloc (Nat.le_refl _) _⟩
 ·have hcn : s[a].toNat = 88 := by rw [hc]; rfl
  have K : Hid (∀ w, Calls Tryz.prog 210 #[.string ⟨#[120, 121, 122, 88, 89, 90]⟩, .int .u8 88] w fun e w' => e = .returned (.int .i64 3) ∧ w' = w) := fun w => six_find 88 3 w rfl
  have V : Hid (val e (.leaf s[a]) = e 3) := by rw [hc]; rfl
  clear hc
  go_enter Tryz.func252, Tryz.ntmps252
  go_wp2_with fail
  refine (K.out _).mono ?_
  rintro e' w' ⟨rfl, rfl⟩
  go_wp2_with fail
  go_ret2
  exact ⟨by rw [V.out]; rfl, (Below.refl _ _).alloc (Nat.le_refl _) _⟩
 ·have hcn : s[a].toNat = 89 := by rw [hc]; rfl
  have K : Hid (∀ w, Calls Tryz.prog 210 #[.string ⟨#[120, 121, 122, 88, 89, 90]⟩, .int .u8 89] w fun e w' => e = .returned (.int .i64 4) ∧ w' = w) := fun w => six_find 89 4 w rfl
  have V : Hid (val e (.leaf s[a]) = e 4) := by rw [hc]; rfl
  clear hc
  go_enter Tryz.func252, Tryz.ntmps252
  go_wp2_with fail
  refine (K.out _).mono ?_
  rintro e' w' ⟨rfl, rfl⟩
  go_wp2_with fail
  go_ret2
  exact ⟨by rw [V.out]; rfl, (Below.refl _ _).alloc (Nat.le_refl _) _⟩
 ·have hcn : s[a].toNat = 90 := by rw [hc]; rfl
  have K : Hid (∀ w, Calls Tryz.prog 210 #[.string ⟨#[120, 121, 122, 88, 89, 90]⟩, .int .u8 90] w fun e w' => e = .returned (.int .i64 5) ∧ w' = w) := fun w => six_find 90 5 w rfl
  have V : Hid (val e (.leaf s[a]) = e 5) := by rw [hc]; rfl
  clear hc
  go_enter Tryz.func252, Tryz.ntmps252
  go_wp2_with fail
  refine (K.out _).mono ?_
  rintro e' w' ⟨rfl, rfl⟩
  go_wp2_with fail
  go_ret2
  exact ⟨by rw [V.out]; rfl, (Below.refl _ _).alloc (Nat.le_refl _) _⟩
 ·have hcn : s[a].toNat = 48 := by rw [hc]; rfl
  have K : Hid (∀ w, Calls Tryz.prog 210 #[.string ⟨#[120, 121, 122, 88, 89, 90]⟩, .int .u8 48] w fun e w' => e = .returned (.int .i64 (-1)) ∧ w' = w) := fun w => six_find 48 (-1) w rfl
  have V : Hid (val e (.leaf s[a]) = 0) := by rw [hc]; rfl
  clear hc
  go_enter Tryz.func252, Tryz.ntmps252
  go_wp2_with fail
  refine (K.out _).mono ?_
  rintro e' w' ⟨rfl, rfl⟩
  go_wp2_with fail
  go_ret2
  exact ⟨by rw [V.out]; rfl, (Below.refl _ _).alloc (Nat.le_refl _) _⟩
 ·have hcn : s[a].toNat = 49 := by rw [hc]; rfl
  have K : Hid (∀ w, Calls Tryz.prog 210 #[.string ⟨#[120, 121, 122, 88, 89, 90]⟩, .int .u8 49] w fun e w' => e = .returned (.int .i64 (-1)) ∧ w' = w) := fun w => six_find 49 (-1) w rfl
  have V : Hid (val e (.leaf s[a]) = 1) := by rw [hc]; rfl
  clear hc
  go_enter Tryz.func252, Tryz.ntmps252
  go_wp2_with fail
  refine (K.out _).mono ?_
  rintro e' w' ⟨rfl, rfl⟩
  go_wp2_with fail
  go_ret2
  exact ⟨by rw [V.out]; rfl, (Below.refl _ _).alloc (Nat.le_refl _) _⟩
 ·have hcn : s[a].toNat = 50 := by rw [hc]; rfl
  have K : Hid (∀ w, Calls Tryz.prog 210 #[.string ⟨#[120, 121, 122, 88, 89, 90]⟩, .int .u8 50] w fun e w' => e = .returned (.int .i64 (-1)) ∧ w' = w) := fun w => six_find 50 (-1) w rfl
  have V : Hid (val e (.leaf s[a]) = 2) := by rw [hc]; rfl
  clear hc
  go_enter Tryz.func252, Tryz.ntmps252
  go_wp2_with fail
  refine (K.out _).mono ?_
  rintro e' w' ⟨rfl, rfl⟩
  go_wp2_with fail
  go_ret2
  exact ⟨by rw [V.out]; rfl, (Below.refl _ _).alloc (Nat.le_refl _) _⟩
theorem Box6.new (w : World) (e : Nat → Int) : ∀ j, j < 6 → (w.alloc (.cells #[.int .i64 (e 0), .int .i64 (e 1), .int .i64 (e 2), .int .i64 (e 3), .int .i64 (e 4), .int .i64 (e 5)] 233)).cell? ⟨w.heap.size, j, none⟩ = some (.int .i64 (e j)) := by
 intro j hj
 match j, hj with
 | 0, _ => simp [go_sem]
 | 1, _ => simp [go_sem]
 | 2, _ => simp [go_sem]
 | 3, _ => simp [go_sem]
 | 4, _ => simp [go_sem]
 | 5, _ => simp [go_sem]
set_option maxRecDepth 100000 in
set_option maxHeartbeats 4000000 in
theorem spv_bin (e : Nat → Int) (s : ByteArray) (a n1 n2 : Nat) (va vb : Int) (w : World) (hs : s.size ≤ 1000000) (ha : a < s.size) (hc : s[a] = 43 ∨ s[a] = 45 ∨ s[a] = 42) (_hn1 : n1 ≤ s.size) (_hn2 : n2 ≤ s.size)
  (ha0 : 0 ≤ va) (hva : va ≤ 2) (hb0 : 0 ≤ vb) (hvb : vb ≤ 2)
  (c1 : ∀ w, Calls Tryz.prog 252 #[.string s, .int .i64 (a + 1), envV e] w fun e' w' => e' = .returned (.tuple #[.int .i64 va, .int .i64 n1]) ∧ Below w.heap.size w w')
  (c2 : ∀ w, Calls Tryz.prog 252 #[.string s, .int .i64 n1, envV e] w fun e' w' => e' = .returned (.tuple #[.int .i64 vb, .int .i64 n2]) ∧ Below w.heap.size w w') :
  Calls Tryz.prog 252 #[.string s, .int .i64 a, envV e] w fun e' w' => e' = .returned (.tuple #[.int .i64 (cmp3 s[a] va vb), .int .i64 n2]) ∧ Below w.heap.size w w' := by
 have h0 : (0 : Int) ≤ (a : Int) := by omega
 have h1 : (a : Int) < (s.size : Int) := by omega
 have h2 : 0 ≤ va * vb := Int.mul_nonneg ha0 hb0
 have h3 : va * vb ≤ 4 := by
  have := Int.mul_le_mul hva hvb hb0 (show (0 : Int) ≤ 2 by omega)
  omega
 have C1 := Lib.hid c1
 have C2 := Lib.hid c2
 clear c1 c2
 unfold envV at *
 rcases hc with hc | hc | hc
 ·have hcn : s[a].toNat = 43 := by rw [hc]; rfl
  have K : Hid (∀ w, Calls Tryz.prog 210 #[.string ⟨#[120, 121, 122, 88, 89, 90]⟩, .int .u8 43] w fun e w' => e = .returned (.int .i64 (-1)) ∧ w' = w) := fun w => six_find 43 (-1) w rfl
  have V : Hid (cmp3 s[a] va vb = cmp3 43 va vb) := by rw [hc]; rfl
  clear hc
  go_enter Tryz.func252, Tryz.ntmps252
  go_wp2_with fail
  refine (K.out _).mono ?_
  rintro e' w' ⟨rfl, rfl⟩
  go_wp2_with fail
  have bx := Box6.new w e
  have hB := (Below.refl w.heap.size w).alloc (Nat.le_refl _) (.cells #[.int .i64 (e 0), .int .i64 (e 1), .int .i64 (e 2), .int .i64 (e 3), .int .i64 (e 4), .int .i64 (e 5)] 233)
  generalize w.alloc (.cells #[.int .i64 (e 0), .int .i64 (e 1), .int .i64 (e 2), .int .i64 (e 3), .int .i64 (e 4), .int .i64 (e 5)] 233) = w0 at *
  refine (C1.out _).mono ?_
  rintro e' w1 ⟨rfl, hq⟩
  have q0 := cell_keep hq (bx 0 (by omega)); have q1 := cell_keep hq (bx 1 (by omega)); have q2 := cell_keep hq (bx 2 (by omega))
  have q3 := cell_keep hq (bx 3 (by omega)); have q4 := cell_keep hq (bx 4 (by omega)); have q5 := cell_keep hq (bx 5 (by omega))
  have HB := Lib.hid (hB.trans (hq.mono hB.size))
  clear hq hB bx
  go_wp2_with fail
  refine (C2.out _).mono ?_
  rintro e' w2 ⟨rfl, hq⟩
  have HB2 := Lib.hid (HB.out.trans (hq.mono HB.out.size))
  clear hq q0 q1 q2 q3 q4 q5
  go_wp2_with fail
  go_ret2
  exact ⟨by rw [V.out]; rfl, HB2.out⟩
 ·have hcn : s[a].toNat = 45 := by rw [hc]; rfl
  have K : Hid (∀ w, Calls Tryz.prog 210 #[.string ⟨#[120, 121, 122, 88, 89, 90]⟩, .int .u8 45] w fun e w' => e = .returned (.int .i64 (-1)) ∧ w' = w) := fun w => six_find 45 (-1) w rfl
  have V : Hid (cmp3 s[a] va vb = cmp3 45 va vb) := by rw [hc]; rfl
  clear hc
  go_enter Tryz.func252, Tryz.ntmps252
  go_wp2_with fail
  refine (K.out _).mono ?_
  rintro e' w' ⟨rfl, rfl⟩
  go_wp2_with fail
  have bx := Box6.new w e
  have hB := (Below.refl w.heap.size w).alloc (Nat.le_refl _) (.cells #[.int .i64 (e 0), .int .i64 (e 1), .int .i64 (e 2), .int .i64 (e 3), .int .i64 (e 4), .int .i64 (e 5)] 233)
  generalize w.alloc (.cells #[.int .i64 (e 0), .int .i64 (e 1), .int .i64 (e 2), .int .i64 (e 3), .int .i64 (e 4), .int .i64 (e 5)] 233) = w0 at *
  refine (C1.out _).mono ?_
  rintro e' w1 ⟨rfl, hq⟩
  have q0 := cell_keep hq (bx 0 (by omega)); have q1 := cell_keep hq (bx 1 (by omega)); have q2 := cell_keep hq (bx 2 (by omega))
  have q3 := cell_keep hq (bx 3 (by omega)); have q4 := cell_keep hq (bx 4 (by omega)); have q5 := cell_keep hq (bx 5 (by omega))
  have HB := Lib.hid (hB.trans (hq.mono hB.size))
  clear hq hB bx
  go_wp2_with fail
  refine (C2.out _).mono ?_
  rintro e' w2 ⟨rfl, hq⟩
  have HB2 := Lib.hid (HB.out.trans (hq.mono HB.out.size))
  clear hq q0 q1 q2 q3 q4 q5
  go_wp2_with fail
  go_ret2
  exact ⟨by rw [V.out]; rfl, HB2.out⟩
 ·have hcn : s[a].toNat = 42 := by rw [hc]; rfl
  have K : Hid (∀ w, Calls Tryz.prog 210 #[.string ⟨#[120, 121, 122, 88, 89, 90]⟩, .int .u8 42] w fun e w' => e = .returned (.int .i64 (-1)) ∧ w' = w) := fun w => six_find 42 (-1) w rfl
  have V : Hid (cmp3 s[a] va vb = cmp3 42 va vb) := by rw [hc]; rfl
  clear hc
  go_enter Tryz.func252, Tryz.ntmps252
  go_wp2_with fail
  refine (K.out _).mono ?_
  rintro e' w' ⟨rfl, rfl⟩
  go_wp2_with fail
  have bx := Box6.new w e
  have hB := (Below.refl w.heap.size w).alloc (Nat.le_refl _) (.cells #[.int .i64 (e 0), .int .i64 (e 1), .int .i64 (e 2), .int .i64 (e 3), .int .i64 (e 4), .int .i64 (e 5)] 233)
  generalize w.alloc (.cells #[.int .i64 (e 0), .int .i64 (e 1), .int .i64 (e 2), .int .i64 (e 3), .int .i64 (e 4), .int .i64 (e 5)] 233) = w0 at *
  refine (C1.out _).mono ?_
  rintro e' w1 ⟨rfl, hq⟩
  have q0 := cell_keep hq (bx 0 (by omega)); have q1 := cell_keep hq (bx 1 (by omega)); have q2 := cell_keep hq (bx 2 (by omega))
  have q3 := cell_keep hq (bx 3 (by omega)); have q4 := cell_keep hq (bx 4 (by omega)); have q5 := cell_keep hq (bx 5 (by omega))
  have HB := Lib.hid (hB.trans (hq.mono hB.size))
  clear hq hB bx
  go_wp2_with fail
  refine (C2.out _).mono ?_
  rintro e' w2 ⟨rfl, hq⟩
  have HB2 := Lib.hid (HB.out.trans (hq.mono HB.out.size))
  clear hq q0 q1 q2 q3 q4 q5
  go_wp2_with fail
  go_ret2
  exact ⟨by rw [V.out]; rfl, HB2.out⟩
theorem ok_wide {k : Bool} : ∀ {t : Tm}, Ok false k t → Ok true k t := by
 have ho : ∀ (k : Bool) (c : UInt8) (l : List Bool), opk false k c = some l → opk true k c = some l := by
  intro k c l h
  cases k
  ·rw [opk_e] at h ⊢
   by_cases h1 : (isVarB false c || isDigB c) = true
   ·rw [if_pos h1] at h; rw [if_pos]
    ·exact h
    ·simp [isVarB] at h1 ⊢; rcases h1 with h1 | h1
     ·left; left; exact h1
     ·right; exact h1
   ·rw [if_neg h1] at h
    by_cases h2 : isOpB c = true
    ·rw [if_pos h2] at h
     rw [if_neg, if_pos h2]
     ·exact h
     ·rcases op_cases h2 with rfl | rfl | rfl <;> decide
    ·rw [if_neg h2] at h; cases h
  ·exact h
 intro t
 induction t generalizing k with
 | leaf c => exact fun h => ho _ _ _ h
 | un c a ih => rintro ⟨k1, h, h1⟩; exact ⟨k1, ho _ _ _ h, ih h1⟩
 | bin c a b iha ihb => rintro ⟨k1, k2, h, h1, h2⟩; exact ⟨k1, k2, ho _ _ _ h, iha h1, ihb h2⟩
theorem spv_any (e : Nat → Int) (he : ∀ i, 0 ≤ e i ∧ e i ≤ 2) (s : ByteArray) (hs : s.size ≤ 1000000) : ∀ (t : Tm) (a : Nat) (r : List UInt8) (w : World), Ok true false t → s.data.toList.drop a = t.ser ++ r →
  Calls Tryz.prog 252 #[.string s, .int .i64 a, envV e] w fun e' w' => e' = .returned (.tuple #[.int .i64 (val e t), .int .i64 ((a + t.ser.length : Nat) : Int)]) ∧ Below w.heap.size w w' := by
 intro t
 induction t with
 | leaf c =>
  intro a r w ht hd
  rcases ok_expr ht with ⟨c', e1, hc⟩ | ⟨_, _, _, e1, _⟩
  ·cases e1
   obtain ⟨hl, rfl⟩ := byte_at hd
   exact spv_leaf e s a w hs hl (wleaf_cases hc)
  ·cases e1
 | un c a _ =>
  intro b r w ht hd
  rcases ok_expr ht with ⟨_, e1, _⟩ | ⟨_, _, _, e1, _⟩ <;> cases e1
 | bin c x y ihx ihy =>
  intro a r w ht hd
  rcases ok_expr ht with ⟨_, e1, _⟩ | ⟨c', x', y', e1, hc, ox, oy⟩
  ·cases e1
  ·cases e1
   have hd0 : s.data.toList.drop a = c :: (x.ser ++ (y.ser ++ r)) := by rw [hd]; simp [ser]
   obtain ⟨hl, rfl⟩ := byte_at hd0
   have hd1 : s.data.toList.drop (a + 1) = x.ser ++ (y.ser ++ r) := drop_next hd0
   have hd2 : s.data.toList.drop (a + 1 + x.ser.length) = y.ser ++ r := by rw [← List.drop_drop, hd1, List.drop_left' rfl]
   have hlen := congrArg List.length hd
   simp [ser] at hlen
   have hsz : s.size = s.data.size := rfl
   have h1 := val_bd he ox
   have h2 := val_bd he oy
   have e2 : a + (Tm.bin s[a] x y).ser.length = a + 1 + x.ser.length + y.ser.length := by simp [ser]; omega
   rw [e2]
   exact spv_bin e s a (a + 1 + x.ser.length) (a + 1 + x.ser.length + y.ser.length) (val e x) (val e y) w hs hl (op_cases hc) (by omega) (by omega) h1.1 h1.2 h2.1 h2.2
    (fun w => ihx (a + 1) _ w ox hd1) (fun w => ihy _ _ w oy hd2)
end Go.Proofs.YtgkoljphndgoeaaGreatDoor
