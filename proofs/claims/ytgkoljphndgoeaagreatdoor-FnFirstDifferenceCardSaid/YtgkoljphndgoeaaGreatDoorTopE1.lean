import Derived.Test.YtgkoljphndgoeaaGreatDoorTopU
import Derived.Test.YtgkoljphndgoeaaGreatDoorGPure
import Derived.IntWalk
import Derived.Test.YtgkoljphndgoeaaGreatDoorTopB
import Derived.Test.YtgkoljphndgoeaaGreatDoorTopP
import Derived.RowKit3
namespace Go.Proofs.YtgkoljphndgoeaaGreatDoor
open Go.RowKit Tm
theorem gexpr_any (wide : Bool) (s : ByteArray) (hs : s.size ≤ 1000000) (a r : Int) (w : World) (hr : GAt wide [101] s.data.toList a r) : Calls Tryz.prog 226 #[.string s, .int .i64 a, .bool wide] w (Quiet (.int .i64 r) w) :=
 expr_any wide s hs a r w (gat_of_pref (k := false) hr)
theorem gtest_any (wide : Bool) (s : ByteArray) (hs : s.size ≤ 1000000) (a r : Int) (w : World) (hr : GAt wide [116] s.data.toList a r) : Calls Tryz.prog 207 #[.string s, .int .i64 a, .bool wide] w (Quiet (.int .i64 r) w) :=
 test_any wide s hs a r w (gat_of_pref (k := true) hr)
set_option maxHeartbeats 1000000 in
theorem end_neg (wide : Bool) (s : ByteArray) (a : Int) (w : World) (ha : a < 0) : Calls Tryz.prog 174 #[.string s, .int .i64 a, .bool wide] w (Quiet (.int .i64 (-1)) w) := by
 go_enter Tryz.func174, Tryz.ntmps174
 go_wp2_with fail
 go_ret
 exact ⟨rfl, 0, rfl⟩
set_option maxHeartbeats 1000000 in
theorem end_past (wide : Bool) (s : ByteArray) (a : Nat) (w : World) (ha : s.size ≤ a) : Calls Tryz.prog 174 #[.string s, .int .i64 a, .bool wide] w (Quiet (.int .i64 (-1)) w) := by
 have h0 : (0 : Int) ≤ (a : Int) := by omega
 have h1 : ¬ (a : Int) < (s.size : Int) := by omega
 go_enter Tryz.func174, Tryz.ntmps174
 go_wp2_with fail
 go_ret
 exact ⟨rfl, 0, rfl⟩
set_option maxHeartbeats 1000000 in
theorem end_s (wide : Bool) (s : ByteArray) (a : Nat) (w : World) (hs : s.size ≤ 1000000) (ha : a < s.size) (hc : s[a].toNat = 115) : Calls Tryz.prog 174 #[.string s, .int .i64 a, .bool wide] w (Quiet (.int .i64 (a + 1)) w) := by
 have h0 : (0 : Int) ≤ (a : Int) := by omega
 have h1 : (a : Int) < (s.size : Int) := by omega
 go_enter Tryz.func174, Tryz.ntmps174
 go_wp2_with fail
 go_ret
 exact ⟨rfl, 0, rfl⟩
set_option maxHeartbeats 2000000 in
theorem end_bad (wide : Bool) (s : ByteArray) (a : Nat) (w : World) (_hs : s.size ≤ 1000000) (ha : a < s.size) (hc : gopk wide 112 s[a] = none) : Calls Tryz.prog 174 #[.string s, .int .i64 a, .bool wide] w (Quiet (.int .i64 (-1)) w) := by
 have h0 : (0 : Int) ≤ (a : Int) := by omega
 have h1 : (a : Int) < (s.size : Int) := by omega
 have ne : ∀ d : UInt8, gopk wide 112 d ≠ none → (s[a] == d) = false := fun d hd => by rw [beq_eq_false_iff_ne]; intro e; rw [e] at hc; exact hd hc
 have n1 := byte_ne (ne 115 (by simp [gopk, gopk0, wideK])); have n2 := byte_ne (ne 97 (by simp [gopk, gopk0, wideK])); have n3 := byte_ne (ne 59 (by simp [gopk, gopk0, wideK])); have n4 := byte_ne (ne 47 (by simp [gopk, gopk0, wideK]))
 have n5 := byte_ne (ne 63 (by simp [gopk, gopk0, wideK])); have n6 := byte_ne (ne 64 (by simp [gopk, gopk0, wideK])); have n7 := byte_ne (ne 126 (by simp [gopk, gopk0, wideK]))
 simp at n1 n2 n3 n4 n5 n6 n7
 clear hc ne
 go_enter Tryz.func174, Tryz.ntmps174
 go_wp2_with fail
 go_ret
 exact ⟨rfl, 0, rfl⟩
set_option maxHeartbeats 2000000 in
theorem end_two (wide : Bool) (s : ByteArray) (a : Nat) (w : World) (hs : s.size ≤ 1000000) (ha : a < s.size) (hc : s[a].toNat = 59 ∨ s[a].toNat = 47) (r1 r2 : Int)
  (c1 : ∀ w, Calls Tryz.prog 174 #[.string s, .int .i64 (a + 1), .bool wide] w (Quiet (.int .i64 r1) w)) (c2 : ∀ w, Calls Tryz.prog 174 #[.string s, .int .i64 r1, .bool wide] w (Quiet (.int .i64 r2) w)) :
  Calls Tryz.prog 174 #[.string s, .int .i64 a, .bool wide] w (Quiet (.int .i64 r2) w) := by
 have h0 : (0 : Int) ≤ (a : Int) := by omega
 have h1 : (a : Int) < (s.size : Int) := by omega
 have C1 := Lib.hid c1
 have C2 := Lib.hid c2
 clear c1 c2
 rcases hc with hc | hc
 all_goals
  go_enter Tryz.func174, Tryz.ntmps174
  go_wp2_with fail
  refine (C1.out _).mono ?_
  rintro e w' ⟨rfl, n1, rfl⟩
  go_wp2_with fail
  refine (C2.out _).mono ?_
  rintro e w' ⟨rfl, n2, rfl⟩
  go_wp2_with fail
  go_ret
  exact ⟨rfl, n1 + n2, rfl⟩
set_option maxHeartbeats 2000000 in
theorem end_whl (wide : Bool) (s : ByteArray) (a : Nat) (w : World) (hs : s.size ≤ 1000000) (ha : a < s.size) (hc : s[a].toNat = 64) (r1 r2 : Int)
  (c1 : ∀ w, Calls Tryz.prog 207 #[.string s, .int .i64 (a + 1), .bool wide] w (Quiet (.int .i64 r1) w)) (c2 : ∀ w, Calls Tryz.prog 174 #[.string s, .int .i64 r1, .bool wide] w (Quiet (.int .i64 r2) w)) :
  Calls Tryz.prog 174 #[.string s, .int .i64 a, .bool wide] w (Quiet (.int .i64 r2) w) := by
 have h0 : (0 : Int) ≤ (a : Int) := by omega
 have h1 : (a : Int) < (s.size : Int) := by omega
 have C1 := Lib.hid c1
 have C2 := Lib.hid c2
 clear c1 c2
 skip
 all_goals
  go_enter Tryz.func174, Tryz.ntmps174
  go_wp2_with fail
  refine (C1.out _).mono ?_
  rintro e w' ⟨rfl, n1, rfl⟩
  go_wp2_with fail
  refine (C2.out _).mono ?_
  rintro e w' ⟨rfl, n2, rfl⟩
  go_wp2_with fail
  go_ret
  exact ⟨rfl, n1 + n2, rfl⟩
set_option maxHeartbeats 2000000 in
theorem end_ite (wide : Bool) (s : ByteArray) (a : Nat) (w : World) (hs : s.size ≤ 1000000) (ha : a < s.size) (hc : s[a].toNat = 63) (r1 r2 r3 : Int)
  (c1 : ∀ w, Calls Tryz.prog 207 #[.string s, .int .i64 (a + 1), .bool wide] w (Quiet (.int .i64 r1) w)) (c2 : ∀ w, Calls Tryz.prog 174 #[.string s, .int .i64 r1, .bool wide] w (Quiet (.int .i64 r2) w))
  (c3 : ∀ w, Calls Tryz.prog 174 #[.string s, .int .i64 r2, .bool wide] w (Quiet (.int .i64 r3) w)) :
  Calls Tryz.prog 174 #[.string s, .int .i64 a, .bool wide] w (Quiet (.int .i64 r3) w) := by
 have h0 : (0 : Int) ≤ (a : Int) := by omega
 have h1 : (a : Int) < (s.size : Int) := by omega
 have C1 := Lib.hid c1
 have C2 := Lib.hid c2
 have C3 := Lib.hid c3
 clear c1 c2 c3
 go_enter Tryz.func174, Tryz.ntmps174
 go_wp2_with fail
 refine (C1.out _).mono ?_
 rintro e w' ⟨rfl, n1, rfl⟩
 go_wp2_with fail
 refine (C2.out _).mono ?_
 rintro e w' ⟨rfl, n2, rfl⟩
 go_wp2_with fail
 refine (C3.out _).mono ?_
 rintro e w' ⟨rfl, n3, rfl⟩
 go_wp2_with fail
 go_ret
 exact ⟨rfl, n1 + n2 + n3, rfl⟩
set_option maxHeartbeats 2000000 in
theorem end_asm (wide : Bool) (s : ByteArray) (a : Nat) (w : World) (hs : s.size ≤ 1000000) (ha : a < s.size) (hc : s[a].toNat = 126) (r1 : Int)
  (c1 : ∀ w, Calls Tryz.prog 207 #[.string s, .int .i64 (a + 1), .bool wide] w (Quiet (.int .i64 r1) w)) :
  Calls Tryz.prog 174 #[.string s, .int .i64 a, .bool wide] w (Quiet (.int .i64 r1) w) := by
 have h0 : (0 : Int) ≤ (a : Int) := by omega
 have h1 : (a : Int) < (s.size : Int) := by omega
 have C1 := Lib.hid c1
 clear c1
 go_enter Tryz.func174, Tryz.ntmps174
 go_wp2_with fail
 refine (C1.out _).mono ?_
 rintro e w' ⟨rfl, n1, rfl⟩
 go_wp2_with fail
 go_ret
 exact ⟨rfl, n1, rfl⟩
set_option maxHeartbeats 2000000 in
theorem end_a1 (wide : Bool) (s : ByteArray) (a : Nat) (w : World) (hs : s.size ≤ 1000000) (ha : a < s.size) (hc : s[a].toNat = 97) (h : ¬ a + 1 < s.size) :
  Calls Tryz.prog 174 #[.string s, .int .i64 a, .bool wide] w (Quiet (.int .i64 (-1)) w) := by
 have h0 : (0 : Int) ≤ (a : Int) := by omega
 have h1 : (a : Int) < (s.size : Int) := by omega
 have h2 : (s.size : Int) ≤ (a : Int) + 1 := by omega
 have h3 : IntKind.i64.wrap ((a : Int) + 1) = (a : Int) + 1 := IntWalk.i64_in _ (by omega)
 clear h
 go_enter Tryz.func174, Tryz.ntmps174
 go_wp2_with fail
 go_quiet (fail)
 go_wp2_with fail
 go_ret
 exact ⟨rfl, nq, rfl⟩
set_option maxHeartbeats 2000000 in
theorem end_a2 (wide : Bool) (s : ByteArray) (a : Nat) (w : World) (hs : s.size ≤ 1000000) (ha : a < s.size) (hc : s[a].toNat = 97) (h : a + 1 < s.size) (hv : ¬ isVarB wide s[a + 1] = true) :
  Calls Tryz.prog 174 #[.string s, .int .i64 a, .bool wide] w (Quiet (.int .i64 (-1)) w) := by
 have h0 : (0 : Int) ≤ (a : Int) := by omega
 have h1 : (a : Int) < (s.size : Int) := by omega
 have h2 : ¬ (s.size : Int) ≤ (a : Int) + 1 := by omega
 have h2' : decide ((s.size : Int) ≤ (a : Int) + 1) = false := by simpa using h2
 have h4 : (0 : Int) ≤ (a : Int) + 1 := by omega
 have h5 : (a : Int) + 1 < (s.size : Int) := by omega
 have h6 : ((a : Int) + 1).toNat = a + 1 := by omega
 have h3 : IntKind.i64.wrap ((a : Int) + 1) = (a : Int) + 1 := IntWalk.i64_in _ (by omega)
 have hnm := nm_le wide
 have HM := Lib.hid (fnd_no (fun h => hv ((nm_var wide s[a + 1]).1 h)))
 clear hv
 go_enter Tryz.func174, Tryz.ntmps174
 go_wp2_with fail
 go_quiet ((first | (go_at_call 225; exact Calls.quiet_of_same (names_any _ _)) | (go_at_call 210; exact Calls.quiet_of_same (find_at HM.out _ hnm))))
 go_wp2_with fail
 go_ret
 exact ⟨rfl, nq, rfl⟩
set_option maxHeartbeats 2000000 in
theorem end_a3 (wide : Bool) (s : ByteArray) (a : Nat) (w : World) (hs : s.size ≤ 1000000) (ha : a < s.size) (hc : s[a].toNat = 97) (h : a + 1 < s.size) (hv : isVarB wide s[a + 1] = true) (r1 : Int)
  (c1 : ∀ w, Calls Tryz.prog 226 #[.string s, .int .i64 (a + 2), .bool wide] w (Quiet (.int .i64 r1) w)) :
  Calls Tryz.prog 174 #[.string s, .int .i64 a, .bool wide] w (Quiet (.int .i64 r1) w) := by
 have C1 := Lib.hid c1
 clear c1
 have h0 : (0 : Int) ≤ (a : Int) := by omega
 have h1 : (a : Int) < (s.size : Int) := by omega
 have h2 : ¬ (s.size : Int) ≤ (a : Int) + 1 := by omega
 have h2' : decide ((s.size : Int) ≤ (a : Int) + 1) = false := by simpa using h2
 have h4 : (0 : Int) ≤ (a : Int) + 1 := by omega
 have h5 : (a : Int) + 1 < (s.size : Int) := by omega
 have h6 : ((a : Int) + 1).toNat = a + 1 := by omega
 have h3 : IntKind.i64.wrap ((a : Int) + 1) = (a : Int) + 1 := IntWalk.i64_in _ (by omega)
 have hnm := nm_le wide
 obtain ⟨n, hn⟩ := fnd_yes ((nm_var wide s[a + 1]).2 hv)
 have hn0 : (0 : Int) ≤ (n : Int) := by omega
 have HN := Lib.hid hn
 clear hv hn
 go_enter Tryz.func174, Tryz.ntmps174
 go_wp2_with fail
 go_quiet ((first | (go_at_call 225; exact Calls.quiet_of_same (names_any _ _)) | (go_at_call 210; exact Calls.quiet_of_same (find_at HN.out _ hnm))))
 clear h3
 go_wp2_with fail
 refine (C1.out _).mono ?_
 rintro e w' ⟨rfl, n1, rfl⟩
 go_wp2_with fail
 go_ret
 exact ⟨rfl, nq + n1, rfl⟩
theorem end_at (wide : Bool) (s : ByteArray) (hs : s.size ≤ 1000000) : ∀ (m : Nat) (a r : Int) (w : World), (s.size : Int) - a ≤ m → GAt wide [112] s.data.toList a r → Calls Tryz.prog 174 #[.string s, .int .i64 a, .bool wide] w (Quiet (.int .i64 r) w) := by
 intro m
 induction m with
 | zero =>
  intro a r w hm hr
  obtain ⟨i, rfl⟩ := Int.eq_ofNat_of_zero_le (show 0 ≤ a by omega)
  obtain rfl := hr.uniq (GAt.past (show s.data.toList.length ≤ i by simp; omega))
  exact end_past wide s i w (by omega)
 | succ m ih =>
  intro a r w hm hr
  by_cases ha : a < 0
  ·obtain rfl := hr.uniq (GAt.neg ha)
   exact end_neg wide s a w ha
  obtain ⟨i, rfl⟩ := Int.eq_ofNat_of_zero_le (show 0 ≤ a by omega)
  by_cases hi : ¬ i < s.size
  ·obtain rfl := hr.uniq (GAt.past (show s.data.toList.length ≤ i by simp; omega))
   exact end_past wide s i w (by omega)
  have hi : i < s.size := by omega
  have hd := drop_cons' s i hi
  cases ho : gopk wide 112 s[i] with
  | none =>
   obtain rfl := hr.uniq (GAt.bad hd ho)
   exact end_bad wide s i w hs hi ho
  | some l =>
   have nxt : ∀ (b c : Int) (w : World), b = -1 ∨ (i : Int) + 1 ≤ b → GAt wide [112] s.data.toList b c → Calls Tryz.prog 174 #[.string s, .int .i64 b, .bool wide] w (Quiet (.int .i64 c) w) := by
    intro b c w hb hg
    rcases hb with rfl | hb
    ·obtain rfl := hg.uniq (GAt.neg (by omega))
     exact end_neg wide s _ w (by omega)
    ·exact ih _ _ w (by omega) hg
   have far : ∀ {k : UInt8} {b c : Int}, b = -1 ∨ (i : Int) + 1 ≤ b → GAt wide [k] s.data.toList b c → c = -1 ∨ (i : Int) + 1 ≤ c := by
    intro k b c hb hg
    rcases hg.lo with h | h
    ·exact .inl h
    ·right; omega
   rcases gopk_p ho with ⟨hc, rfl⟩ | ⟨hc, rfl⟩ | ⟨hc, rfl⟩ | ⟨hc, rfl⟩ | ⟨hc, rfl⟩ | ⟨hc, rfl⟩
   ·have hg : GAt wide [112] s.data.toList i (i + 1) := GAt.node hd ho (by have := GAt.none (wide := wide) (l := s.data.toList) (i := i + 1); exact this)
    obtain rfl := hr.uniq hg
    exact end_s wide s i w hs hi (by rw [hc]; rfl)
   ·by_cases hi2 : i + 1 < s.size
    ·have hd2 := drop_cons' s (i + 1) hi2
     by_cases hv : isVarB wide s[i + 1] = true
     ·have hv2 : GAt wide [118] s.data.toList ((i + 1 : Nat) : Int) ((i + 1 + 1 : Nat) : Int) := GAt.node hd2 (show gopk wide 118 s[i + 1] = some [] by simp [gopk, gopk0, wideK, hv]) (GAt.none (wide := wide) (l := s.data.toList) (i := i + 1 + 1))
      obtain ⟨r1, h1⟩ := GAt.exists wide [101] s.data.toList ((i + 1 + 1 : Nat) : Int)
      have hg := GAt.node hd ho (GAt.cons (ks := [101]) (by exact_mod_cast hv2) h1)
      obtain rfl := hr.uniq hg
      refine end_a3 wide s i w hs hi (by rw [hc]; rfl) hi2 hv _ (fun w => ?_)
      have := gexpr_any wide s hs _ _ w h1
      rw [show ((i + 1 + 1 : Nat) : Int) = (i : Int) + 2 by omega] at this
      exact this
     ·have hv2 : GAt wide [118, 101] s.data.toList ((i + 1 : Nat) : Int) (-1) := GAt.bad hd2 (by simp [gopk, gopk0, wideK, hv])
      have hg := GAt.node hd ho (by exact_mod_cast hv2)
      obtain rfl := hr.uniq hg
      exact end_a2 wide s i w hs hi (by rw [hc]; rfl) hi2 hv
    ·have hv2 : GAt wide [118, 101] s.data.toList ((i + 1 : Nat) : Int) (-1) := GAt.past (by simp; omega)
     have hg := GAt.node hd ho (by exact_mod_cast hv2)
     obtain rfl := hr.uniq hg
     exact end_a1 wide s i w hs hi (by rw [hc]; rfl) hi2
   ·obtain ⟨r1, h1⟩ := GAt.exists wide [112] s.data.toList (i + 1)
    obtain ⟨r2, h2⟩ := GAt.exists wide [112] s.data.toList r1
    obtain rfl := hr.uniq (GAt.node hd ho (GAt.cons h1 h2))
    exact end_two wide s i w hs hi (by rcases hc with hc | hc <;> simp [hc]) r1 _ (fun w => nxt _ _ w (.inr (by omega)) h1) (fun w => nxt _ _ w (far (.inr (by omega)) h1) h2)
   ·obtain ⟨r1, h1⟩ := GAt.exists wide [116] s.data.toList (i + 1)
    obtain ⟨r2, h2⟩ := GAt.exists wide [112] s.data.toList r1
    obtain ⟨r3, h3⟩ := GAt.exists wide [112] s.data.toList r2
    obtain rfl := hr.uniq (GAt.node hd ho (GAt.cons h1 (GAt.cons h2 h3)))
    have f1 := far (.inr (by omega)) h1
    exact end_ite wide s i w hs hi (by rw [hc]; rfl) r1 r2 _ (fun w => gtest_any wide s hs _ _ w h1) (fun w => nxt _ _ w f1 h2) (fun w => nxt _ _ w (far f1 h2) h3)
   ·obtain ⟨r1, h1⟩ := GAt.exists wide [116] s.data.toList (i + 1)
    obtain ⟨r2, h2⟩ := GAt.exists wide [112] s.data.toList r1
    obtain rfl := hr.uniq (GAt.node hd ho (GAt.cons h1 h2))
    have f1 := far (.inr (by omega)) h1
    exact end_whl wide s i w hs hi (by rw [hc]; rfl) r1 _ (fun w => gtest_any wide s hs _ _ w h1) (fun w => nxt _ _ w f1 h2)
   ·obtain ⟨r1, h1⟩ := GAt.exists wide [116] s.data.toList (i + 1)
    obtain rfl := hr.uniq (GAt.node hd ho h1)
    exact end_asm wide s i w hs hi (by rw [hc]; rfl) _ (fun w => gtest_any wide s hs _ _ w h1)
theorem pend_any (wide : Bool) (s : ByteArray) (hs : s.size ≤ 1000000) (a r : Int) (w : World) (hr : GAt wide [112] s.data.toList a r) : Calls Tryz.prog 174 #[.string s, .int .i64 a, .bool wide] w (Quiet (.int .i64 r) w) := by
 exact end_at wide s hs ((s.size : Int) - a).toNat a r w (by omega) hr
set_option maxHeartbeats 1000000 in
theorem specPV_yes (s : ByteArray) (w : World) (hv : PValid false s.data.toList) (hs : s.size ≤ 200) : Calls Tryz.prog 97 #[.string s] w (Quiet (.bool true) w) := by
 obtain ⟨r, hr⟩ := GAt.exists false [112] s.data.toList 0
 have he : r = (s.size : Int) := (gvalid_iff_at hr).2 (pvalid_iff.2 hv)
 subst he
 have HC := fun w => Lib.hid (pend_any false s (by omega) 0 _ w hr)
 clear hr hv
 go_enter Tryz.func97, Tryz.ntmps97
 go_wp2_with fail
 refine (HC _).out.mono ?_
 rintro e w' ⟨rfl, n, rfl⟩
 go_wp2_with fail
 go_ret
 exact ⟨rfl, n, rfl⟩
set_option maxHeartbeats 1000000 in
theorem specPV_no (s : ByteArray) (w : World) (hv : ¬ (PValid false s.data.toList ∧ s.size ≤ 200)) : Calls Tryz.prog 97 #[.string s] w (Quiet (.bool false) w) := by
 by_cases hs : s.size ≤ 200
 ·obtain ⟨r, hr⟩ := GAt.exists false [112] s.data.toList 0
  have he : ¬ r = (s.size : Int) := fun e => hv ⟨pvalid_iff.1 ((gvalid_iff_at hr).1 e), hs⟩
  have hne : (r == (s.size : Int)) = false := by rw [beq_eq_false_iff_ne]; exact he
  have HC := fun w => Lib.hid (pend_any false s (by omega) 0 _ w hr)
  clear hr hv he
  go_enter Tryz.func97, Tryz.ntmps97
  go_wp2_with fail
  refine (HC _).out.mono ?_
  rintro e w' ⟨rfl, n, rfl⟩
  go_wp2_with fail
  go_ret
  exact ⟨rfl, n, rfl⟩
 ·go_enter Tryz.func97, Tryz.ntmps97
  go_wp2_with fail
  go_ret
  exact ⟨rfl, 0, rfl⟩
end Go.Proofs.YtgkoljphndgoeaaGreatDoor
namespace Go.Proofs.YtgkoljphndgoeaaGreatDoor
open Go.RowKit
def strs (l : List (List UInt8)) : List Value := l.map fun b => .string (bs b)
end Go.Proofs.YtgkoljphndgoeaaGreatDoor
namespace Go.Proofs.YtgkoljphndgoeaaGreatDoor
open Go.RowKit Tm
theorem byte0 {s : ByteArray} {c : UInt8} {r : List UInt8} (h : s.data.toList = c :: r) : ∃ h0 : 0 < s.size, s[0] = c := by
 have hl := congrArg List.length h
 simp at hl
 refine ⟨by omega, ?_⟩
 have : s.data.toList[0]? = some c := by rw [h]; rfl
 rw [List.getElem?_eq_getElem (by simp; omega)] at this
 exact Option.some.inj this
set_option maxHeartbeats 1000000 in
theorem lh_one (wide : Bool) (s : ByteArray) (w : World) (h0 : 0 < s.size) (hc : s[0].toNat = 115 ∨ s[0].toNat = 59 ∨ s[0].toNat = 47) : Calls Tryz.prog 156 #[.string s, .bool wide] w (Quiet (.int .i64 1) w) := by
 rcases hc with hc | hc | hc
 all_goals
  go_enter Tryz.func156, Tryz.ntmps156
  go_wp2_with fail
  go_ret
  exact ⟨rfl, 0, rfl⟩
set_option maxHeartbeats 1000000 in
theorem lh_a (wide : Bool) (s : ByteArray) (w : World) (h0 : 0 < s.size) (hc : s[0].toNat = 97) : Calls Tryz.prog 156 #[.string s, .bool wide] w (Quiet (.int .i64 s.size) w) := by
 go_enter Tryz.func156, Tryz.ntmps156
 go_wp2_with fail
 go_ret
 exact ⟨rfl, 0, rfl⟩
set_option maxHeartbeats 1000000 in
theorem lh_t (wide : Bool) (s : ByteArray) (w : World) (h0 : 0 < s.size) (hc : s[0].toNat = 63 ∨ s[0].toNat = 64 ∨ s[0].toNat = 126) (r : Int) (c1 : ∀ w, Calls Tryz.prog 207 #[.string s, .int .i64 1, .bool wide] w (Quiet (.int .i64 r) w)) :
  Calls Tryz.prog 156 #[.string s, .bool wide] w (Quiet (.int .i64 r) w) := by
 have C1 := Lib.hid c1
 clear c1
 rcases hc with hc | hc | hc
 all_goals
  go_enter Tryz.func156, Tryz.ntmps156
  go_wp2_with fail
  refine (C1.out _).mono ?_
  rintro e w' ⟨rfl, n, rfl⟩
  go_wp2_with fail
  go_ret
  exact ⟨rfl, n, rfl⟩
theorem lh_any (wide : Bool) (p : Pg) (hp : p.ok wide) (s : ByteArray) (hs : s.data.toList = p.ser) (hl : s.size ≤ 1000000) (w : World) : Calls Tryz.prog 156 #[.string s, .bool wide] w (Quiet (.int .i64 (1 + p.hd.length : Nat)) w) := by
 have hse := hs
 rw [p.ser_eq] at hse
 obtain ⟨h0, hb⟩ := byte0 hse
 have tst : ∀ (t : Tm) (r : List UInt8), Ok wide true t → s.data.toList = p.letter :: (t.ser ++ r) → ∀ w, Calls Tryz.prog 207 #[.string s, .int .i64 1, .bool wide] w (Quiet (.int .i64 (1 + t.ser.length : Nat)) w) := by
  intro t r ht e w
  refine gtest_any wide s hl 1 _ w ?_
  have := GAt.ser (wide := wide) (f := emb t .nil) (ks := [116]) (i := 1) (rest := r) (l := s.data.toList) (emb_ok (k := true) ht rfl) (by rw [e, emb_ser]; simp [Fo.ser])
  rw [emb_ser] at this
  simpa [Fo.ser] using this
 cases p with
 | skip => exact lh_one wide s w h0 (by rw [hb]; simp [Pg.letter])
 | seq a b => exact lh_one wide s w h0 (by rw [hb]; simp [Pg.letter])
 | cho a b => exact lh_one wide s w h0 (by rw [hb]; simp [Pg.letter])
 | asg v e =>
  have : s.size = 1 + (Pg.asg v e).hd.length := by have := congrArg List.length hs; simp [Pg.ser] at this; simp [Pg.hd]; omega
  rw [← this]
  exact lh_a wide s w h0 (by rw [hb]; simp [Pg.letter])
 | ite t a b => exact lh_t wide s w h0 (by rw [hb]; simp [Pg.letter]) _ (tst t _ hp.1 hse)
 | whl t a => exact lh_t wide s w h0 (by rw [hb]; simp [Pg.letter]) _ (tst t _ hp.1 hse)
 | asm t => exact lh_t wide s w h0 (by rw [hb]; simp [Pg.letter]) _ (tst t [] hp (by rw [hse]; simp [Pg.hd, Pg.pks]))
theorem infoStr : (Tryz.prog.info? 9).map (fun i => (i.zero, i.size, i.bytes)) = some (some (.string ⟨#[]⟩), 1, 16) := by kernel_rfl
def RowPost (T : TypeId) (vs : List Value) (w : World) (e : Ending) (w' : World) : Prop := ∃ sl, e = .returned sl ∧ Row w' w.heap.size T sl vs ∧ Below w.heap.size w w'
theorem extract_bs {s : ByteArray} {a n : Nat} {x r : List UInt8} (h : s.data.toList.drop a = x ++ r) (hn : n = x.length) (_ha : a ≤ s.size) : s.extract a (a + n) = bs x := by
 apply ByteArray.ext
 apply Array.ext'
 simp only [ByteArray.data_extract, bs, Array.toList_extract]
 rw [List.extract_eq_take_drop, h]
 simp [hn]
theorem pok_mem {wide : Bool} {p q : Pg} (hp : p.ok wide) (hq : q ∈ p.pks) : q.ok wide := by
 cases p <;> simp [Pg.pks] at hq
 ·rcases hq with rfl | rfl
  ·exact hp.1
  ·exact hp.2
 ·rcases hq with rfl | rfl
  ·exact hp.2.1
  ·exact hp.2.2
 ·subst hq; exact hp.2
 ·rcases hq with rfl | rfl
  ·exact hp.1
  ·exact hp.2
set_option maxRecDepth 100000 in
set_option maxHeartbeats 4000000 in
theorem parts_any (wide : Bool) (p : Pg) (hp : p.ok wide) (s : ByteArray) (hs : s.data.toList = p.ser) (hl : s.size ≤ 1000000) (w : World) :
  Calls Tryz.prog 157 #[.string s, .bool wide] w (RowPost 9 (strs (p.pks.map Pg.ser)) w) := by
 obtain ⟨i0, hi0, hz0, hz1, hz2⟩ := info_parts infoStr
 have HH := fun w => Lib.hid (lh_any wide p hp s hs hl w)
 have HS := Lib.hid hs
 have HO := Lib.hid hp
 clear hs hp
 go_enter Tryz.func157, Tryz.ntmps157
 go_wp2_with fail
 refine (HH _).out.mono ?_
 rintro e w' ⟨rfl, n, rfl⟩
 go_wp2_with fail
 have hdrop : s.data.toList.drop (1 + p.hd.length) = (p.pks.drop 0).flatMap Pg.ser := by
  rw [HS.out, p.ser_eq, Nat.add_comm, List.drop_succ_cons, List.drop_left' rfl, List.drop_zero]
 have hle : 1 + p.hd.length ≤ s.size := by
  have := congrArg List.length HS.out
  rw [p.ser_eq] at this
  simp at this; omega
 have hr0 := Row.kept (Row.new w 9 [] (by simp)) (bdrewN (Below.refl (w.alloc (.cells #[] 9)).heap.size _) n)
 have hb0 := bdrewN ((Below.refl w.heap.size w).alloc (Nat.le_refl _) (.cells #[] 9)) n
 have HD := Lib.hid hdrop
 have HR := Lib.hid hr0
 have HB := Lib.hid hb0
 clear hdrop hr0 hb0
 generalize (w.alloc (.cells #[] 9)).drewN n = W0 at *
 go_loopw [5, 6] (fun v5 v6 wr => ∃ (m a : Nat), m ≤ p.pks.length ∧ v6 = .int .i64 a ∧ a ≤ s.size ∧ Hid (s.data.toList.drop a = (p.pks.drop m).flatMap Pg.ser) ∧ Hid (Row wr w.heap.size 9 v5 (strs ((p.pks.take m).map Pg.ser))) ∧ Hid (Below w.heap.size w wr)) (fun _ v6 _ => s.size - (intOf v6).toNat)
 case atStart => exact ⟨0, 1 + p.hd.length, Nat.zero_le _, by go_num, hle, HD, HR, HB⟩
 case round =>
  obtain ⟨m, a, hm, rfl, ha, HD1, HR1, HB1⟩ := hrel
  by_cases hlt : m < p.pks.length
  ·have hpk : p.pks.drop m = p.pks[m] :: p.pks.drop (m + 1) := List.drop_eq_getElem_cons hlt
   have hd1 := HD1.out
   rw [hpk, List.flatMap_cons] at hd1
   have hqok : p.pks[m].ok wide := pok_mem HO.out (List.getElem_mem hlt)
   have htk : p.pks.take (m + 1) = p.pks.take m ++ [p.pks[m]] := by rw [List.take_succ_eq_append_getElem hlt]
   have hml : p.pks.length ≤ 2 := by cases p <;> simp [Pg.pks]
   generalize p.pks[m] = q at *
   have hlen := congrArg List.length hd1
   have hpos : 0 < q.ser.length := by rw [q.ser_eq]; simp
   simp at hlen
   have hag : GAt wide [112] s.data.toList a (a + q.ser.length) := by
    have := GAt.ser (wide := wide) (f := q.fo .nil) (ks := [112]) (i := a) (l := s.data.toList) (rest := (p.pks.drop (m + 1)).flatMap Pg.ser) (pg_ok hqok rfl) (by rw [hd1, pg_ser]; simp [Fo.ser])
    rw [pg_ser] at this
    simpa [Fo.ser] using this
   have HE := fun w => Lib.hid (pend_any wide s hl a _ w hag)
   have hex := extract_bs hd1 rfl ha
   have hd2 : s.data.toList.drop (a + q.ser.length) = (p.pks.drop (m + 1)).flatMap Pg.ser := by rw [← List.drop_drop, hd1, List.drop_left' rfl]
   have HX := Lib.hid hex
   have HD2 := Lib.hid hd2
   have HT := Lib.hid htk
   have h0 : (0 : Int) ≤ (a : Int) := by omega
   have h1 : (a : Int) < (s.size : Int) := by omega
   have hle2 : a + q.ser.length ≤ s.size := by omega
   clear hd1 hag hex hd2 htk hpk hqok hlen
   generalize hL : q.ser.length = L at *
   have HLn := Lib.hid hL
   clear hL
   go_wp2_with fail
   refine (HE _).out.mono ?_
   rintro e w' ⟨rfl, n1, rfl⟩
   have hrk := HR1.out.kept (bdrewN (Below.refl wr.heap.size wr) n1)
   have hbk := bdrewN HB1.out n1
   have HRK := Lib.hid hrk
   have HBK := Lib.hid hbk
   clear hrk hbk
   generalize wr.drewN n1 = W1 at *
   have hxl : (strs ((p.pks.take m).map Pg.ser)).length ≤ 2 := by simp [strs]; omega
   have hXn : strs ((p.pks.take (m + 1)).map Pg.ser) = strs ((p.pks.take m).map Pg.ser) ++ [.string (bs q.ser)] := by rw [HT.out]; simp [strs]
   have HXN := Lib.hid hXn
   clear hXn HR1
   generalize strs ((p.pks.take m).map Pg.ser) = X at *
   go_wp2_with (at_builtin; refine wpList_append_lies _ (by rfl) _ _ _ (by rfl) w.heap.size 9 i0 _ 1 16 Tryz.underlying136 hi0 hz0 hz1 hz2 rfl (by omega) _ _ _ (by rfl) (World.ownsRow.alloc HRK.out _) ⟨W1.heap.size, 0, none⟩ 1 1 [.string (s.extract a (a + L))] (by rfl) (by rfl) (World.news_of_block (cs := #[.string (s.extract a (a + L))]) (t := 9) (fr := (0, 0)) (heap_alloc_new W1 _)) (by simp [Value.oneCell']) (by omega) (by unfold maxLen; omega) (by omega) (by have := HBK.out.size; simp; omega) (W1.heap.size + 1) (by simp) ?_; intro g3 cap3 w3 hown hgrow hat hlt2)
   obtain ⟨hr3, hb3⟩ := Row.after (HBK.out.alloc HBK.out.size _) (Row.kept HRK.out ((Below.refl _ _).alloc (Nat.le_refl _) _)) hown hgrow
   exact ⟨⟨m + 1, a + L, hlt, by go_num, hle2, HD2, by rw [HXN.out, ← HX.out]; exact hr3, hb3⟩, by simp [intOf]; omega⟩
  ·have hme : m = p.pks.length := by omega
   have hd1 := HD1.out
   rw [hme, List.drop_of_length_le (Nat.le_refl _)] at hd1
   have hae := congrArg List.length hd1
   simp at hae
   have h1 : ¬ (a : Int) < (s.size : Int) := by omega
   have hfin : Hid (Row wr w.heap.size 9 u5 (strs (p.pks.map Pg.ser))) := by
    have := HR1.out
    rw [hme, List.take_of_length_le (Nat.le_refl _)] at this
    exact this
   clear hme hd1 hae HR1 HD1 hlt
   go_wp2_with fail
   go_ret
   exact ⟨_, rfl, hfin.out, HB1.out⟩
theorem bs_list (l : List UInt8) : (bs l).data.toList = l := by simp [bs]
theorem mem_len {p q : Pg} (h : q ∈ p.pks) : q.ser.length < p.ser.length := by
 cases p <;> simp [Pg.pks] at h
 ·rcases h with rfl | rfl <;> (simp [Pg.ser]; omega)
 ·rcases h with rfl | rfl <;> (simp [Pg.ser]; omega)
 ·subst h; simp [Pg.ser]; omega
 ·rcases h with rfl | rfl <;> (simp [Pg.ser]; omega)
end Go.Proofs.YtgkoljphndgoeaaGreatDoor
