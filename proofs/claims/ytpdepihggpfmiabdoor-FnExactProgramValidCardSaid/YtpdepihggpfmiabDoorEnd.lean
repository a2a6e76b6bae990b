/-
  spec.l3End: where the program that begins at an index ends, or -1. It only reads. ProgramValid of the model.
-/
import Derived.Test.YtpdepihggpfmiabDoorExpr
import Derived.Test.YtpdepihggpfmiabDoorGPure
import Derived.IntWalk
namespace Go.Proofs.YtpdepihggpfmiabDoor
open Go.RowKit Tm

theorem gexpr_any (wide : Bool) (s : ByteArray) (hs : s.size ≤ 1000000) (a r : Int) (w : World) (hr : GAt wide [101] s.data.toList a r) : Calls Tryd.prog 64 #[.string s, .int .i64 a, .bool wide] w (Quiet (.int .i64 r) w) :=
  expr_any wide s hs a r w (gat_of_pref (k := false) hr)
theorem gtest_any (wide : Bool) (s : ByteArray) (hs : s.size ≤ 1000000) (a r : Int) (w : World) (hr : GAt wide [116] s.data.toList a r) : Calls Tryd.prog 65 #[.string s, .int .i64 a, .bool wide] w (Quiet (.int .i64 r) w) :=
  test_any wide s hs a r w (gat_of_pref (k := true) hr)

set_option maxHeartbeats 1000000 in
theorem end_neg (wide : Bool) (s : ByteArray) (a : Int) (w : World) (ha : a < 0) : Calls Tryd.prog 42 #[.string s, .int .i64 a, .bool wide] w (Quiet (.int .i64 (-1)) w) := by
  go_enter Tryd.func42, Tryd.ntmps42
  go_wp2_with fail
  go_ret
  exact ⟨rfl, 0, rfl⟩

set_option maxHeartbeats 1000000 in
theorem end_past (wide : Bool) (s : ByteArray) (a : Nat) (w : World) (ha : s.size ≤ a) : Calls Tryd.prog 42 #[.string s, .int .i64 a, .bool wide] w (Quiet (.int .i64 (-1)) w) := by
  have h0 : (0 : Int) ≤ (a : Int) := by omega
  have h1 : ¬ (a : Int) < (s.size : Int) := by omega
  go_enter Tryd.func42, Tryd.ntmps42
  go_wp2_with fail
  go_ret
  exact ⟨rfl, 0, rfl⟩

set_option maxHeartbeats 1000000 in
theorem end_s (wide : Bool) (s : ByteArray) (a : Nat) (w : World) (hs : s.size ≤ 1000000) (ha : a < s.size) (hc : s[a].toNat = 115) : Calls Tryd.prog 42 #[.string s, .int .i64 a, .bool wide] w (Quiet (.int .i64 (a + 1)) w) := by
  have h0 : (0 : Int) ≤ (a : Int) := by omega
  have h1 : (a : Int) < (s.size : Int) := by omega
  go_enter Tryd.func42, Tryd.ntmps42
  go_wp2_with fail
  go_ret
  exact ⟨rfl, 0, rfl⟩

set_option maxHeartbeats 2000000 in
theorem end_bad (wide : Bool) (s : ByteArray) (a : Nat) (w : World) (_hs : s.size ≤ 1000000) (ha : a < s.size) (hc : gopk wide 112 s[a] = none) : Calls Tryd.prog 42 #[.string s, .int .i64 a, .bool wide] w (Quiet (.int .i64 (-1)) w) := by
  have h0 : (0 : Int) ≤ (a : Int) := by omega
  have h1 : (a : Int) < (s.size : Int) := by omega
  have ne : ∀ d : UInt8, gopk wide 112 d ≠ none → (s[a] == d) = false := fun d hd => by rw [beq_eq_false_iff_ne]; intro e; rw [e] at hc; exact hd hc
  have n1 := byte_ne (ne 115 (by simp [gopk, gopk0, wideK])); have n2 := byte_ne (ne 97 (by simp [gopk, gopk0, wideK])); have n3 := byte_ne (ne 59 (by simp [gopk, gopk0, wideK])); have n4 := byte_ne (ne 47 (by simp [gopk, gopk0, wideK]))
  have n5 := byte_ne (ne 63 (by simp [gopk, gopk0, wideK])); have n6 := byte_ne (ne 64 (by simp [gopk, gopk0, wideK])); have n7 := byte_ne (ne 126 (by simp [gopk, gopk0, wideK]))
  simp at n1 n2 n3 n4 n5 n6 n7
  clear hc ne
  go_enter Tryd.func42, Tryd.ntmps42
  go_wp2_with fail
  go_ret
  exact ⟨rfl, 0, rfl⟩

set_option maxHeartbeats 2000000 in
theorem end_two (wide : Bool) (s : ByteArray) (a : Nat) (w : World) (hs : s.size ≤ 1000000) (ha : a < s.size) (hc : s[a].toNat = 59 ∨ s[a].toNat = 47) (r1 r2 : Int)
    (c1 : ∀ w, Calls Tryd.prog 42 #[.string s, .int .i64 (a + 1), .bool wide] w (Quiet (.int .i64 r1) w)) (c2 : ∀ w, Calls Tryd.prog 42 #[.string s, .int .i64 r1, .bool wide] w (Quiet (.int .i64 r2) w)) :
    Calls Tryd.prog 42 #[.string s, .int .i64 a, .bool wide] w (Quiet (.int .i64 r2) w) := by
  have h0 : (0 : Int) ≤ (a : Int) := by omega
  have h1 : (a : Int) < (s.size : Int) := by omega
  have C1 := Lib.hid c1
  have C2 := Lib.hid c2
  clear c1 c2
  rcases hc with hc | hc
  all_goals
    go_enter Tryd.func42, Tryd.ntmps42
    go_wp2_with fail
    refine (C1.out _).mono ?_
    rintro e w' ⟨rfl, n1, rfl⟩
    go_wp2_with fail
    refine (C2.out _).mono ?_
    rintro e w' ⟨rfl, n2, rfl⟩
    go_wp2_with fail
    go_ret
    exact ⟨rfl, n1 + n2, rfl⟩

set_option maxHeartbeats 2000000 in
theorem end_whl (wide : Bool) (s : ByteArray) (a : Nat) (w : World) (hs : s.size ≤ 1000000) (ha : a < s.size) (hc : s[a].toNat = 64) (r1 r2 : Int)
    (c1 : ∀ w, Calls Tryd.prog 65 #[.string s, .int .i64 (a + 1), .bool wide] w (Quiet (.int .i64 r1) w)) (c2 : ∀ w, Calls Tryd.prog 42 #[.string s, .int .i64 r1, .bool wide] w (Quiet (.int .i64 r2) w)) :
    Calls Tryd.prog 42 #[.string s, .int .i64 a, .bool wide] w (Quiet (.int .i64 r2) w) := by
  have h0 : (0 : Int) ≤ (a : Int) := by omega
  have h1 : (a : Int) < (s.size : Int) := by omega
  have C1 := Lib.hid c1
  have C2 := Lib.hid c2
  clear c1 c2
  skip
  all_goals
    go_enter Tryd.func42, Tryd.ntmps42
    go_wp2_with fail
    refine (C1.out _).mono ?_
    rintro e w' ⟨rfl, n1, rfl⟩
    go_wp2_with fail
    refine (C2.out _).mono ?_
    rintro e w' ⟨rfl, n2, rfl⟩
    go_wp2_with fail
    go_ret
    exact ⟨rfl, n1 + n2, rfl⟩

set_option maxHeartbeats 2000000 in
theorem end_ite (wide : Bool) (s : ByteArray) (a : Nat) (w : World) (hs : s.size ≤ 1000000) (ha : a < s.size) (hc : s[a].toNat = 63) (r1 r2 r3 : Int)
    (c1 : ∀ w, Calls Tryd.prog 65 #[.string s, .int .i64 (a + 1), .bool wide] w (Quiet (.int .i64 r1) w)) (c2 : ∀ w, Calls Tryd.prog 42 #[.string s, .int .i64 r1, .bool wide] w (Quiet (.int .i64 r2) w))
    (c3 : ∀ w, Calls Tryd.prog 42 #[.string s, .int .i64 r2, .bool wide] w (Quiet (.int .i64 r3) w)) :
    Calls Tryd.prog 42 #[.string s, .int .i64 a, .bool wide] w (Quiet (.int .i64 r3) w) := by
  have h0 : (0 : Int) ≤ (a : Int) := by omega
  have h1 : (a : Int) < (s.size : Int) := by omega
  have C1 := Lib.hid c1
  have C2 := Lib.hid c2
  have C3 := Lib.hid c3
  clear c1 c2 c3
  go_enter Tryd.func42, Tryd.ntmps42
  go_wp2_with fail
  refine (C1.out _).mono ?_
  rintro e w' ⟨rfl, n1, rfl⟩
  go_wp2_with fail
  refine (C2.out _).mono ?_
  rintro e w' ⟨rfl, n2, rfl⟩
  go_wp2_with fail
  refine (C3.out _).mono ?_
  rintro e w' ⟨rfl, n3, rfl⟩
  go_wp2_with fail
  go_ret
  exact ⟨rfl, n1 + n2 + n3, rfl⟩

set_option maxHeartbeats 2000000 in
theorem end_asm (wide : Bool) (s : ByteArray) (a : Nat) (w : World) (hs : s.size ≤ 1000000) (ha : a < s.size) (hc : s[a].toNat = 126) (r1 : Int)
    (c1 : ∀ w, Calls Tryd.prog 65 #[.string s, .int .i64 (a + 1), .bool wide] w (Quiet (.int .i64 r1) w)) :
    Calls Tryd.prog 42 #[.string s, .int .i64 a, .bool wide] w (Quiet (.int .i64 r1) w) := by
  have h0 : (0 : Int) ≤ (a : Int) := by omega
  have h1 : (a : Int) < (s.size : Int) := by omega
  have C1 := Lib.hid c1
  clear c1
  go_enter Tryd.func42, Tryd.ntmps42
  go_wp2_with fail
  refine (C1.out _).mono ?_
  rintro e w' ⟨rfl, n1, rfl⟩
  go_wp2_with fail
  go_ret
  exact ⟨rfl, n1, rfl⟩

set_option maxHeartbeats 2000000 in
theorem end_a1 (wide : Bool) (s : ByteArray) (a : Nat) (w : World) (hs : s.size ≤ 1000000) (ha : a < s.size) (hc : s[a].toNat = 97) (h : ¬ a + 1 < s.size) :
    Calls Tryd.prog 42 #[.string s, .int .i64 a, .bool wide] w (Quiet (.int .i64 (-1)) w) := by
  have h0 : (0 : Int) ≤ (a : Int) := by omega
  have h1 : (a : Int) < (s.size : Int) := by omega
  have h2 : (s.size : Int) ≤ (a : Int) + 1 := by omega
  have h3 : IntKind.i64.wrap ((a : Int) + 1) = (a : Int) + 1 := IntWalk.i64_in _ (by omega)
  clear h
  go_enter Tryd.func42, Tryd.ntmps42
  go_wp2_with fail
  go_quiet (fail)
  go_wp2_with fail
  go_ret
  exact ⟨rfl, nq, rfl⟩

set_option maxHeartbeats 2000000 in
theorem end_a2 (wide : Bool) (s : ByteArray) (a : Nat) (w : World) (hs : s.size ≤ 1000000) (ha : a < s.size) (hc : s[a].toNat = 97) (h : a + 1 < s.size) (hv : ¬ isVarB wide s[a + 1] = true) :
    Calls Tryd.prog 42 #[.string s, .int .i64 a, .bool wide] w (Quiet (.int .i64 (-1)) w) := by
  have h0 : (0 : Int) ≤ (a : Int) := by omega
  have h1 : (a : Int) < (s.size : Int) := by omega
  have h2 : ¬ (s.size : Int) ≤ (a : Int) + 1 := by omega
  have h2' : decide ((s.size : Int) ≤ (a : Int) + 1) = false := by simpa using h2
  have h4 : (0 : Int) ≤ (a : Int) + 1 := by omega
  have h5 : (a : Int) + 1 < (s.size : Int) := by omega
  have h6 : ((a : Int) + 1).toNat = a + 1 := by omega
  have h3 : IntKind.i64.wrap ((a : Int) + 1) = (a : Int) + 1 := IntWalk.i64_in _ (by omega)
  have hnm := nm_le wide
  have HM := Lib.hid (fnd_no (fun h => hv ((nm_var wide s[a + 1]).1 h)))
  clear hv
  go_enter Tryd.func42, Tryd.ntmps42
  go_wp2_with fail
  go_quiet ((first | (go_at_call 63; exact Calls.quiet_of_same (names_any _ _)) | (go_at_call 62; exact Calls.quiet_of_same (find_at HM.out _ hnm))))
  go_wp2_with fail
  go_ret
  exact ⟨rfl, nq, rfl⟩

set_option maxHeartbeats 2000000 in
theorem end_a3 (wide : Bool) (s : ByteArray) (a : Nat) (w : World) (hs : s.size ≤ 1000000) (ha : a < s.size) (hc : s[a].toNat = 97) (h : a + 1 < s.size) (hv : isVarB wide s[a + 1] = true) (r1 : Int)
    (c1 : ∀ w, Calls Tryd.prog 64 #[.string s, .int .i64 (a + 2), .bool wide] w (Quiet (.int .i64 r1) w)) :
    Calls Tryd.prog 42 #[.string s, .int .i64 a, .bool wide] w (Quiet (.int .i64 r1) w) := by
  have C1 := Lib.hid c1
  clear c1
  have h0 : (0 : Int) ≤ (a : Int) := by omega
  have h1 : (a : Int) < (s.size : Int) := by omega
  have h2 : ¬ (s.size : Int) ≤ (a : Int) + 1 := by omega
  have h2' : decide ((s.size : Int) ≤ (a : Int) + 1) = false := by simpa using h2
  have h4 : (0 : Int) ≤ (a : Int) + 1 := by omega
  have h5 : (a : Int) + 1 < (s.size : Int) := by omega
  have h6 : ((a : Int) + 1).toNat = a + 1 := by omega
  have h3 : IntKind.i64.wrap ((a : Int) + 1) = (a : Int) + 1 := IntWalk.i64_in _ (by omega)
  have hnm := nm_le wide
  obtain ⟨n, hn⟩ := fnd_yes ((nm_var wide s[a + 1]).2 hv)
  have hn0 : (0 : Int) ≤ (n : Int) := by omega
  have HN := Lib.hid hn
  clear hv hn
  go_enter Tryd.func42, Tryd.ntmps42
  go_wp2_with fail
  go_quiet ((first | (go_at_call 63; exact Calls.quiet_of_same (names_any _ _)) | (go_at_call 62; exact Calls.quiet_of_same (find_at HN.out _ hnm))))
  clear h3
  go_wp2_with fail
  refine (C1.out _).mono ?_
  rintro e w' ⟨rfl, n1, rfl⟩
  go_wp2_with fail
  go_ret
  exact ⟨rfl, nq + n1, rfl⟩

theorem end_at (wide : Bool) (s : ByteArray) (hs : s.size ≤ 1000000) : ∀ (m : Nat) (a r : Int) (w : World), (s.size : Int) - a ≤ m → GAt wide [112] s.data.toList a r → Calls Tryd.prog 42 #[.string s, .int .i64 a, .bool wide] w (Quiet (.int .i64 r) w) := by
  intro m
  induction m with
  | zero =>
    intro a r w hm hr
    obtain ⟨i, rfl⟩ := Int.eq_ofNat_of_zero_le (show 0 ≤ a by omega)
    obtain rfl := hr.uniq (GAt.past (show s.data.toList.length ≤ i by simp; omega))
    exact end_past wide s i w (by omega)
  | succ m ih =>
    intro a r w hm hr
    by_cases ha : a < 0
    · obtain rfl := hr.uniq (GAt.neg ha)
      exact end_neg wide s a w ha
    obtain ⟨i, rfl⟩ := Int.eq_ofNat_of_zero_le (show 0 ≤ a by omega)
    by_cases hi : ¬ i < s.size
    · obtain rfl := hr.uniq (GAt.past (show s.data.toList.length ≤ i by simp; omega))
      exact end_past wide s i w (by omega)
    have hi : i < s.size := by omega
    have hd := drop_cons' s i hi
    cases ho : gopk wide 112 s[i] with
    | none =>
      obtain rfl := hr.uniq (GAt.bad hd ho)
      exact end_bad wide s i w hs hi ho
    | some l =>
      have nxt : ∀ (b c : Int) (w : World), b = -1 ∨ (i : Int) + 1 ≤ b → GAt wide [112] s.data.toList b c → Calls Tryd.prog 42 #[.string s, .int .i64 b, .bool wide] w (Quiet (.int .i64 c) w) := by
        intro b c w hb hg
        rcases hb with rfl | hb
        · obtain rfl := hg.uniq (GAt.neg (by omega))
          exact end_neg wide s _ w (by omega)
        · exact ih _ _ w (by omega) hg
      have far : ∀ {k : UInt8} {b c : Int}, b = -1 ∨ (i : Int) + 1 ≤ b → GAt wide [k] s.data.toList b c → c = -1 ∨ (i : Int) + 1 ≤ c := by
        intro k b c hb hg
        rcases hg.lo with h | h
        · exact .inl h
        · right; omega
      rcases gopk_p ho with ⟨hc, rfl⟩ | ⟨hc, rfl⟩ | ⟨hc, rfl⟩ | ⟨hc, rfl⟩ | ⟨hc, rfl⟩ | ⟨hc, rfl⟩
      · have hg : GAt wide [112] s.data.toList i (i + 1) := GAt.node hd ho (by have := GAt.none (wide := wide) (l := s.data.toList) (i := i + 1); exact this)
        obtain rfl := hr.uniq hg
        exact end_s wide s i w hs hi (by rw [hc]; rfl)
      · by_cases hi2 : i + 1 < s.size
        · have hd2 := drop_cons' s (i + 1) hi2
          by_cases hv : isVarB wide s[i + 1] = true
          · have hv2 : GAt wide [118] s.data.toList ((i + 1 : Nat) : Int) ((i + 1 + 1 : Nat) : Int) := GAt.node hd2 (show gopk wide 118 s[i + 1] = some [] by simp [gopk, gopk0, wideK, hv]) (GAt.none (wide := wide) (l := s.data.toList) (i := i + 1 + 1))
            obtain ⟨r1, h1⟩ := GAt.exists wide [101] s.data.toList ((i + 1 + 1 : Nat) : Int)
            have hg := GAt.node hd ho (GAt.cons (ks := [101]) (by exact_mod_cast hv2) h1)
            obtain rfl := hr.uniq hg
            refine end_a3 wide s i w hs hi (by rw [hc]; rfl) hi2 hv _ (fun w => ?_)
            have := gexpr_any wide s hs _ _ w h1
            rw [show ((i + 1 + 1 : Nat) : Int) = (i : Int) + 2 by omega] at this
            exact this
          · have hv2 : GAt wide [118, 101] s.data.toList ((i + 1 : Nat) : Int) (-1) := GAt.bad hd2 (by simp [gopk, gopk0, wideK, hv])
            have hg := GAt.node hd ho (by exact_mod_cast hv2)
            obtain rfl := hr.uniq hg
            exact end_a2 wide s i w hs hi (by rw [hc]; rfl) hi2 hv
        · have hv2 : GAt wide [118, 101] s.data.toList ((i + 1 : Nat) : Int) (-1) := GAt.past (by simp; omega)
          have hg := GAt.node hd ho (by exact_mod_cast hv2)
          obtain rfl := hr.uniq hg
          exact end_a1 wide s i w hs hi (by rw [hc]; rfl) hi2
      · obtain ⟨r1, h1⟩ := GAt.exists wide [112] s.data.toList (i + 1)
        obtain ⟨r2, h2⟩ := GAt.exists wide [112] s.data.toList r1
        obtain rfl := hr.uniq (GAt.node hd ho (GAt.cons h1 h2))
        exact end_two wide s i w hs hi (by rcases hc with hc | hc <;> simp [hc]) r1 _ (fun w => nxt _ _ w (.inr (by omega)) h1) (fun w => nxt _ _ w (far (.inr (by omega)) h1) h2)
      · obtain ⟨r1, h1⟩ := GAt.exists wide [116] s.data.toList (i + 1)
        obtain ⟨r2, h2⟩ := GAt.exists wide [112] s.data.toList r1
        obtain ⟨r3, h3⟩ := GAt.exists wide [112] s.data.toList r2
        obtain rfl := hr.uniq (GAt.node hd ho (GAt.cons h1 (GAt.cons h2 h3)))
        have f1 := far (.inr (by omega)) h1
        exact end_ite wide s i w hs hi (by rw [hc]; rfl) r1 r2 _ (fun w => gtest_any wide s hs _ _ w h1) (fun w => nxt _ _ w f1 h2) (fun w => nxt _ _ w (far f1 h2) h3)
      · obtain ⟨r1, h1⟩ := GAt.exists wide [116] s.data.toList (i + 1)
        obtain ⟨r2, h2⟩ := GAt.exists wide [112] s.data.toList r1
        obtain rfl := hr.uniq (GAt.node hd ho (GAt.cons h1 h2))
        have f1 := far (.inr (by omega)) h1
        exact end_whl wide s i w hs hi (by rw [hc]; rfl) r1 _ (fun w => gtest_any wide s hs _ _ w h1) (fun w => nxt _ _ w f1 h2)
      · obtain ⟨r1, h1⟩ := GAt.exists wide [116] s.data.toList (i + 1)
        obtain rfl := hr.uniq (GAt.node hd ho h1)
        exact end_asm wide s i w hs hi (by rw [hc]; rfl) _ (fun w => gtest_any wide s hs _ _ w h1)

theorem pend_any (wide : Bool) (s : ByteArray) (hs : s.size ≤ 1000000) (a r : Int) (w : World) (hr : GAt wide [112] s.data.toList a r) : Calls Tryd.prog 42 #[.string s, .int .i64 a, .bool wide] w (Quiet (.int .i64 r) w) := by
  exact end_at wide s hs ((s.size : Int) - a).toNat a r w (by omega) hr

set_option maxHeartbeats 1000000 in
theorem specPV_yes (s : ByteArray) (w : World) (hv : PValid false s.data.toList) (hs : s.size ≤ 200) : Calls Tryd.prog 15 #[.string s] w (Quiet (.bool true) w) := by
  obtain ⟨r, hr⟩ := GAt.exists false [112] s.data.toList 0
  have he : r = (s.size : Int) := (gvalid_iff_at hr).2 (pvalid_iff.2 hv)
  subst he
  have HC := fun w => Lib.hid (pend_any false s (by omega) 0 _ w hr)
  clear hr hv
  go_enter Tryd.func15, Tryd.ntmps15
  go_wp2_with fail
  refine (HC _).out.mono ?_
  rintro e w' ⟨rfl, n, rfl⟩
  go_wp2_with fail
  go_ret
  exact ⟨rfl, n, rfl⟩

set_option maxHeartbeats 1000000 in
theorem specPV_no (s : ByteArray) (w : World) (hv : ¬ (PValid false s.data.toList ∧ s.size ≤ 200)) : Calls Tryd.prog 15 #[.string s] w (Quiet (.bool false) w) := by
  by_cases hs : s.size ≤ 200
  · obtain ⟨r, hr⟩ := GAt.exists false [112] s.data.toList 0
    have he : ¬ r = (s.size : Int) := fun e => hv ⟨pvalid_iff.1 ((gvalid_iff_at hr).1 e), hs⟩
    have hne : (r == (s.size : Int)) = false := by rw [beq_eq_false_iff_ne]; exact he
    have HC := fun w => Lib.hid (pend_any false s (by omega) 0 _ w hr)
    clear hr hv he
    go_enter Tryd.func15, Tryd.ntmps15
    go_wp2_with fail
    refine (HC _).out.mono ?_
    rintro e w' ⟨rfl, n, rfl⟩
    go_wp2_with fail
    go_ret
    exact ⟨rfl, n, rfl⟩
  · go_enter Tryd.func15, Tryd.ntmps15
    go_wp2_with fail
    go_ret
    exact ⟨rfl, 0, rfl⟩
end Go.Proofs.YtpdepihggpfmiabDoor
