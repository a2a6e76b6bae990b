/-
  Drawing an expression: l1Draw; what is drawn is an expression.
-/
import Derived.Test.YtgkoljphndgoeaaDrawE
import Derived.Test.YtgkoljphndgoeaaPure
namespace Go.Proofs.Ytgkoljphndgoeaa
open Go.RowKit

/-- A text is drawn that Q holds of: its size lies between two bounds, and the reader is asked at most c times. -/
def DrQ (Q : ByteArray → Prop) (a p lo hi c : Nat) (w : World) (e : Ending) (w' : World) : Prop := ∃ (s : ByteArray) (q : Nat), lo ≤ s.size ∧ s.size ≤ hi ∧ q ≤ p + c ∧ Q s ∧ e = .returned (.string s) ∧ Rd a q w' ∧ Kp a w w'
/-- The text is an expression (false) or a test (true). -/
def IsX (k : Bool) (s : ByteArray) : Prop := Valid false k s.data.toList
def IsA (s : ByteArray) : Prop := s = ⟨#[43]⟩ ∨ s = ⟨#[45]⟩ ∨ s = ⟨#[42]⟩
def IsCm (s : ByteArray) : Prop := s = ⟨#[61]⟩ ∨ s = ⟨#[60]⟩
def IsJ (s : ByteArray) : Prop := s = ⟨#[38]⟩ ∨ s = ⟨#[124]⟩
def IsTF (s : ByteArray) : Prop := s = ⟨#[116]⟩ ∨ s = ⟨#[102]⟩
theorem IsA.size {s : ByteArray} (h : IsA s) : s.size = 1 := by rcases h with rfl | rfl | rfl <;> rfl
theorem IsCm.size {s : ByteArray} (h : IsCm s) : s.size = 1 := by rcases h with rfl | rfl <;> rfl
theorem IsJ.size {s : ByteArray} (h : IsJ s) : s.size = 1 := by rcases h with rfl | rfl <;> rfl
theorem IsTF.size {s : ByteArray} (h : IsTF s) : s.size = 1 := by rcases h with rfl | rfl <;> rfl
theorem isX_bin {c : UInt8} {k k1 k2 : Bool} (hc : opk false k c = some [k1, k2]) {x y : ByteArray} (hx : IsX k1 x) (hy : IsX k2 y) : IsX k ((⟨#[c]⟩ : ByteArray) ++ x ++ y) := by
  obtain ⟨t, ht, et⟩ := hx
  obtain ⟨u, hu, eu⟩ := hy
  exact ⟨.bin c t u, ⟨k1, k2, hc, ht, hu⟩, by simp [ByteArray.data_append, et, eu, Tm.ser]⟩
theorem IsA.bin {s x y : ByteArray} (h : IsA s) (hx : IsX false x) (hy : IsX false y) : IsX false (s ++ x ++ y) := by
  rcases h with rfl | rfl | rfl <;> exact isX_bin rfl hx hy
theorem IsCm.bin {s x y : ByteArray} (h : IsCm s) (hx : IsX false x) (hy : IsX false y) : IsX true (s ++ x ++ y) := by
  rcases h with rfl | rfl <;> exact isX_bin rfl hx hy
theorem IsJ.bin {s x y : ByteArray} (h : IsJ s) (hx : IsX true x) (hy : IsX true y) : IsX true (s ++ x ++ y) := by
  rcases h with rfl | rfl <;> exact isX_bin rfl hx hy
theorem IsTF.ok {s : ByteArray} (h : IsTF s) : IsX true s := by
  rcases h with rfl | rfl
  · exact ⟨.leaf 116, rfl, rfl⟩
  · exact ⟨.leaf 102, rfl, rfl⟩
theorem isX_not {x : ByteArray} (hx : IsX true x) : IsX true ((⟨#[33]⟩ : ByteArray) ++ x) := by
  obtain ⟨t, ht, et⟩ := hx
  exact ⟨.un 33 t, ⟨true, rfl, ht⟩, by simp [ByteArray.data_append, et, Tm.ser]⟩
/-- The names are letters. -/
def Nm (N : ByteArray) : Prop := ∀ k, k + 1 ≤ N.size → IsX false (N.extract k (k + 1))
theorem nm_xyz : Nm ⟨#[120, 121, 122]⟩ := by
  intro k hk
  have hk : k + 1 ≤ 3 := hk
  have : k = 0 ∨ k = 1 ∨ k = 2 := by omega
  rcases this with rfl | rfl | rfl
  · exact ⟨.leaf 120, rfl, by decide +kernel⟩
  · exact ⟨.leaf 121, rfl, by decide +kernel⟩
  · exact ⟨.leaf 122, rfl, by decide +kernel⟩

theorem vdec_one (k : Int) (h0 : 0 ≤ k) (h1 : k < 3) (w : World) : Calls Try.prog 24 #[.int .i64 k] w fun e w' => ∃ s : ByteArray, s.size = 1 ∧ IsX false s ∧ e = .returned (.string s) ∧ Below w.heap.size w w' := by
  have : k = 0 ∨ k = 1 ∨ k = 2 := by omega
  rcases this with rfl | rfl | rfl
  · exact (dec_0 w).mono fun e w' h => ⟨_, bs_size _, ⟨.leaf 48, rfl, rfl⟩, h.1, h.2⟩
  · exact (dec_1 w).mono fun e w' h => ⟨_, bs_size _, ⟨.leaf 49, rfl, rfl⟩, h.1, h.2⟩
  · exact (dec_2 w).mono fun e w' h => ⟨_, bs_size _, ⟨.leaf 50, rfl, rfl⟩, h.1, h.2⟩

set_option maxRecDepth 100000 in
set_option maxHeartbeats 4000000 in
/-- A leaf: a letter of the names, or a digit. The region in front has asked already. -/
theorem vE_zero {a p : Nat} (N : ByteArray) (hN : 1 ≤ N.size) (hN2 : N.size ≤ 6) (hNv : Nm N) (d : Int) (hd : d ≤ 0) {w : World} (hr : Rd a p w) (hp : p ≤ 900000) :
    Calls Try.prog 48 #[.pointer (some ⟨a, 0, none⟩), .int .i64 d, .string N] w (DrQ (IsX false) a p 1 1 2 w) := by
  have HR := Lib.hid hr
  have HNV := Lib.hid hNv
  clear hr hNv
  go_enter Try.func48, Try.ntmps48
  go_wp2_with fail
  refine (pick_any ((N.size : Int) + 2) HR.out (by omega) (by omega) (by omega)).mono ?_
  rintro e w1 ⟨k, k0, k1, rfl, hr, hk⟩
  have HR1 := Lib.hid hr
  have HK1 := Lib.hid hk
  clear hr hk
  obtain ⟨k, rfl⟩ := Int.eq_ofNat_of_zero_le k0
  by_cases hlt : k < N.size
  · have h1 : (k : Int) < (N.size : Int) := by omega
    have h2 : (k : Int) + 1 ≤ (N.size : Int) := by omega
    have hz : (N.extract k (k + 1)).size = 1 := by simp [ByteArray.size_extract]; omega
    have HZ := Lib.hid hz
    clear hz
    go_wp2_with fail
    go_ret
    exact ⟨_, p + 1, Nat.le_of_eq HZ.out.symm, Nat.le_of_eq HZ.out, by omega, HNV.out k (by omega), rfl, HR1.out, HK1.out⟩
  · have h1 : ¬ (k : Int) < (N.size : Int) := by omega
    go_wp2_with fail
    refine (pick_any 3 HR1.out (by omega) (by omega) (by omega)).mono ?_
    rintro e w2 ⟨j, j0, j1, rfl, hr, hk⟩
    have HR2 := Lib.hid hr
    have HK2 := Lib.hid (HK1.out.trans hk)
    have HD := Lib.hid (vdec_one j j0 j1 w2)
    clear hr hk
    go_wp2_with fail
    refine HD.out.mono ?_
    rintro e w3 ⟨s, hs, hv, rfl, hb⟩
    have HV := Lib.hid hv
    clear hv
    have HR3 := Lib.hid (HR2.out.kept hb)
    have HK3 := Lib.hid (HK2.out.next hb)
    clear hb
    go_wp2_with fail
    go_ret
    exact ⟨s, p + 1 + 1, Nat.le_of_eq hs.symm, Nat.le_of_eq hs, by omega, HV.out, rfl, HR3.out, HK3.out⟩

set_option maxRecDepth 100000 in
set_option maxHeartbeats 8000000 in
/-- One depth more: a leaf, or an operator and two expressions. -/
theorem vE_succ {a p : Nat} (N : ByteArray) (hN : 1 ≤ N.size) (hN2 : N.size ≤ 6) (hNv : Nm N) (d m : Int) (hd : ¬ d ≤ 0) (hm : IntKind.i64.wrap (d - 1) = m) (hi c : Nat) (hh : hi ≤ 100000) (h1i : 1 ≤ hi) {w : World} (hr : Rd a p w) (hp : p + (2 * c + 3) ≤ 900000)
    (IH : ∀ (q : Nat) (w1 : World), q ≤ p + (c + 2) → Rd a q w1 → Calls Try.prog 48 #[.pointer (some ⟨a, 0, none⟩), .int .i64 m, .string N] w1 (DrQ (IsX false) a q 1 hi c w1)) :
    Calls Try.prog 48 #[.pointer (some ⟨a, 0, none⟩), .int .i64 d, .string N] w (DrQ (IsX false) a p 1 (2 * hi + 1) (2 * c + 3) w) := by
  have HR := Lib.hid hr
  have HI := Lib.hid IH
  have HNV := Lib.hid hNv
  clear hr IH hNv
  have C := Lib.hid (pick_any 3 HR.out (by omega) (by omega) (by omega))
  go_enter Try.func48, Try.ntmps48
  go_wp2_with fail
  refine C.out.mono ?_
  rintro e w1 ⟨k, k0, k1, rfl, hr, hk⟩
  have HR1 := Lib.hid hr
  have HK1 := Lib.hid hk
  clear hr hk C
  by_cases e0 : k = 0
  · subst e0
    go_wp2_with fail
    refine (pick_any ((N.size : Int) + 2) HR1.out (by omega) (by omega) (by omega)).mono ?_
    rintro e w2 ⟨k, k0, k1, rfl, hr, hk⟩
    have HR2 := Lib.hid hr
    have HK2 := Lib.hid (HK1.out.trans hk)
    clear hr hk
    obtain ⟨k, rfl⟩ := Int.eq_ofNat_of_zero_le k0
    by_cases hlt : k < N.size
    · have h1 : (k : Int) < (N.size : Int) := by omega
      have h2 : (k : Int) + 1 ≤ (N.size : Int) := by omega
      have hz : (N.extract k (k + 1)).size = 1 := by simp [ByteArray.size_extract]; omega
      have HZ := Lib.hid hz
      clear hz
      go_wp2_with fail
      go_ret
      exact ⟨_, p + 1 + 1, Nat.le_of_eq HZ.out.symm, by rw [HZ.out]; omega, by omega, HNV.out k (by omega), rfl, HR2.out, HK2.out⟩
    · have h1 : ¬ (k : Int) < (N.size : Int) := by omega
      go_wp2_with fail
      refine (pick_any 3 HR2.out (by omega) (by omega) (by omega)).mono ?_
      rintro e w3 ⟨j, j0, j1, rfl, hr, hk⟩
      have HR3 := Lib.hid hr
      have HK3 := Lib.hid (HK2.out.trans hk)
      have HD := Lib.hid (vdec_one j j0 j1 w3)
      clear hr hk
      go_wp2_with fail
      refine HD.out.mono ?_
      rintro e w4 ⟨s, hs, hv, rfl, hb⟩
      have HV := Lib.hid hv
      clear hv
      have HR4 := Lib.hid (HR3.out.kept hb)
      have HK4 := Lib.hid (HK3.out.next hb)
      clear hb
      go_wp2_with fail
      go_ret
      exact ⟨s, p + 1 + 1 + 1, Nat.le_of_eq hs.symm, by omega, by omega, HV.out, rfl, HR4.out, HK4.out⟩
  · have g0 : (k == 0) = false := by rw [beq_eq_false_iff_ne]; exact e0
    clear e0
    have hlt := HR.out.lt
    have hne : w1.heap.size ≠ a := by have := HK1.out.size; omega
    have HL := Lib.hid (Blk.new w1 #[.string (⟨#[43]⟩), .string (⟨#[45]⟩), .string (⟨#[42]⟩), .string (⟨#[43]⟩)] 9)
    have hax := (Below.refl _ w1).alloc (Nat.le_refl _) (.cells #[.string (⟨#[43]⟩), .string (⟨#[45]⟩), .string (⟨#[42]⟩), .string (⟨#[43]⟩)] 9)
    have HR1x := Lib.hid (HR1.out.kept hax)
    have HK1x := Lib.hid (HK1.out.next hax)
    clear hax
    have HQ : Hid (∀ i, i < 4 → ∃ s, (#[.string (⟨#[43]⟩), .string (⟨#[45]⟩), .string (⟨#[42]⟩), .string (⟨#[43]⟩)] : Array Value)[i]? = some (.string s) ∧ IsA s) := fun i hi => by
      have hi : i = 0 ∨ i = 1 ∨ i = 2 ∨ i = 3 := by omega
      rcases hi with rfl | rfl | rfl | rfl <;> exact ⟨_, rfl, by simp [IsA]⟩
    go_wp2_with fail
    refine (of_any 4 4 IsA HR1x.out (by omega) HL.out hne (by omega) (by omega) HQ.out).mono ?_
    rintro e w2 ⟨o, hoA, rfl, hr, hk⟩
    have HO := Lib.hid hoA
    have ho := hoA.size
    clear hoA
    have HR2 := Lib.hid hr
    have HK2 := Lib.hid (HK1x.out.trans hk)
    clear hr hk HL HQ
    have HC := Lib.hid (HI.out (p + 1 + 1) w2 (by omega) HR2.out)
    go_wp2_with fail
    refine HC.out.mono ?_
    rintro e w3 ⟨x, q, x1, x2, hq, hxv, rfl, hr, hk⟩
    have HX := Lib.hid hxv
    clear hxv
    have HR3 := Lib.hid hr
    have HK3 := Lib.hid (HK2.out.trans hk)
    clear hr hk HC
    have HC := Lib.hid (HI.out q w3 (by omega) HR3.out)
    go_wp2_with fail
    refine HC.out.mono ?_
    rintro e w4 ⟨y, q', y1, y2, hq', hyv, rfl, hr, hk⟩
    have HY := Lib.hid hyv
    clear hyv
    have HR4 := Lib.hid hr
    have HK4 := Lib.hid (HK3.out.trans hk)
    clear hr hk HC
    obtain ⟨n1, n2⟩ := szd (Nat.le_of_eq ho) x2 y2 hh
    have hs : (o ++ x ++ y).size = 1 + x.size + y.size := by simp [ByteArray.size_append, ho]
    have HS := Lib.hid hs
    clear hs
    go_wp2_with fail
    go_ret
    exact ⟨o ++ x ++ y, q', by rw [HS.out]; omega, by rw [HS.out]; omega, by omega, HO.out.bin HX.out HY.out, rfl, HR4.out, HK4.out⟩

/-- An expression of depth 0, 1, 2, 3 is drawn. -/
theorem vE_1 {a p : Nat} (N : ByteArray) (hN : 1 ≤ N.size) (hN2 : N.size ≤ 6) (hNv : Nm N) {w : World} (hr : Rd a p w) (hp : p ≤ 800000) :
    Calls Try.prog 48 #[.pointer (some ⟨a, 0, none⟩), .int .i64 1, .string N] w (DrQ (IsX false) a p 1 3 7 w) :=
  vE_succ N hN hN2 hNv 1 0 (by omega) rfl 1 2 (by omega) (by omega) hr (by omega) fun q w1 hq h => vE_zero N hN hN2 hNv 0 (by omega) h (by omega)
theorem vE_2 {a p : Nat} (N : ByteArray) (hN : 1 ≤ N.size) (hN2 : N.size ≤ 6) (hNv : Nm N) {w : World} (hr : Rd a p w) (hp : p ≤ 700000) :
    Calls Try.prog 48 #[.pointer (some ⟨a, 0, none⟩), .int .i64 2, .string N] w (DrQ (IsX false) a p 1 7 17 w) :=
  vE_succ N hN hN2 hNv 2 1 (by omega) rfl 3 7 (by omega) (by omega) hr (by omega) fun q w1 hq h => vE_1 N hN hN2 hNv h (by omega)
theorem vE_3 {a p : Nat} (N : ByteArray) (hN : 1 ≤ N.size) (hN2 : N.size ≤ 6) (hNv : Nm N) {w : World} (hr : Rd a p w) (hp : p ≤ 600000) :
    Calls Try.prog 48 #[.pointer (some ⟨a, 0, none⟩), .int .i64 3, .string N] w (DrQ (IsX false) a p 1 15 37 w) :=
  vE_succ N hN hN2 hNv 3 2 (by omega) rfl 7 17 (by omega) (by omega) hr (by omega) fun q w1 hq h => vE_2 N hN hN2 hNv h (by omega)
end Go.Proofs.Ytgkoljphndgoeaa
