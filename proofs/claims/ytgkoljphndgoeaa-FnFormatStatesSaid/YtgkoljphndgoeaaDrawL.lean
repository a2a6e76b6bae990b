/-
  Drawing texts of sets: l2Some, l2Bad, l2Open, l2Two, and the draws of the laws of sets.
-/
import Derived.Test.YtgkoljphndgoeaaDrawUV
import Derived.Test.YtgkoljphndgoeaaTst
import Derived.Test.YtgkoljphndgoeaaSetS
import Derived.Test.YtgkoljphndgoeaaDrawW
import Derived.Deep.RegionHeld3
namespace Go.Proofs.Ytgkoljphndgoeaa
open Go.RowKit

theorem part_upd (n k : Nat) (F : Nat → Bool) (b : Bool) (h : k < n) : (part n k F).set k (bitc b) = part n (k + 1) (fun j => if j = k then b else F j) := by
  rw [← part_step n k _ h]
  unfold part
  rw [tbn_congr (F := fun j => if j = k then b else F j) (G := F) (fun i hi => by rw [if_neg (by omega)])]
  simp
theorem set27_bs (F : Nat → Bool) : Set27 (bs (tb F)) := by
  unfold Set27
  rw [show (bs (tb F)).data.toList = tb F by simp [bs]]
  exact bits_tbn 27 F

set_option maxRecDepth 100000 in
set_option maxHeartbeats 8000000 in
/-- A text of a set is drawn. -/
theorem some_any {a p : Nat} {w : World} (hr : Rd a p w) (hp : p ≤ 400000) :
    Calls Try.prog 36 #[.pointer (some ⟨a, 0, none⟩)] w (DrQ Set27 a p 27 27 80 w) := by
  have HR := Lib.hid hr
  have hlt := hr.lt
  clear hr
  have hmk : ∀ w, (Instr.makeSlice 24 (.int .i64 27) (.int .i64 27)).run Try.prog w = .ok (.slice (some ⟨w.heap.size, 0, none⟩) 27 27) (w.alloc (.cells (u8s (zs 27)) 5)) := fun w => mkBytes 27 (by omega) w
  have C := Lib.hid (pick_any 3 HR.out (by omega) (by omega) (by omega))
  go_enter Try.func36, Try.ntmps36
  go_wp2_with fail
  refine C.out.mono ?_
  rintro e w1 ⟨k, k0, k1, rfl, hr, hk⟩
  have HR1 := Lib.hid hr
  have HK1 := Lib.hid hk
  clear hr hk C
  by_cases h0 : (0 : Int) < k
  · have HC := Lib.hid (vT_2 (bs [120, 121, 122]) (by decide) (by decide) nm_xyz HR1.out (by omega))
    go_wp2_with fail
    refine HC.out.mono ?_
    rintro e w2 ⟨t, q, t1, t2, hq, hv, rfl, hr, hk⟩
    obtain ⟨tm, htm, etm⟩ := hv
    have HR2 := Lib.hid hr
    have HK2 := Lib.hid (HK1.out.trans hk)
    have HO := fun w => Lib.hid (specOf0 t tm w (ok_wide htm) etm (by omega))
    clear hr hk HC htm etm
    have HS := Lib.hid (set27_bs (tst tm))
    have HZ : Hid ((bs (tb (tst tm))).size = 27) := by show _ = _; rw [bs_size]; exact tbn_length 27 _
    generalize bs (tb (tst tm)) = r at *
    go_wp2_with fail
    refine (HO _).out.mono ?_
    rintro e w3 ⟨rfl, hb⟩
    have HR3 := Lib.hid (HR2.out.kept hb)
    have HK3 := Lib.hid (HK2.out.next hb)
    clear hb
    go_wp2_with fail
    go_ret
    exact ⟨_, q, Nat.le_of_eq HZ.out.symm, Nat.le_of_eq HZ.out, by omega, HS.out, rfl, HR3.out, HK3.out⟩
  · have HT0 := Lib.hid (BBlk.made 27 w1)
    have hax := (Below.refl _ w1).alloc (Nat.le_refl _) (.cells (u8s (zs 27)) 5)
    have HR2 := Lib.hid (HR1.out.kept hax)
    have HK2 := Lib.hid (HK1.out.next hax)
    have hne : w1.heap.size ≠ a := by have := HR1.out.lt; omega
    clear hax
    go_wp2_with fail
    generalize w1.alloc (.cells (u8s (zs 27)) 5) = w0 at *
    go_loopw [4] (fun i wr => ∃ (k q : Nat) (F : Nat → Bool), k ≤ 27 ∧ i = .int .i64 k ∧ q ≤ p + 1 + k ∧ Hid (Rd a q wr) ∧ Hid (Kp a w wr) ∧ Hid (BBlk wr w1.heap.size (part 27 k F))) (fun i _ => 27 - (intOf i).toNat)
    case atStart => exact ⟨0, p + 1, fun _ => false, by omega, rfl, by omega, HR2, HK2, HT0⟩
    case round =>
      clear HT0 HR2 HK2
      obtain ⟨k, q, F, hk, rfl, hq, HRk, HKk, HTk⟩ := hrel
      by_cases hlt2 : k < 27
      · have HC := Lib.hid (pick_any 2 HRk.out (by omega) (by omega) (by omega))
        have hl := Lib.hid (part_len 27 k F (by omega))
        go_wp2_with fail
        refine HC.out.mono ?_
        rintro e w2 ⟨b, b0, b1, rfl, hr, hk⟩
        have HR3 := Lib.hid hr
        have HK3 := Lib.hid (HKk.out.trans hk)
        have HT3 : Hid (BBlk w2 w1.heap.size (part 27 k F)) := Blk.kp HTk.out hk hne
        have HB2 := Lib.hid HK1.out.size
        clear hr hk HC
        obtain ⟨old, hc⟩ := HT3.out.some k (by rw [hl.out]; omega)
        have hf := HT3.out.free k
        have hgt : a + 1 ≤ w1.heap.size := by have := HR1.out.lt; omega
        cases hb0 : (b == 0)
        · have HP := Lib.hid (part_upd 27 k F false hlt2)
          go_wp2_with fail
          refine (specBit _ _).mono ?_
          rintro e w' ⟨rfl, rfl⟩
          go_wp2_with fail
          refine ⟨⟨k + 1, q + 1, (fun j => if j = k then false else F j), by omega, by go_num, by omega, HR3.out.keepB (Below.setCell (Below.refl (a + 1) _) (p := ⟨w1.heap.size, k, none⟩) hgt _) (by omega), HK3.out.setNew (q := ⟨w1.heap.size, k, none⟩) HB2.out _, ?_⟩, by simp [intOf]; omega⟩
          refine ?_
          show BBlk _ _ (part 27 (k + 1) (fun j => if j = k then false else F j))
          rw [← HP.out]
          exact HT3.out.set k _
        · have HP := Lib.hid (part_upd 27 k F true hlt2)
          go_wp2_with fail
          refine (specBit _ _).mono ?_
          rintro e w' ⟨rfl, rfl⟩
          go_wp2_with fail
          refine ⟨⟨k + 1, q + 1, (fun j => if j = k then true else F j), by omega, by go_num, by omega, HR3.out.keepB (Below.setCell (Below.refl (a + 1) _) (p := ⟨w1.heap.size, k, none⟩) hgt _) (by omega), HK3.out.setNew (q := ⟨w1.heap.size, k, none⟩) HB2.out _, ?_⟩, by simp [intOf]; omega⟩
          refine ?_
          show BBlk _ _ (part 27 (k + 1) (fun j => if j = k then true else F j))
          rw [← HP.out]
          exact HT3.out.set k _
      · have hk3 : k = 27 := by omega
        subst hk3
        have hv := toStr HTk.out 27 27 (part_len 27 27 _ (by omega)).symm
        rw [part_all] at hv
        have HS := Lib.hid (set27_bs F)
        have HZ : Hid ((bs (tb F)).size = 27) := by show _ = _; rw [bs_size]; exact tbn_length 27 _
        unfold tb at HS HZ
        generalize bs (tbn 27 F) = r at *
        go_wp2_with fail
        go_ret
        exact ⟨_, q, Nat.le_of_eq HZ.out.symm, Nat.le_of_eq HZ.out, by omega, HS.out, rfl, HRk.out, HKk.out⟩

theorem szl {x : Nat} (h : x = 27) : (¬ 9223372036854775807 < x + 1) ∧ (¬ 9223372036854775807 < x - 1 + 1) ∧ (¬ 9223372036854775807 < 26 + 1) := by omega
set_option maxRecDepth 100000 in
set_option maxHeartbeats 8000000 in
/-- A text of a set is spoilt, or not. -/
theorem bad2_any {a p : Nat} (t : ByteArray) (h1 : t.size = 27) {w : World} (hr : Rd a p w) (hp : p ≤ 900000) :
    Calls Try.prog 35 #[.pointer (some ⟨a, 0, none⟩), .string t] w (DrP a p 0 28 1 w) := by
  have HR := Lib.hid hr
  clear hr
  have C := Lib.hid (pick_any 40 HR.out (by omega) (by omega) (by omega))
  go_enter Try.func35, Try.ntmps35
  go_wp2_with fail
  refine C.out.mono ?_
  rintro e w1 ⟨k, k0, k1, rfl, hr, hk⟩
  have HR1 := Lib.hid hr
  have HK1 := Lib.hid hk
  clear hr hk C
  obtain ⟨n1, n2, n3⟩ := szl h1
  by_cases e0 : k = 0
  · subst e0
    go_wp2_with fail
    go_ret
    exact ⟨_, p + 1, Nat.zero_le _, by rw [ByteArray.size_append, h1]; decide, by omega, rfl, HR1.out, HK1.out⟩
  have g0 : (k == 0) = false := by rw [beq_eq_false_iff_ne]; exact e0
  clear e0
  by_cases e1 : k = 1
  · subst e1
    have ew : IntKind.i64.wrap ((t.size : Int) - 1) = 26 := (IntWalk.i64_in _ (by omega)).trans (by omega)
    have ew2 : (26 : Int) ≤ (t.size : Int) := by omega
    have ez : (t.extract 0 26).size = 26 := by simp [ByteArray.size_extract]; omega
    have EZ := Lib.hid ez
    clear h1
    go_wp2_with fail
    go_ret
    exact ⟨_, p + 1, Nat.zero_le _, by rw [ByteArray.size_append, EZ.out]; decide, by omega, rfl, HR1.out, HK1.out⟩
  have g1 : (k == 1) = false := by rw [beq_eq_false_iff_ne]; exact e1
  clear e1
  by_cases e2 : k = 2
  · subst e2
    go_wp2_with fail
    go_ret
    exact ⟨_, p + 1, Nat.zero_le _, by decide, by omega, rfl, HR1.out, HK1.out⟩
  have g2 : (k == 2) = false := by rw [beq_eq_false_iff_ne]; exact e2
  clear e2
  go_wp2_with fail
  go_ret
  exact ⟨_, p + 1, Nat.zero_le _, by omega, by omega, rfl, HR1.out, HK1.out⟩

set_option maxHeartbeats 4000000 in
/-- A text is drawn where a set is asked. -/
theorem open2_any {a p : Nat} {w : World} (hr : Rd a p w) (hp : p ≤ 400000) :
    Calls Try.prog 28 #[.pointer (some ⟨a, 0, none⟩)] w (DrP a p 0 28 81 w) := by
  have HC := Lib.hid (some_any hr hp)
  clear hr
  go_enter Try.func28, Try.ntmps28
  go_wp2_with fail
  refine HC.out.mono ?_
  rintro e w1 ⟨t, q, t1, t2, hq, hv, rfl, hr, hk⟩
  have HK1 := Lib.hid hk
  have HC := Lib.hid (bad2_any t (by omega) hr (by omega))
  clear hr hk hv
  go_wp2_with fail
  refine HC.out.mono ?_
  rintro e w2 ⟨x, q', x1, x2, hq', rfl, hr, hk⟩
  have HR2 := Lib.hid hr
  have HK2 := Lib.hid (HK1.out.trans hk)
  clear hr hk
  go_wp2_with fail
  go_ret
  exact ⟨x, q', by omega, by omega, by omega, rfl, HR2.out, HK2.out⟩

theorem or_size (p q : List UInt8) : (bs (tbn 27 (fun i => hs p i || hs q i))).size = 27 := by rw [bs_size]; exact tbn_length 27 _

end Go.Proofs.Ytgkoljphndgoeaa
