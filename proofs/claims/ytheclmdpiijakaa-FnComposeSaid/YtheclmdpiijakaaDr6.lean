/-
  The draws of relations: l6Some, l6Bad, l6Open, l6Two, and those of the laws of relations.
-/
import Derived.Test.YtheclmdpiijakaaAgr
import Derived.Test.YtheclmdpiijakaaLo
import Derived.Test.YtheclmdpiijakaaTopD
import Derived.Test.YtheclmdpiijakaaMo
import Derived.Test.YtheclmdpiijakaaRt
import Derived.Test.YtheclmdpiijakaaRf6
namespace Go.Proofs.Ytheclmdpiijakaa
open Go.RowKit Go.Great

theorem rel729_bs (T : Nat → Nat → Bool) : Rel729 (bs (relT T)) := by
  unfold Rel729
  rw [show (bs (relT T)).data.toList = relT T by simp [bs], relT_eq]
  exact bits_tbn 729 _
theorem relT_size (T : Nat → Nat → Bool) : (bs (relT T)).size = 729 := (rel729_bs T).size
theorem field_T0 (g : Nat → Value) (a b : Value) (w : World) : (Instr.field 97 (.agg ((List.range 27).map g ++ [a, b]).toArray) 0).run Try.prog w = .ok (.agg ((List.range 27).map g).toArray) w := by kernel_rfl
theorem field_T (t : Nat → Nat → Bool) (l k : Nat → Bool) (w : World) : (Instr.field 97 (.agg (allC t l k)) 0).run Try.prog w = .ok (.agg (relC .i64 t)) w := field_T0 _ _ _ w

theorem bs_of6 {s : ByteArray} {p : Pg} (h : s.data.toList = p.ser) : s = bs p.ser := by
  rw [← h]; exact ByteArray.ext (by simp [bs])
theorem ser_2006 {s : ByteArray} {p : Pg} (h : s.data.toList = p.ser) (hl : s.size ≤ 200) : p.ser.length ≤ 200 := by
  rw [← h]; simpa using hl
theorem IsRow.kept6 {w w' : World} {a : Option Addr} {len cap : Nat} {zs : List Int} (h : IsRow w a len cap zs) (hb : Below w.heap.size w w') : IsRow w' a len cap zs := by
  rcases h with h | ⟨x, rfl, hl, hm, hz, hc, hw⟩
  · exact .inl h
  · exact .inr ⟨x, rfl, hl, hm, hz, fun i hi => by
      have h1 := hc i hi
      have hlt := World.block_lt_of_cell? w _ h1
      exact (hb.cell hlt).trans h1, hw⟩
def SixV (s : ByteArray) : Prop := s.size ≤ 3 ∧ NmV s
theorem sixV_of (l : List UInt8) (h : l.length ≤ 3) (h2 : ∀ c ∈ l, isVarB false c = true) : SixV (bs l) := by
  refine ⟨by rw [bs_size]; exact h, fun k hk => ?_⟩
  rw [bs_size] at hk
  refine ⟨l[k]'(by omega), h2 _ (List.getElem_mem _), ?_⟩
  apply ByteArray.ext
  apply Array.toList_inj.1
  have hl : (l.drop k).take 1 = [l[k]'(by omega)] := by
    rw [List.drop_eq_getElem_cons (by omega)]; rfl
  simpa [bs, ByteArray.data_extract] using hl

set_option maxRecDepth 100000 in
set_option maxHeartbeats 8000000 in
/-- A text of a relation is drawn. -/
theorem some6 {a p : Nat} {w : World} (hr : Rd a p w) (hp : p ≤ 300000) :
    Calls Try.prog 45 #[.pointer (some ⟨a, 0, none⟩)] w (DrQ Rel729 a p 729 729 160 w) := by
  have HR := Lib.hid hr
  have hlt := hr.lt
  clear hr
  have C := Lib.hid (pick_any 6 HR.out (by omega) (by omega) (by omega))
  go_enter Try.func45, Try.ntmps45
  go_wp2_with fail
  refine C.out.mono ?_
  rintro e w1 ⟨k, k0, k1, rfl, hr, hk⟩
  have HR1 := Lib.hid hr
  have HK1 := Lib.hid hk
  clear hr hk C
  by_cases e0 : k = 0
  · subst e0
    have HC := Lib.hid (vP_2 ⟨#[120, 121, 122]⟩ (by decide) (by decide) nmv_xyz false HR1.out (by omega))
    go_wp2_with fail
    refine HC.out.mono ?_
    rintro e w2 ⟨t, q, t1, t2, hq, hv, rfl, hr, hk⟩
    obtain ⟨p0, hp0, ep⟩ := hv
    have HR2 := Lib.hid hr
    have HK2 := Lib.hid (HK1.out.trans hk)
    have CR : ∀ w, Hid (Calls Try.prog 71 #[.string t] w (AllPost (rT p0) (rL p0) (rK p0) w)) := fun w => by
      have := run_any p0 hp0 (ser_2006 ep (by omega)) w
      rw [← bs_of6 ep] at this
      exact this
    have fT := field_T (rT p0) (rL p0) (rK p0)
    clear hr hk HC hp0 ep
    go_wp2_with fail
    refine (CR _).out.mono ?_
    rintro e w3 ⟨rfl, hb⟩
    have HR3 := Lib.hid (HR2.out.kept hb)
    have HK3 := Lib.hid (HK2.out.next hb)
    clear hb
    go_wp2_with fail
    refine (specRText (rT p0) _).mono ?_
    rintro e w4 ⟨rfl, hb⟩
    have HR4 := Lib.hid (HR3.out.kept hb)
    have HK4 := Lib.hid (HK3.out.next hb)
    clear hb
    have HS := Lib.hid (rel729_bs (rT p0))
    have HZ := Lib.hid (relT_size (rT p0))
    generalize bs (relT (rT p0)) = r at *
    go_wp2_with fail
    go_ret
    exact ⟨_, q, Nat.le_of_eq HZ.out.symm, Nat.le_of_eq HZ.out, by omega, HS.out, rfl, HR4.out, HK4.out⟩
  have g0 : (k == 0) = false := by rw [beq_eq_false_iff_ne]; exact e0
  clear e0
  by_cases e1 : k = 1
  · subst e1
    have hneL : w1.heap.size ≠ a := by have := HK1.out.size; omega
    have HL := Lib.hid (Blk.new w1 #[.string (⟨#[120]⟩), .string (⟨#[120, 121]⟩), .string (⟨#[122]⟩), .string (⟨#[]⟩), .string (⟨#[120, 121, 122]⟩), .string (⟨#[121, 122]⟩)] 9)
    have hax := (Below.refl _ w1).alloc (Nat.le_refl _) (.cells #[.string (⟨#[120]⟩), .string (⟨#[120, 121]⟩), .string (⟨#[122]⟩), .string (⟨#[]⟩), .string (⟨#[120, 121, 122]⟩), .string (⟨#[121, 122]⟩)] 9)
    have HRx := Lib.hid (HR1.out.kept hax)
    have HKx := Lib.hid (HK1.out.next hax)
    clear hax
    have HQ : Hid (∀ i, i < 6 → ∃ s, (#[.string (⟨#[120]⟩), .string (⟨#[120, 121]⟩), .string (⟨#[122]⟩), .string (⟨#[]⟩), .string (⟨#[120, 121, 122]⟩), .string (⟨#[121, 122]⟩)] : Array Value)[i]? = some (.string s) ∧ SixV s) := fun i hi => by
      have hi : i = 0 ∨ i = 1 ∨ i = 2 ∨ i = 3 ∨ i = 4 ∨ i = 5 := by omega
      rcases hi with rfl | rfl | rfl | rfl | rfl | rfl
      · exact ⟨_, rfl, sixV_of [120] (by decide) (by decide)⟩
      · exact ⟨_, rfl, sixV_of [120, 121] (by decide) (by decide)⟩
      · exact ⟨_, rfl, sixV_of [122] (by decide) (by decide)⟩
      · exact ⟨_, rfl, sixV_of [] (by decide) (by decide)⟩
      · exact ⟨_, rfl, sixV_of [120, 121, 122] (by decide) (by decide)⟩
      · exact ⟨_, rfl, sixV_of [121, 122] (by decide) (by decide)⟩
    go_wp2_with fail
    refine (of_any 6 6 SixV HRx.out (by omega) HL.out hneL (by omega) (by omega) HQ.out).mono ?_
    rintro e w2 ⟨o, hoA, rfl, hr, hk⟩
    have HC := fun w => Lib.hid (agree6 o hoA.1 hoA.2 w)
    have ho3 := hoA.1
    have HR2 := Lib.hid hr
    have HK2 := Lib.hid (HKx.out.trans hk)
    clear hr hk HL HQ HRx HKx hoA
    go_wp2_with fail
    refine (HC _).out.mono ?_
    rintro e w3 ⟨s, hs, hx, rfl, hb⟩
    obtain ⟨t, ht, et⟩ := hx
    have HR3 := Lib.hid (HR2.out.kept hb)
    have HK3 := Lib.hid (HK2.out.next hb)
    have HO := fun w => Lib.hid (specOf6 s t w ht et (by omega))
    clear hb HC ht et
    go_wp2_with fail
    refine (HO _).out.mono ?_
    rintro e w4 ⟨rfl, hb⟩
    have HR4 := Lib.hid (HR3.out.kept hb)
    have HK4 := Lib.hid (HK3.out.next hb)
    clear hb
    go_wp2_with fail
    refine (specRText (wdR t) _).mono ?_
    rintro e w5 ⟨rfl, hb⟩
    have HR5 := Lib.hid (HR4.out.kept hb)
    have HK5 := Lib.hid (HK4.out.next hb)
    clear hb
    have HS := Lib.hid (rel729_bs (wdR t))
    have HZ := Lib.hid (relT_size (wdR t))
    generalize bs (relT (wdR t)) = r at *
    go_wp2_with fail
    go_ret
    exact ⟨_, p + 1 + 1, Nat.le_of_eq HZ.out.symm, Nat.le_of_eq HZ.out, by omega, HS.out, rfl, HR5.out, HK5.out⟩
  have g1 : (k == 1) = false := by rw [beq_eq_false_iff_ne]; exact e1
  clear e1
  by_cases e2 : k = 2
  · subst e2
    obtain ⟨k0', kb, kz⟩ := one_blk w1 (relC .i64 noR) 57
    have HT0 := Lib.hid (k0'.row (relC .i64 noR))
    have L1 := Lib.hid k0'
    have kb2 := Below.setRow kb (g := w1.heap.size) (Nat.le_refl _) (relC .i64 noR)
    have HR2 := Lib.hid (HR1.out.kept kb2)
    have HK2 := Lib.hid (HK1.out.next kb2)
    have hne : w1.heap.size ≠ a := by have := HR1.out.lt; omega
    clear k0' kb kz kb2
    go_wp2_with (first
      | (refine m_alloc rfl rfl _ rfl w1.heap.size rfl ?_)
      | (refine wpList_buildTo rfl 57 _ rfl _ rfl (relC .i64 noR) (by kernel_rfl) ?_)
      | (refine wpList_store_row rfl 57 _ _ rfl w1.heap.size (relC .i64 noR) (by rfl) (by rfl) 57 (relC .i64 noR) L1.out (infoM _) (by first | rw [relC_size, relC_size] | rw [relC_size]) (relC_one _ _) ?_))
    clear L1
    generalize (w1.alloc (.cells (relC .i64 noR) 57)).setRow w1.heap.size (relC .i64 noR) = w0 at *
    go_loopw [4] (fun i wr => ∃ (k q : Nat) (T : Nat → Nat → Bool), k ≤ 27 ∧ i = .int .i64 k ∧ q ≤ p + 1 + k ∧ Hid (Rd a q wr) ∧ Hid (Kp a w wr) ∧ Hid (Blk wr w1.heap.size (relC .i64 T) 57)) (fun i _ => 27 - (intOf i).toNat)
    case atStart => exact ⟨0, p + 1, noR, by omega, rfl, by omega, HR2, HK2, HT0⟩
    case round =>
      clear HT0 HR2 HK2
      obtain ⟨k, q, T, hk, rfl, hq, HRk, HKk, HTk⟩ := hrel
      by_cases hlt2 : k < 27
      · have HC := Lib.hid (pick_any 27 HRk.out (by omega) (by omega) (by omega))
        go_wp2_with fail
        refine HC.out.mono ?_
        rintro e w2 ⟨b, b0, b1, rfl, hr, hk⟩
        obtain ⟨j, rfl⟩ := Int.eq_ofNat_of_zero_le b0
        have HR3 := Lib.hid hr
        have HK3 := Lib.hid (HKk.out.trans hk)
        have HT3 : Hid (Blk w2 w1.heap.size (relC .i64 T) 57) := Blk.kp HTk.out hk hne
        have HB2 := Lib.hid HK1.out.size
        clear hr hk HC
        have hc := mrel_cell HT3.out hlt2
        have hf := HT3.out.free k
        have hgt : a + 1 ≤ w1.heap.size := by have := HR1.out.lt; omega
        have HP := HT3.out.set k (.int .i64 (nb 27 (fun i => i == j)))
        rw [relC_set hlt2] at HP
        have HP2 := Lib.hid HP
        have ew := Lib.hid (wrap_bit (k := j) (by omega))
        clear HP
        go_wp2_with fail
        rw [ew.out]
        exact ⟨⟨k + 1, q + 1, setR T k (fun i => i == j), by omega, by go_num, by omega, HR3.out.keepB (Below.setCell (Below.refl (a + 1) _) (p := ⟨w1.heap.size, k, none⟩) hgt _) (by omega), HK3.out.setNew (q := ⟨w1.heap.size, k, none⟩) HB2.out _, HP2⟩, by simp [intOf]; omega⟩
      · have hk3 : k = 27 := by omega
        subst hk3
        go_wp2_with (refine wpList_load_row rfl 57 _ rfl w1.heap.size (by rfl) 57 (relC .i64 T) (0, 0) _ HTk.out undM rfl (infoM _) ?_)
        refine (specRText T _).mono ?_
        rintro e w4 ⟨rfl, hb⟩
        have HR4 := Lib.hid (HRk.out.kept hb)
        have HK4 := Lib.hid (HKk.out.next hb)
        clear hb
        have HS := Lib.hid (rel729_bs T)
        have HZ := Lib.hid (relT_size T)
        generalize bs (relT T) = r at *
        go_wp2_with fail
        go_ret
        exact ⟨_, q, Nat.le_of_eq HZ.out.symm, Nat.le_of_eq HZ.out, by omega, HS.out, rfl, HR4.out, HK4.out⟩
  have g2 : (k == 2) = false := by rw [beq_eq_false_iff_ne]; exact e2
  clear e2
  have HC := Lib.hid (wT_2 ⟨#[120, 121, 122, 88, 89, 90]⟩ (by decide) (by decide) nmw_six HR1.out (by omega))
  go_wp2_with fail
  refine HC.out.mono ?_
  rintro e w2 ⟨s, q, s1, s2, hq, hv, rfl, hr, hk⟩
  obtain ⟨t, ht, et⟩ := hv
  have HR2 := Lib.hid hr
  have HK2 := Lib.hid (HK1.out.trans hk)
  have HO := fun w => Lib.hid (specOf6 s t w ht et (by omega))
  clear hr hk HC ht et
  go_wp2_with fail
  refine (HO _).out.mono ?_
  rintro e w4 ⟨rfl, hb⟩
  have HR4 := Lib.hid (HR2.out.kept hb)
  have HK4 := Lib.hid (HK2.out.next hb)
  clear hb
  go_wp2_with fail
  refine (specRText (wdR t) _).mono ?_
  rintro e w5 ⟨rfl, hb⟩
  have HR5 := Lib.hid (HR4.out.kept hb)
  have HK5 := Lib.hid (HK4.out.next hb)
  clear hb
  have HS := Lib.hid (rel729_bs (wdR t))
  have HZ := Lib.hid (relT_size (wdR t))
  generalize bs (relT (wdR t)) = r at *
  go_wp2_with fail
  go_ret
  exact ⟨_, q, Nat.le_of_eq HZ.out.symm, Nat.le_of_eq HZ.out, by omega, HS.out, rfl, HR5.out, HK5.out⟩

theorem szl6 {x : Nat} (h : x = 729) : (¬ 9223372036854775807 < x + 1) ∧ (¬ 9223372036854775807 < x - 1 + 1) ∧ (¬ 9223372036854775807 < 728 + 1) := by omega
set_option maxRecDepth 100000 in
set_option maxHeartbeats 8000000 in
/-- A text of a relation is spoilt, or not. -/
theorem bad6_any {a p : Nat} (t : ByteArray) (h1 : t.size = 729) {w : World} (hr : Rd a p w) (hp : p ≤ 900000) :
    Calls Try.prog 48 #[.pointer (some ⟨a, 0, none⟩), .string t] w (DrP a p 729 730 1 w) := by
  have HR := Lib.hid hr
  clear hr
  have C := Lib.hid (pick_any 40 HR.out (by omega) (by omega) (by omega))
  go_enter Try.func48, Try.ntmps48
  go_wp2_with fail
  refine C.out.mono ?_
  rintro e w1 ⟨k, k0, k1, rfl, hr, hk⟩
  have HR1 := Lib.hid hr
  have HK1 := Lib.hid hk
  clear hr hk C
  obtain ⟨n1, n2, n3⟩ := szl6 h1
  by_cases e0 : k = 0
  · subst e0
    go_wp2_with fail
    go_ret
    exact ⟨_, p + 1, by rw [ByteArray.size_append, h1]; decide, by rw [ByteArray.size_append, h1]; decide, by omega, rfl, HR1.out, HK1.out⟩
  have g0 : (k == 0) = false := by rw [beq_eq_false_iff_ne]; exact e0
  clear e0
  by_cases e1 : k = 1
  · subst e1
    have ew : IntKind.i64.wrap ((t.size : Int) - 1) = 728 := (IntWalk.i64_in _ (by omega)).trans (by omega)
    have ew2 : (728 : Int) ≤ (t.size : Int) := by omega
    have ez : (t.extract 0 728).size = 728 := by simp [ByteArray.size_extract]; omega
    have EZ := Lib.hid ez
    clear h1
    go_wp2_with fail
    go_ret
    exact ⟨_, p + 1, by rw [ByteArray.size_append, EZ.out]; decide, by rw [ByteArray.size_append, EZ.out]; decide, by omega, rfl, HR1.out, HK1.out⟩
  have g1 : (k == 1) = false := by rw [beq_eq_false_iff_ne]; exact e1
  clear e1
  go_wp2_with fail
  go_ret
  exact ⟨_, p + 1, by omega, by omega, by omega, rfl, HR1.out, HK1.out⟩

set_option maxHeartbeats 4000000 in
/-- A text is drawn where a relation is asked. -/
theorem open6_any {a p : Nat} {w : World} (hr : Rd a p w) (hp : p ≤ 300000) :
    Calls Try.prog 31 #[.pointer (some ⟨a, 0, none⟩)] w (DrP a p 729 730 161 w) := by
  have HC := Lib.hid (some6 hr hp)
  clear hr
  go_enter Try.func31, Try.ntmps31
  go_wp2_with fail
  refine HC.out.mono ?_
  rintro e w1 ⟨t, q, t1, t2, hq, hv, rfl, hr, hk⟩
  have HK1 := Lib.hid hk
  have HC := Lib.hid (bad6_any t (by omega) hr (by omega))
  clear hr hk hv
  go_wp2_with fail
  refine HC.out.mono ?_
  rintro e w2 ⟨x, q', x1, x2, hq', rfl, hr, hk⟩
  have HR2 := Lib.hid hr
  have HK2 := Lib.hid (HK1.out.trans hk)
  clear hr hk
  go_wp2_with fail
  go_ret
  exact ⟨x, q', by omega, by omega, by omega, rfl, HR2.out, HK2.out⟩

theorem or_size6 (p q : List UInt8) : (bs (tbn 729 (fun i => hs p i || hs q i))).size = 729 := by rw [bs_size]; exact tbn_length 729 _

set_option maxRecDepth 100000 in
set_option maxHeartbeats 8000000 in
/-- Two texts are drawn where sets are asked. -/
theorem two6_any {a p : Nat} {w : World} (hr : Rd a p w) (hp : p ≤ 200000) :
    Calls Try.prog 22 #[.pointer (some ⟨a, 0, none⟩)] w fun e w' => ∃ (s t : ByteArray) (q : Nat), s.size ≤ 730 ∧ t.size ≤ 730 ∧ q ≤ p + 330 ∧ e = .returned (.tuple #[.string s, .string t]) ∧ Rd a q w' ∧ Kp a w w' := by
  have HC := Lib.hid (open6_any hr (by omega))
  clear hr
  go_enter Try.func22, Try.ntmps22
  go_wp2_with fail
  refine HC.out.mono ?_
  rintro e w1 ⟨s, q, s1, s2, hq, rfl, hr, hk⟩
  have HK1 := Lib.hid hk
  have HC := Lib.hid (some6 hr (by omega))
  clear hr hk
  go_wp2_with fail
  refine HC.out.mono ?_
  rintro e w2 ⟨t, q', t1, t2, hq', hv, rfl, hr, hk⟩
  have hlt := hr.lt
  have HR2 := Lib.hid hr
  have HK2 := Lib.hid (HK1.out.trans hk)
  have tz : t.size = 729 := by omega
  clear hr hk hv HC
  by_cases hs27 : s.size = 729
  · have hg : ((s.size : Int) == (t.size : Int)) = true := by rw [beq_iff_eq]; omega
    have HC := Lib.hid (pick_any 3 HR2.out (by omega) (by omega) (by omega))
    go_wp2_with fail
    refine HC.out.mono ?_
    rintro e w3 ⟨k, k0, k1, rfl, hr, hk⟩
    have HR3 := Lib.hid hr
    have HK3 := Lib.hid (HK2.out.trans hk)
    clear hr hk HC
    by_cases e0 : k = 0
    · subst e0
      have HO := fun w => Lib.hid (specOr0 s t 729 w hs27 tz (by omega))
      have oz := or_size6 s.data.toList t.data.toList
      generalize bs (tbn 729 (fun i => hs s.data.toList i || hs t.data.toList i)) = o at *
      go_wp2_with fail
      refine (HO _).out.mono ?_
      rintro e w4 ⟨rfl, hb⟩
      have HK4 := Lib.hid (HK3.out.next hb)
      have HC := Lib.hid (bad6_any o oz (HR3.out.kept hb) (by omega))
      clear hb
      go_wp2_with fail
      refine HC.out.mono ?_
      rintro e w5 ⟨x, q5, x1, x2, hq5, rfl, hr, hk⟩
      have HR5 := Lib.hid hr
      have HK5 := Lib.hid (HK4.out.trans hk)
      clear hr hk
      go_wp2_with fail
      go_ret2
      exact ⟨s, x, q5, by omega, by omega, by omega, rfl, HR5.out, HK5.out⟩
    · have g0 : (k == 0) = false := by rw [beq_eq_false_iff_ne]; exact e0
      clear e0
      have HC := Lib.hid (bad6_any t tz HR3.out (by omega))
      go_wp2_with fail
      refine HC.out.mono ?_
      rintro e w5 ⟨x, q5, x1, x2, hq5, rfl, hr, hk⟩
      have HR5 := Lib.hid hr
      have HK5 := Lib.hid (HK3.out.trans hk)
      clear hr hk
      go_wp2_with fail
      go_ret2
      exact ⟨s, x, q5, by omega, by omega, by omega, rfl, HR5.out, HK5.out⟩
  · have hg : ((s.size : Int) == (t.size : Int)) = false := by rw [beq_eq_false_iff_ne]; omega
    have HC := Lib.hid (bad6_any t tz HR2.out (by omega))
    go_wp2_with fail
    refine HC.out.mono ?_
    rintro e w5 ⟨x, q5, x1, x2, hq5, rfl, hr, hk⟩
    have HR5 := Lib.hid hr
    have HK5 := Lib.hid (HK2.out.trans hk)
    clear hr hk
    go_wp2_with fail
    go_ret2
    exact ⟨s, x, q5, by omega, by omega, by omega, rfl, HR5.out, HK5.out⟩


set_option maxHeartbeats 4000000 in
theorem dComposeRel {a : Option Addr} {len cap : Nat} {zs : List Int} {w : World} (h : IsRow w a len cap zs) :
    Calls Try.prog 6 #[.slice a len cap] w fun e w' => ∃ s t : ByteArray, s.size ≤ 730 ∧ t.size ≤ 730 ∧ e = .returned (.tuple #[.string s, .string t]) ∧ Below w.heap.size w w' := by
  have HO := Lib.hid (open_any h)
  clear h
  go_enter Try.func6, Try.ntmps6
  go_wp2_with fail
  refine HO.out.mono ?_
  rintro e w1 ⟨rfl, hr, hb⟩
  have HW1 := Lib.hid hb
  have HC := Lib.hid (two6_any hr (by omega))
  clear hr hb
  go_wp2_with fail
  refine HC.out.mono ?_
  rintro e w2 ⟨s, t, q, s1, t1, hq, rfl, hr, hk⟩
  have HW2 := Lib.hid (HW1.out.trans (hk.below (Nat.le_refl _) HW1.out.size))
  clear hr hk
  go_wp2_with fail
  go_ret2
  exact ⟨s, t, s1, t1, rfl, HW2.out⟩

set_option maxHeartbeats 4000000 in
theorem dNotRel {a : Option Addr} {len cap : Nat} {zs : List Int} {w : World} (h : IsRow w a len cap zs) :
    Calls Try.prog 9 #[.slice a len cap] w fun e w' => ∃ t : ByteArray, t.size ≤ 730 ∧ e = .returned (.string t) ∧ Below w.heap.size w w' := by
  have HO := Lib.hid (open_any h)
  clear h
  go_enter Try.func9, Try.ntmps9
  go_wp2_with fail
  refine HO.out.mono ?_
  rintro e w1 ⟨rfl, hr, hb⟩
  have HW1 := Lib.hid hb
  have HC := Lib.hid (open6_any hr (by omega))
  clear hr hb
  go_wp2_with fail
  refine HC.out.mono ?_
  rintro e w2 ⟨t, q, t1, t2, hq, rfl, hr, hk⟩
  have HW2 := Lib.hid (HW1.out.trans (hk.below (Nat.le_refl _) HW1.out.size))
  clear hr hk
  go_wp2_with fail
  go_ret
  exact ⟨t, by omega, rfl, HW2.out⟩

end Go.Proofs.Ytheclmdpiijakaa
