/-
  SequentialProduct: the program and the model.
-/
import Derived.Test.YtinillnccfgooaaDoorRiO
import Derived.Test.YtinillnccfgooaaDoorTxO
namespace Go.Proofs.YtinillnccfgooaaDoor
open Go.RowKit Go.Lib Tm

def TwoProgs (p q : Pg) (w : World) (e : Ending) (w' : World) : Prop := ∃ T u T' u' w1 B B', e = .returned (.tuple #[.iface T (.agg u), .iface T' (.agg u'), .bool true]) ∧ StV w1 B p (.iface T (.agg u)) ∧ Below w1.heap.size w1 w' ∧ StV w' B' q (.iface T' (.agg u')) ∧ Below w.heap.size w w'

set_option maxHeartbeats 2000000 in
theorem two_yes (s t : ByteArray) (w : World) {p q : Pg} (hp : p.ok false) (hs : s.data.toList = p.ser) (hl : s.size ≤ 200) (hq : q.ok false) (ht : t.data.toList = q.ser) (hm : t.size ≤ 200) :
    Calls Tryd.prog 44 #[.string s, .string t] w (TwoProgs p q w) := by
  have H1 := fun w => Lib.hid (prog_yes s w hp hs hl)
  have H2 := fun w => Lib.hid (prog_yes t w hq ht hm)
  clear hs ht
  go_enter Tryd.func44, Tryd.ntmps44
  go_wp2_with fail
  refine (H1 _).out.mono ?_
  rintro e w1 ⟨T, u, rfl, hst, hb⟩
  have HB := Lib.hid hb
  have HS := Lib.hid hst
  clear hb hst
  go_wp2_with fail
  refine (H2 _).out.mono ?_
  rintro e w2 ⟨T', u', rfl, hst, hb⟩
  have HB2 := Lib.hid (bnext HB.out hb)
  have HN := Lib.hid hb
  have HS2 := Lib.hid hst
  clear hb hst
  go_wp2_with fail
  go_ret3
  exact ⟨T, u, T', u', w1, _, _, rfl, HS.out, HN.out, HS2.out, HB2.out⟩

set_option maxHeartbeats 2000000 in
theorem two_noA (s t : ByteArray) (w : World) (h : ¬ (PValid false s.data.toList ∧ s.size ≤ 200)) :
    Calls Tryd.prog 44 #[.string s, .string t] w fun e w' => e = .returned (.tuple #[.nilIface, .nilIface, .bool false]) ∧ Below w.heap.size w w' := by
  have H1 := fun w => Lib.hid (prog_no s w h)
  clear h
  by_cases h : PValid false t.data.toList ∧ t.size ≤ 200
  · obtain ⟨⟨q, hq, ht⟩, hm⟩ := h
    have H2 := fun w => Lib.hid (prog_yes t w hq ht hm)
    clear ht
    go_enter Tryd.func44, Tryd.ntmps44
    go_wp2_with fail
    refine (H1 _).out.mono ?_
    rintro e w1 ⟨rfl, hb⟩
    have HB := Lib.hid hb
    clear hb
    go_wp2_with fail
    refine (H2 _).out.mono ?_
    rintro e w2 ⟨T', u', rfl, hst, hb⟩
    have HB2 := Lib.hid (bnext HB.out hb)
    clear hb hst
    go_wp2_with fail
    go_ret3
    exact ⟨rfl, HB2.out⟩
  · have H2 := fun w => Lib.hid (prog_no t w h)
    clear h
    go_enter Tryd.func44, Tryd.ntmps44
    go_wp2_with fail
    refine (H1 _).out.mono ?_
    rintro e w1 ⟨rfl, hb⟩
    have HB := Lib.hid hb
    clear hb
    go_wp2_with fail
    refine (H2 _).out.mono ?_
    rintro e w2 ⟨rfl, hb⟩
    have HB2 := Lib.hid (bnext HB.out hb)
    clear hb
    go_wp2_with fail
    go_ret3
    exact ⟨rfl, HB2.out⟩

set_option maxHeartbeats 2000000 in
theorem two_noB (s t : ByteArray) (w : World) (hv : PValid false s.data.toList) (hl : s.size ≤ 200) (h : ¬ (PValid false t.data.toList ∧ t.size ≤ 200)) :
    Calls Tryd.prog 44 #[.string s, .string t] w fun e w' => e = .returned (.tuple #[.nilIface, .nilIface, .bool false]) ∧ Below w.heap.size w w' := by
  obtain ⟨p, hp, hs⟩ := hv
  have H1 := fun w => Lib.hid (prog_yes s w hp hs hl)
  have H2 := fun w => Lib.hid (prog_no t w h)
  clear h hs
  go_enter Tryd.func44, Tryd.ntmps44
  go_wp2_with fail
  refine (H1 _).out.mono ?_
  rintro e w1 ⟨T, u, rfl, hst, hb⟩
  have HB := Lib.hid hb
  clear hb hst
  go_wp2_with fail
  refine (H2 _).out.mono ?_
  rintro e w2 ⟨rfl, hb⟩
  have HB2 := Lib.hid (bnext HB.out hb)
  clear hb
  go_wp2_with fail
  go_ret3
  exact ⟨rfl, HB2.out⟩

def sqT (a b : List UInt8) : List UInt8 := 59 :: (a ++ b.map (mir false))
theorem sq_eq (a b : List UInt8) : ByteArray.mk #[59] ++ bs a ++ bs (b.map (mir false)) = bs (sqT a b) := by
  rw [show ByteArray.mk #[59] = bs [59] from rfl, bs_append, bs_append]; rfl

set_option maxHeartbeats 4000000 in
theorem inseq_any (p q : Pg) (hp : p.ok false) (hq : q.ok false) (hn : p.ser.length ≤ 200) (hm : q.ser.length ≤ 200) (w1 w : World) (B B' : Nat) (T T' : TypeId) (u u' : Array Value) (h1 : StV w1 B p (.iface T (.agg u))) (hb1 : Below w1.heap.size w1 w) (h2 : StV w B' q (.iface T' (.agg u'))) (hT : Lib.Utf8Tabs 1 2 w) :
    Calls Tryd.prog 45 #[.iface T (.agg u), .iface T' (.agg u')] w fun e w' => e = .returned (.string (bs (sqT p.ser q.ser))) ∧ Below w.heap.size w w' := by
  have X1 := fun w' hb => Lib.hid (tx_any p hp (by omega) w1 B T u w' h1 hb)
  have X2 := fun w' hb => Lib.hid (tx_any q hq (by omega) w B' T' u' w' h2 hb)
  have hqv : PValid false (bs q.ser).data.toList := ⟨q, hq, by simp [bs]⟩
  have HM := fun w hT => mirrored_any (bs q.ser) (by rw [bs_size]; omega) (fun b hb => (pv_bytes hqv b hb).1) w hT
  rw [pv_mir hqv, show (bs q.ser).data.toList = q.ser by simp [bs]] at HM
  replace HM := fun w hT => Lib.hid (HM w hT)
  have HT := Lib.hid hT
  have HB1 := Lib.hid hb1
  have e1 : (bs p.ser).size ≤ 200 := by rw [bs_size]; exact hn
  have e2 : (bs (q.ser.map (mir false))).size ≤ 200 := by rw [bs_size, List.length_map]; exact hm
  have HQ := Lib.hid (sq_eq p.ser q.ser)
  clear h1 h2 hqv hT hb1
  generalize bs p.ser = P at *
  generalize bs (q.ser.map (mir false)) = R at *
  generalize bs q.ser = Q at *
  have f0 : ¬ (9223372036854775807 < 1 + P.size) := by omega
  have f1 : ¬ (9223372036854775807 < 1 + P.size + R.size) := by omega
  go_enter Tryd.func45, Tryd.ntmps45
  go_wp2_with fail
  refine (X1 _ HB1.out).out.mono ?_
  rintro e w2 ⟨rfl, hb⟩
  have HB2 := Lib.hid hb
  clear hb
  go_wp2_with fail
  refine (X2 _ HB2.out).out.mono ?_
  rintro e w3 ⟨rfl, hb⟩
  have HB3 := Lib.hid (bnext HB2.out hb)
  clear hb
  go_wp2_with fail
  refine (HM _ (Utf8Tabs_below HT.out HB3.out)).out.mono ?_
  rintro e w4 ⟨rfl, hb⟩
  have HB4 := Lib.hid (bnext HB3.out hb)
  clear hb
  go_wp2_with fail
  go_ret
  exact ⟨by rw [← HQ.out]; rfl, HB4.out⟩

set_option maxHeartbeats 2000000 in
theorem implSq_yes (s t : ByteArray) (w : World) (hv : PValid false s.data.toList) (hl : s.size ≤ 200) (hu : PValid false t.data.toList) (hm : t.size ≤ 200) (hT : Lib.Utf8Tabs 1 2 w) :
    Calls Tryd.prog 15 #[.string s, .string t] w fun e w' => e = .returned (.tuple #[.string (bs (sqT s.data.toList t.data.toList)), .bool true]) ∧ Below w.heap.size w w' := by
  obtain ⟨p, hp, hs⟩ := hv
  obtain ⟨q, hq, ht⟩ := hu
  have H1 := fun w => Lib.hid (two_yes s t w hp hs hl hq ht hm)
  have l1 : p.ser.length ≤ 200 := by rw [← hs]; exact hl
  have l2 : q.ser.length ≤ 200 := by rw [← ht]; exact hm
  have H2 := Lib.hid (inseq_any p q hp hq l1 l2)
  have HT := Lib.hid hT
  rw [hs, ht]
  clear hs ht hT
  go_enter Tryd.func15, Tryd.ntmps15
  go_wp2_with fail
  refine (H1 _).out.mono ?_
  rintro e w2 ⟨T, u, T', u', w1, B, B', rfl, h1, hb1, h2, hb⟩
  have HB := Lib.hid hb
  have K := Lib.hid (And.intro h1 (And.intro hb1 h2))
  clear hb h1 hb1 h2
  go_wp2_with fail
  refine (H2.out _ _ _ _ _ _ _ _ K.out.1 K.out.2.1 K.out.2.2 (Utf8Tabs_below HT.out HB.out)).mono ?_
  rintro e w3 ⟨rfl, hb⟩
  have HB2 := Lib.hid (bnext HB.out hb)
  clear hb
  go_wp2_with fail
  go_ret2
  exact ⟨rfl, HB2.out⟩

set_option maxHeartbeats 2000000 in
theorem implSq_no (s t : ByteArray) (w : World) (h : ∀ w, Calls Tryd.prog 44 #[.string s, .string t] w fun e w' => e = .returned (.tuple #[.nilIface, .nilIface, .bool false]) ∧ Below w.heap.size w w') :
    Calls Tryd.prog 15 #[.string s, .string t] w fun e w' => e = .returned (.tuple #[.string ⟨#[]⟩, .bool false]) ∧ Below w.heap.size w w' := by
  have H1 := fun w => Lib.hid (h w)
  clear h
  go_enter Tryd.func15, Tryd.ntmps15
  go_wp2_with fail
  refine (H1 _).out.mono ?_
  rintro e w2 ⟨rfl, hb⟩
  have HB := Lib.hid hb
  clear hb
  go_wp2_with fail
  go_ret2
  exact ⟨rfl, HB.out⟩

set_option maxHeartbeats 2000000 in
theorem wide_short (x : ByteArray) (w : World) (h : x.size ≤ 1000) : Calls Tryd.prog 42 #[.string x, .bool true] w fun e w' => e = .returned (.tuple #[.string x, .bool true]) ∧ Below w.heap.size w w' := by
  have h1 : ¬ (1000 : Int) < (x.size : Int) := by omega
  go_enter Tryd.func42, Tryd.ntmps42
  go_wp2_with fail
  go_ret2
  exact ⟨rfl, Below.refl _ _⟩

set_option maxHeartbeats 2000000 in
theorem specSq_yes (s t : ByteArray) (w : World) (hv : PValid false s.data.toList) (hl : s.size ≤ 200) (hu : PValid false t.data.toList) (hm : t.size ≤ 200) :
    Calls Tryd.prog 14 #[.string s, .string t] w fun e w' => e = .returned (.tuple #[.string (bs (sqT s.data.toList t.data.toList)), .bool true]) ∧ Below w.heap.size w w' := by
  have H1 := fun w => Lib.hid (specPV_yes s w hv hl)
  have H2 := fun w => Lib.hid (specPV_yes t w hu hm)
  have HM := fun w => Lib.hid (case_any false t (by omega) w)
  have e2 : (bs (t.data.toList.map (mir false))).size ≤ 200 := by rw [bs_size, List.length_map]; exact hm
  have hq := sq_eq s.data.toList t.data.toList
  rw [show bs s.data.toList = s by simp [bs]] at hq
  have HW := fun w => Lib.hid (wide_short (bs (sqT s.data.toList t.data.toList)) w (by rw [bs_size]; unfold sqT; have a : s.data.toList.length = s.size := rfl; have b : t.data.toList.length = t.size := rfl; simp only [List.length_cons, List.length_append, List.length_map]; omega))
  clear hv hu
  generalize bs (t.data.toList.map (mir false)) = R at *
  have HQ := Lib.hid hq
  clear hq
  have f0 : ¬ (9223372036854775807 < 1 + s.size) := by omega
  have f1 : ¬ (9223372036854775807 < 1 + s.size + R.size) := by omega
  go_enter Tryd.func14, Tryd.ntmps14
  go_wp2_with fail
  refine (H1 _).out.mono ?_
  rintro e w1 ⟨rfl, n, rfl⟩
  have HB := Lib.hid (bdrewN (Below.refl w.heap.size w) n)
  generalize w.drewN n = w1 at *
  go_wp2_with fail
  refine (H2 _).out.mono ?_
  rintro e w2 ⟨rfl, n, rfl⟩
  have HB2 := Lib.hid (bdrewN HB.out n)
  generalize w1.drewN n = w2 at *
  go_wp2_with fail
  refine (HM _).out.mono ?_
  rintro e w3 ⟨rfl, hb⟩
  have HB3 := Lib.hid (bnext HB2.out hb)
  clear hb
  go_wp2_with fail
  rw [HQ.out]
  refine (HW _).out.mono ?_
  rintro e w4 ⟨rfl, hb⟩
  have HB4 := Lib.hid (bnext HB3.out hb)
  clear hb
  go_wp2_with fail
  go_ret2
  exact ⟨rfl, HB4.out⟩

set_option maxHeartbeats 2000000 in
theorem specSq_noA (s t : ByteArray) (w : World) (h : ¬ (PValid false s.data.toList ∧ s.size ≤ 200)) :
    Calls Tryd.prog 14 #[.string s, .string t] w fun e w' => e = .returned (.tuple #[.string ⟨#[]⟩, .bool false]) ∧ Below w.heap.size w w' := by
  have H1 := fun w => Lib.hid (specPV_no s w h)
  clear h
  go_enter Tryd.func14, Tryd.ntmps14
  go_wp2_with fail
  refine (H1 _).out.mono ?_
  rintro e w1 ⟨rfl, n, rfl⟩
  go_wp2_with fail
  go_ret2
  exact ⟨rfl, bdrewN (Below.refl _ _) n⟩

set_option maxHeartbeats 2000000 in
theorem specSq_noB (s t : ByteArray) (w : World) (hv : PValid false s.data.toList) (hl : s.size ≤ 200) (h : ¬ (PValid false t.data.toList ∧ t.size ≤ 200)) :
    Calls Tryd.prog 14 #[.string s, .string t] w fun e w' => e = .returned (.tuple #[.string ⟨#[]⟩, .bool false]) ∧ Below w.heap.size w w' := by
  have H1 := fun w => Lib.hid (specPV_yes s w hv hl)
  have H2 := fun w => Lib.hid (specPV_no t w h)
  clear h hv
  go_enter Tryd.func14, Tryd.ntmps14
  go_wp2_with fail
  refine (H1 _).out.mono ?_
  rintro e w1 ⟨rfl, n, rfl⟩
  have HB := Lib.hid (bdrewN (Below.refl w.heap.size w) n)
  generalize w.drewN n = w1 at *
  go_wp2_with fail
  refine (H2 _).out.mono ?_
  rintro e w2 ⟨rfl, n, rfl⟩
  have HB2 := Lib.hid (bdrewN HB.out n)
  generalize w1.drewN n = w2 at *
  go_wp2_with fail
  go_ret2
  exact ⟨rfl, HB2.out⟩
end Go.Proofs.YtinillnccfgooaaDoor
