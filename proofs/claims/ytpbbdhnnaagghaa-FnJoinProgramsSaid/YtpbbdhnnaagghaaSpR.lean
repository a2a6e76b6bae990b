/-
  SizeOf, DepthOf, HeadOf, LoopCount, IsPlain and JoinPrograms of the model.
-/
import Derived.Test.YtpbbdhnnaagghaaSpQ
import Derived.Test.YtpbbdhnnaagghaaPln
namespace Go.Proofs.Ytpbbdhnnaagghaa
open Go.RowKit Tm

theorem text_eq {s : ByteArray} {p : Pg} (h : s.data.toList = p.ser) : s = bs p.ser := by
  apply ByteArray.ext
  apply Array.ext'
  exact h.trans (bs_list _).symm


set_option maxHeartbeats 1000000 in
theorem specSize_yes (s : ByteArray) (w : World) {p : Pg} (hp : p.ok false) (hs : s.data.toList = p.ser) (hl : s.size ≤ 200) :
    Calls Try.prog 21 #[.string s] w (IntPost p.all.length w) := by
  have hsz : p.ser.length ≤ 1000 := by have := congrArg List.length hs; simp at this; omega
  obtain rfl := text_eq hs
  have HV := fun w => Lib.hid (specPV_yes (bs p.ser) w ⟨p, hp, hs⟩ hl)
  have HC := fun w => Lib.hid (size_of false _ p w (Nat.le_refl _) hsz hp)
  clear hs hl
  generalize bs p.ser = S at *
  go_enter Try.func21, Try.ntmps21
  go_wp2_with fail
  refine (HV _).out.mono ?_
  rintro e w1 ⟨rfl, n, rfl⟩
  go_wp2_with fail
  refine (HC _).out.mono ?_
  rintro e w2 ⟨rfl, hb⟩
  have HB := Lib.hid (bnext (bdrewN (Below.refl w.heap.size w) n) hb)
  clear hb
  go_wp2_with fail
  go_ret
  exact ⟨rfl, HB.out⟩
set_option maxHeartbeats 1000000 in
theorem specSize_no (s : ByteArray) (w : World) (h : ¬ (PValid false s.data.toList ∧ s.size ≤ 200)) :
    Calls Try.prog 21 #[.string s] w (IntPost (-1) w) := by
  have HV := fun w => Lib.hid (specPV_no s w h)
  clear h
  go_enter Try.func21, Try.ntmps21
  go_wp2_with fail
  refine (HV _).out.mono ?_
  rintro e w1 ⟨rfl, n, rfl⟩
  go_wp2_with fail
  go_ret
  exact ⟨rfl, bdrewN (Below.refl w.heap.size w) n⟩

set_option maxHeartbeats 1000000 in
theorem specDepth_yes (s : ByteArray) (w : World) {p : Pg} (hp : p.ok false) (hs : s.data.toList = p.ser) (hl : s.size ≤ 200) :
    Calls Try.prog 22 #[.string s] w (IntPost p.dep w) := by
  have hsz : p.ser.length ≤ 1000 := by have := congrArg List.length hs; simp at this; omega
  obtain rfl := text_eq hs
  have HV := fun w => Lib.hid (specPV_yes (bs p.ser) w ⟨p, hp, hs⟩ hl)
  have HC := fun w => Lib.hid (depth_of _ p w (Nat.le_refl _) hsz hp)
  clear hs hl
  generalize bs p.ser = S at *
  go_enter Try.func22, Try.ntmps22
  go_wp2_with fail
  refine (HV _).out.mono ?_
  rintro e w1 ⟨rfl, n, rfl⟩
  go_wp2_with fail
  refine (HC _).out.mono ?_
  rintro e w2 ⟨rfl, hb⟩
  have HB := Lib.hid (bnext (bdrewN (Below.refl w.heap.size w) n) hb)
  clear hb
  go_wp2_with fail
  go_ret
  exact ⟨rfl, HB.out⟩
set_option maxHeartbeats 1000000 in
theorem specDepth_no (s : ByteArray) (w : World) (h : ¬ (PValid false s.data.toList ∧ s.size ≤ 200)) :
    Calls Try.prog 22 #[.string s] w (IntPost (-1) w) := by
  have HV := fun w => Lib.hid (specPV_no s w h)
  clear h
  go_enter Try.func22, Try.ntmps22
  go_wp2_with fail
  refine (HV _).out.mono ?_
  rintro e w1 ⟨rfl, n, rfl⟩
  go_wp2_with fail
  go_ret
  exact ⟨rfl, bdrewN (Below.refl w.heap.size w) n⟩

set_option maxHeartbeats 1000000 in
theorem specHead_yes (s : ByteArray) (w : World) {p : Pg} (hp : p.ok false) (hs : s.data.toList = p.ser) (hl : s.size ≤ 200) :
    Calls Try.prog 14 #[.string s] w fun e w' => e = .returned (.string (bs p.hd)) ∧ Below w.heap.size w w' := by
  have HV := fun w => Lib.hid (specPV_yes s w ⟨p, hp, hs⟩ hl)
  have HC := fun w => Lib.hid (lh_any false p hp s hs (by omega) w)
  have hsz : s.size = 1 + p.hd.length + (p.pks.flatMap Pg.ser).length := by
    have := congrArg List.length hs
    rw [p.ser_eq, List.length_cons, List.length_append] at this
    have e : s.data.toList.length = s.size := by simp
    omega
  have hx1 : Hid (s.extract 1 (1 + p.hd.length) = bs p.hd) := extract_bs (r := p.pks.flatMap Pg.ser) (by rw [hs, p.ser_eq]; rfl) rfl (by omega)
  have hl1 : (1 : Int) ≤ 1 + (p.hd.length : Int) := by omega
  have hl2 : 1 + (p.hd.length : Int) ≤ (s.size : Int) := by omega
  clear hs hsz
  go_enter Try.func14, Try.ntmps14
  go_wp2_with fail
  refine (HV _).out.mono ?_
  rintro e w1 ⟨rfl, n, rfl⟩
  go_wp2_with fail
  refine (HC _).out.mono ?_
  rintro e w2 ⟨rfl, n2, rfl⟩
  go_wp2_with fail
  go_ret
  exact ⟨by rw [← hx1.out]; rfl, bdrewN (Below.refl w.heap.size w) (n + n2)⟩
set_option maxHeartbeats 1000000 in
theorem specHead_no (s : ByteArray) (w : World) (h : ¬ (PValid false s.data.toList ∧ s.size ≤ 200)) :
    Calls Try.prog 14 #[.string s] w fun e w' => e = .returned (.string (bs [])) ∧ Below w.heap.size w w' := by
  have HV := fun w => Lib.hid (specPV_no s w h)
  clear h
  go_enter Try.func14, Try.ntmps14
  go_wp2_with fail
  refine (HV _).out.mono ?_
  rintro e w1 ⟨rfl, n, rfl⟩
  go_wp2_with fail
  go_ret
  exact ⟨rfl, bdrewN (Below.refl w.heap.size w) n⟩

/-! ### Counts of letters -/
set_option maxHeartbeats 2000000 in
theorem specLoop_yes (s : ByteArray) (w : World) {p : Pg} (hp : p.ok false) (hs : s.data.toList = p.ser) (hl : s.size ≤ 200) :
    Calls Try.prog 23 #[.string s] w (IntPost (cntB 64 (p.all.map Pg.letter)) w) := by
  have hsz : p.ser.length ≤ 1000 := by have := congrArg List.length hs; simp at this; omega
  obtain rfl := text_eq hs
  have HV := fun w => Lib.hid (specPV_yes (bs p.ser) w ⟨p, hp, hs⟩ hl)
  have HC := fun w => Lib.hid (heads_of false _ p w (Nat.le_refl _) hsz hp)
  have hz : (bs (p.all.map Pg.letter)).size ≤ 1000 := by rw [bs_size, List.length_map]; exact Nat.le_trans p.all_le hsz
  have hbl := bs_list (p.all.map Pg.letter)
  unfold HeadsPost at HC
  clear hs hl
  generalize bs p.ser = S at *
  generalize bs (p.all.map Pg.letter) = K at *
  generalize p.all.map Pg.letter = ls at *
  subst hbl
  go_enter Try.func23, Try.ntmps23
  go_wp2_with fail
  refine (HV _).out.mono ?_
  rintro e w1 ⟨rfl, n, rfl⟩
  go_wp2_with fail
  refine (HC _).out.mono ?_
  rintro e w2 ⟨sl, rfl, hrow, hb⟩
  have HB := Lib.hid (bnext (bdrewN (Below.refl w.heap.size w) n) hb)
  clear hb hrow
  go_wp2_with fail
  go_loop [3, 6] (fun v3 v6 => ∃ m : Nat, m ≤ K.size ∧ v6 = .int .i64 m ∧ v3 = .int .i64 (cntB 64 (K.data.toList.take m) : Nat)) (fun _ v6 => K.size - (intOf v6).toNat)
  case atStart => exact ⟨0, Nat.zero_le _, rfl, rfl⟩
  case round =>
    obtain ⟨m, hm, rfl, rfl⟩ := hrel
    have hcb : cntB 64 (K.data.toList.take m) ≤ 1000 := by
      unfold cntB
      have := List.countP_le_length (p := (· == (64 : UInt8))) (l := K.data.toList.take m)
      simp at this; omega
    by_cases hlt : m < K.size
    · have hts : K.data.toList.take (m + 1) = K.data.toList.take m ++ [K[m]] := by
        rw [List.take_succ_eq_append_getElem (by simpa using hlt)]; rfl
      by_cases hc : K[m] = 64
      · have HC1 : Hid (cntB 64 (K.data.toList.take (m + 1)) = cntB 64 (K.data.toList.take m) + 1) := by
          show _ = _
          rw [hts, hc]; simp [cntB]
        have ht : ((K[m].toNat : Int) == 64) = true := by rw [hc]; rfl
        clear hc hts
        generalize cntB 64 (K.data.toList.take m) = A at *
        go_wp2_with fail
        go_round
        case rel => exact ⟨m + 1, by omega, by go_num, by rw [HC1.out]; go_num⟩
        case measure => simp [intOf]; omega
      · have HC1 : Hid (cntB 64 (K.data.toList.take (m + 1)) = cntB 64 (K.data.toList.take m)) := by
          show _ = _
          rw [hts]; simp [cntB, hc]
        have ht : ((K[m].toNat : Int) == 64) = false := by
          rw [beq_eq_false_iff_ne]; intro e; exact hc (UInt8.toNat_inj.1 (show K[m].toNat = 64 by omega))
        clear hc hts
        generalize cntB 64 (K.data.toList.take m) = A at *
        go_wp2_with fail
        go_round
        case rel => exact ⟨m + 1, by omega, by go_num, by rw [HC1.out]⟩
        case measure => simp [intOf]; omega
    · have hfin : Hid (cntB 64 (K.data.toList.take m) = cntB 64 K.data.toList) := by
        show _ = _
        rw [List.take_of_length_le (by simp; omega)]
      generalize cntB 64 (K.data.toList.take m) = A at *
      go_wp2_with fail
      go_ret
      exact ⟨by rw [← hfin.out]; rfl, HB.out⟩
set_option maxHeartbeats 1000000 in
theorem specLoop_no (s : ByteArray) (w : World) (h : ¬ (PValid false s.data.toList ∧ s.size ≤ 200)) :
    Calls Try.prog 23 #[.string s] w (IntPost (-1) w) := by
  have HV := fun w => Lib.hid (specPV_no s w h)
  clear h
  go_enter Try.func23, Try.ntmps23
  go_wp2_with fail
  refine (HV _).out.mono ?_
  rintro e w1 ⟨rfl, n, rfl⟩
  go_wp2_with fail
  go_ret
  exact ⟨rfl, bdrewN (Below.refl w.heap.size w) n⟩

/-! ### IsPlain -/

set_option maxHeartbeats 2000000 in
theorem l3Plain_any (wide : Bool) (p : Pg) (w : World) (hn : p.ser.length ≤ 1000) (hp : p.ok wide) : Calls Try.prog 54 #[.string (bs p.ser), .bool wide] w (BoolPost (plainB p) w) := by
  have HC := fun w => Lib.hid (heads_of wide _ p w (Nat.le_refl _) hn hp)
  have hz : (bs (p.all.map Pg.letter)).size ≤ maxLen := by rw [bs_size, List.length_map]; have := p.all_le; unfold maxLen; omega
  have hf : ∀ c w, Calls Try.prog 71 #[.string (bs (p.all.map Pg.letter)), .int .u8 c.toNat] w fun e w' => e = .returned (.int .i64 (fnd (p.all.map Pg.letter) c)) ∧ w = w' := fun c w => by
    have := find_any (bs (p.all.map Pg.letter)) c w hz
    rw [bs_list] at this
    exact this
  have HF1 := fun w => Lib.hid (hf 47 w)
  have HF2 := fun w => Lib.hid (hf 126 w)
  unfold HeadsPost at HC
  clear hf hz
  unfold plainB
  generalize bs p.ser = S at *
  generalize bs (p.all.map Pg.letter) = K at *
  generalize fnd (p.all.map Pg.letter) 47 = F1 at *
  generalize fnd (p.all.map Pg.letter) 126 = F2 at *
  by_cases h1 : F1 < 0
  · have HR : Hid (Ending.returned (.bool (decide (F2 < 0))) = .returned (.bool (decide (F1 < 0) && decide (F2 < 0)))) := by show _ = _; simp [h1]
    go_enter Try.func54, Try.ntmps54
    go_wp2_with fail
    refine (HC _).out.mono ?_
    rintro e w2 ⟨sl, rfl, hrow, hb⟩
    have HB := Lib.hid hb
    clear hb hrow
    go_wp2_with fail
    refine (HF1 _).out.mono ?_
    rintro e w3 ⟨rfl, rfl⟩
    go_wp2_with fail
    refine (HF2 _).out.mono ?_
    rintro e w3 ⟨rfl, rfl⟩
    go_wp2_with fail
    go_ret
    exact ⟨HR.out, HB.out⟩
  · have HR : Hid (Ending.returned (.bool false) = .returned (.bool (decide (F1 < 0) && decide (F2 < 0)))) := by show _ = _; simp [h1]
    go_enter Try.func54, Try.ntmps54
    go_wp2_with fail
    refine (HC _).out.mono ?_
    rintro e w2 ⟨sl, rfl, hrow, hb⟩
    have HB := Lib.hid hb
    clear hb hrow
    go_wp2_with fail
    refine (HF1 _).out.mono ?_
    rintro e w3 ⟨rfl, rfl⟩
    go_wp2_with fail
    go_ret
    exact ⟨HR.out, HB.out⟩

set_option maxHeartbeats 1000000 in
theorem specPlain_yes (s : ByteArray) (w : World) {p : Pg} (hp : p.ok false) (hs : s.data.toList = p.ser) (hl : s.size ≤ 200) :
    Calls Try.prog 26 #[.string s] w (BoolPost (plainB p) w) := by
  have hsz : p.ser.length ≤ 1000 := by have := congrArg List.length hs; simp at this; omega
  obtain rfl := text_eq hs
  have HV := fun w => Lib.hid (specPV_yes (bs p.ser) w ⟨p, hp, hs⟩ hl)
  have HC := fun w => Lib.hid (l3Plain_any false p w hsz hp)
  clear hs hl
  generalize bs p.ser = S at *
  generalize plainB p = b at *
  go_enter Try.func26, Try.ntmps26
  go_wp2_with fail
  refine (HV _).out.mono ?_
  rintro e w1 ⟨rfl, n, rfl⟩
  go_wp2_with fail
  refine (HC _).out.mono ?_
  rintro e w2 ⟨rfl, hb⟩
  have HB := Lib.hid (bnext (bdrewN (Below.refl w.heap.size w) n) hb)
  clear hb
  go_wp2_with fail
  go_ret
  exact ⟨rfl, HB.out⟩
set_option maxHeartbeats 1000000 in
theorem specPlain_no (s : ByteArray) (w : World) (h : ¬ (PValid false s.data.toList ∧ s.size ≤ 200)) :
    Calls Try.prog 26 #[.string s] w (BoolPost false w) := by
  have HV := fun w => Lib.hid (specPV_no s w h)
  clear h
  go_enter Try.func26, Try.ntmps26
  go_wp2_with fail
  refine (HV _).out.mono ?_
  rintro e w1 ⟨rfl, n, rfl⟩
  go_wp2_with fail
  go_ret
  exact ⟨rfl, bdrewN (Below.refl w.heap.size w) n⟩

/-! ### JoinPrograms -/
set_option maxRecDepth 100000 in
set_option maxHeartbeats 1000000 in
theorem specJoin_yes (p q : ByteArray) (w : World) (h1 : IsP p) (h2 : IsP q) (h3 : p.size + q.size < 200) :
    Calls Try.prog 29 #[.string p, .string q] w fun e w' => e = .returned (.tuple #[.string (⟨#[59]⟩ ++ p ++ q), .bool true]) ∧ Below w.heap.size w w' := by
  have HC1 := fun w => Lib.hid (specPV_yes p w h1.1 h1.2)
  have HC2 := fun w => Lib.hid (specPV_yes q w h2.1 h2.2)
  have f0 : ¬ (9223372036854775807 < 1 + p.size) := by omega
  have f1 : ¬ (9223372036854775807 < 1 + p.size + q.size) := by omega
  have f2 : ¬ ((200 : Int) ≤ (p.size : Int) + (q.size : Int)) := by omega
  clear h1 h2
  go_enter Try.func29, Try.ntmps29
  go_wp2_with fail
  refine (HC1 _).out.mono ?_
  rintro e w1 ⟨rfl, n, rfl⟩
  go_wp2_with fail
  refine (HC2 _).out.mono ?_
  rintro e w2 ⟨rfl, n2, rfl⟩
  go_wp2_with fail
  go_ret2
  exact ⟨rfl, bdrewN (Below.refl w.heap.size w) (n + n2)⟩
set_option maxRecDepth 100000 in
set_option maxHeartbeats 1000000 in
theorem specJoin_no (p q : ByteArray) (w : World) (hp : p.size ≤ 1048576) (hq : q.size ≤ 1048576) (h : ¬ (IsP p ∧ IsP q ∧ p.size + q.size < 200)) :
    Calls Try.prog 29 #[.string p, .string q] w fun e w' => e = .returned (.tuple #[.string ⟨#[]⟩, .bool false]) ∧ Below w.heap.size w w' := by
  by_cases h1 : IsP p
  · have HC1 := fun w => Lib.hid (specPV_yes p w h1.1 h1.2)
    by_cases h2 : IsP q
    · have HC2 := fun w => Lib.hid (specPV_yes q w h2.1 h2.2)
      have hz : ¬ (p.size + q.size < 200) := fun h3 => h ⟨h1, h2, h3⟩
      have f2 : (200 : Int) ≤ (p.size : Int) + (q.size : Int) := by omega
      clear h h1 h2
      go_enter Try.func29, Try.ntmps29
      go_wp2_with fail
      refine (HC1 _).out.mono ?_
      rintro e w1 ⟨rfl, n, rfl⟩
      go_wp2_with fail
      refine (HC2 _).out.mono ?_
      rintro e w2 ⟨rfl, n2, rfl⟩
      go_wp2_with fail
      go_ret2
      exact ⟨rfl, bdrewN (Below.refl w.heap.size w) (n + n2)⟩
    · have HC2 := fun w => Lib.hid (specPV_no q w h2)
      clear h h1 h2
      go_enter Try.func29, Try.ntmps29
      go_wp2_with fail
      refine (HC1 _).out.mono ?_
      rintro e w1 ⟨rfl, n, rfl⟩
      go_wp2_with fail
      refine (HC2 _).out.mono ?_
      rintro e w2 ⟨rfl, n2, rfl⟩
      go_wp2_with fail
      go_ret2
      exact ⟨rfl, bdrewN (Below.refl w.heap.size w) (n + n2)⟩
  · have HC1 := fun w => Lib.hid (specPV_no p w h1)
    clear h h1
    go_enter Try.func29, Try.ntmps29
    go_wp2_with fail
    refine (HC1 _).out.mono ?_
    rintro e w1 ⟨rfl, n, rfl⟩
    go_wp2_with fail
    go_ret2
    exact ⟨rfl, bdrewN (Below.refl w.heap.size w) n⟩
end Go.Proofs.Ytpbbdhnnaagghaa
