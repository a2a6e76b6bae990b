/-
  SizeOf, DepthOf, LoopCount and IsPlain of the program.
-/
import Derived.Test.YtpbbdhnnaagghaaRdP
import Derived.Test.YtpbbdhnnaagghaaDep
import Derived.Test.YtpbbdhnnaagghaaWin
import Derived.Test.YtpbbdhnnaagghaaFind
import Derived.Test.YtpbbdhnnaagghaaTas
import Derived.Test.YtpbbdhnnaagghaaPln
namespace Go.Proofs.Ytpbbdhnnaagghaa
open Go.RowKit

set_option maxHeartbeats 1000000 in
theorem implSize_yes (s : ByteArray) (w : World) {p : Pg} (hp : p.ok false) (hs : s.data.toList = p.ser) (hl : s.size ≤ 200) :
    Calls Try.prog 18 #[.string s] w (IntPost p.all.length w) := by
  have hsz : p.ser.length ≤ 1000 := by have := congrArg List.length hs; simp at this; omega
  have HC := fun w => Lib.hid (prog_yes s w hp hs hl)
  have HW := Lib.hid (win_any p hsz)
  clear hs
  go_enter Try.func18, Try.ntmps18
  go_wp2_with fail
  refine (HC _).out.mono ?_
  rintro e w1 ⟨T, u, rfl, hst, hb⟩
  have HB := Lib.hid hb
  have HST := Lib.hid hst
  clear hb hst
  go_wp2_with fail
  refine (HW.out w1 w.heap.size T u _ HST.out (Below.refl _ _)).mono ?_
  rintro e w2 ⟨sl, vs, rfl, hvs, hrow, hb⟩
  have hlen := hvs.len
  have HL := Lib.hid hlen
  obtain ⟨a, cap, rfl⟩ : ∃ a cap, sl = .slice a vs.length cap := by
    rcases hrow.cases with ⟨h1, h2⟩ | ⟨g, cap, h1, _⟩
    · rw [h2]; exact ⟨_, _, h1⟩
    · exact ⟨_, _, h1⟩
  clear hlen hvs hrow
  have HB2 := Lib.hid (bnext HB.out hb)
  clear hb
  go_wp2_with fail
  go_ret
  exact ⟨by rw [← HL.out]; rfl, HB2.out⟩
set_option maxHeartbeats 1000000 in
theorem implSize_no (s : ByteArray) (w : World) (h : ¬ (PValid false s.data.toList ∧ s.size ≤ 200)) :
    Calls Try.prog 18 #[.string s] w (IntPost (-1) w) := by
  have HC := fun w => Lib.hid (prog_no s w h)
  clear h
  go_enter Try.func18, Try.ntmps18
  go_wp2_with fail
  refine (HC _).out.mono ?_
  rintro e w1 ⟨rfl, hb⟩
  have HB := Lib.hid hb
  clear hb
  go_wp2_with fail
  go_ret
  exact ⟨rfl, HB.out⟩

set_option maxHeartbeats 1000000 in
theorem implDepth_yes (s : ByteArray) (w : World) {p : Pg} (hp : p.ok false) (hs : s.data.toList = p.ser) (hl : s.size ≤ 200) :
    Calls Try.prog 19 #[.string s] w (IntPost p.dep w) := by
  have hsz : p.ser.length ≤ 1000 := by have := congrArg List.length hs; simp at this; omega
  have HC := fun w => Lib.hid (prog_yes s w hp hs hl)
  have HW := Lib.hid (dep_any p hsz)
  clear hs
  go_enter Try.func19, Try.ntmps19
  go_wp2_with fail
  refine (HC _).out.mono ?_
  rintro e w1 ⟨T, u, rfl, hst, hb⟩
  have HB := Lib.hid hb
  have HST := Lib.hid hst
  clear hb hst
  go_wp2_with fail
  refine (HW.out w1 w.heap.size T u _ HST.out (Below.refl _ _)).mono ?_
  rintro e w2 ⟨rfl, hb⟩
  have HB2 := Lib.hid (bnext HB.out hb)
  clear hb
  go_wp2_with fail
  go_ret
  exact ⟨rfl, HB2.out⟩
set_option maxHeartbeats 1000000 in
theorem implDepth_no (s : ByteArray) (w : World) (h : ¬ (PValid false s.data.toList ∧ s.size ≤ 200)) :
    Calls Try.prog 19 #[.string s] w (IntPost (-1) w) := by
  have HC := fun w => Lib.hid (prog_no s w h)
  clear h
  go_enter Try.func19, Try.ntmps19
  go_wp2_with fail
  refine (HC _).out.mono ?_
  rintro e w1 ⟨rfl, hb⟩
  have HB := Lib.hid hb
  clear hb
  go_wp2_with fail
  go_ret
  exact ⟨rfl, HB.out⟩

/-- A row of statements, as the loops read it. -/
theorem stvs_at {w0 w : World} {B B' : Nat} {T : TypeId} {v : Value} {ps : List Pg} {vs : List Value} (hv : StVs w0 B ps vs) (h : Row w B' T v vs) : ∃ a cap, v = .slice a ps.length cap ∧ ∀ (m : Nat) (hm : m < ps.length), ∃ g T u, a = some ⟨g, 0, none⟩ ∧ B' ≤ g ∧ w.cell? ⟨g, m, none⟩ = some (.iface T (.agg u)) ∧ StV w0 B ps[m] (.iface T (.agg u)) := by
  have hl := hv.len
  rcases h.cases with ⟨h1, h2⟩ | ⟨g, cap, h1, hb, _, h3⟩
  · have : ps = [] := by
      rw [h2] at hl
      exact List.eq_nil_of_length_eq_zero hl.symm
    subst this
    exact ⟨_, _, h1, fun m hm => by simp at hm⟩
  · rw [hl] at h1
    refine ⟨_, _, h1, fun m hm => ?_⟩
    obtain ⟨T, u, h4, h5⟩ := StVs.at m hm hv
    exact ⟨g, T, u, rfl, hb, h3 m _ h4, h5⟩

theorem cntB_le (c : UInt8) (l : List UInt8) : cntB c l ≤ l.length := List.countP_le_length
theorem cntB_snoc (c d : UInt8) (l : List UInt8) : cntB c (l ++ [d]) = cntB c l + if d == c then 1 else 0 := by
  unfold cntB
  rw [List.countP_append]
  by_cases h : d == c <;> simp [h]

set_option maxRecDepth 100000 in
set_option maxHeartbeats 4000000 in
theorem implLoop_yes (s : ByteArray) (w : World) {p : Pg} (hp : p.ok false) (hs : s.data.toList = p.ser) (hl : s.size ≤ 200) :
    Calls Try.prog 20 #[.string s] w (IntPost (cntB 64 (p.all.map Pg.letter)) w) := by
  have hsz : p.ser.length ≤ 1000 := by have := congrArg List.length hs; simp at this; omega
  have HC := fun w => Lib.hid (prog_yes s w hp hs hl)
  have HW := Lib.hid (win_any p hsz)
  have hal : p.all.length ≤ 1000 := Nat.le_trans p.all_le hsz
  clear hs
  go_enter Try.func20, Try.ntmps20
  go_wp2_with fail
  refine (HC _).out.mono ?_
  rintro e w1 ⟨T, u, rfl, hst, hb⟩
  have HB := Lib.hid hb
  have HST := Lib.hid hst
  clear hb hst
  go_wp2_with fail
  refine (HW.out w1 w.heap.size T u _ HST.out (Below.refl _ _)).mono ?_
  rintro e w2 ⟨sl, vs, rfl, hvs, hrow, hb⟩
  obtain ⟨a, cap, rfl, hat⟩ := stvs_at hvs hrow
  have HA := Lib.hid hat
  have HB2 := Lib.hid (bnext HB.out hb)
  clear hb hat hrow hvs
  go_wp2_with fail
  generalize p.all = ps at *
  go_loopw [5, 20] (fun v5 v20 wr => ∃ m : Nat, m ≤ ps.length ∧ v20 = .int .i64 m ∧ v5 = .int .i64 (cntB 64 ((ps.take m).map Pg.letter) : Nat) ∧ Hid (Below w2.heap.size w2 wr)) (fun _ v20 _ => ps.length - (intOf v20).toNat)
  case atStart => exact ⟨0, Nat.zero_le _, rfl, rfl, Below.refl _ _⟩
  case round =>
    obtain ⟨m, hm, rfl, rfl, HB3⟩ := hrel
    have hcb : cntB 64 ((ps.take m).map Pg.letter) ≤ 1000 := Nat.le_trans (cntB_le _ _) (by simp; omega)
    by_cases hlt : m < ps.length
    · obtain ⟨g, T1, u1, rfl, _, hc, hst⟩ := HA.out m hlt
      have hc := ckeep HB3.out hc
      have hsn : cntB 64 ((ps.take (m + 1)).map Pg.letter) = cntB 64 ((ps.take m).map Pg.letter) + if ps[m].letter == 64 then 1 else 0 := by
        rw [List.take_succ_eq_append_getElem hlt, List.map_append]; exact cntB_snoc _ _ _
      have HSN := Lib.hid hsn
      have h0 : (0 : Int) ≤ (m : Int) := by omega
      have h1 : (m : Int) < (ps.length : Int) := by omega
      clear hsn
      generalize cntB 64 ((ps.take m).map Pg.letter) = A at *
      generalize ps[m] = q at *
      cases q with
      | skip  =>
        cases hst
        clear HA
        have a1 := tas_whl_skip
        go_wp2_with fail
        go_roundw
        case rel => exact ⟨m + 1, hlt, by go_num, by rw [HSN.out]; rfl, bput HB3.out _⟩
        case measure => simp [intOf]; omega
      | asg x y =>
        obtain ⟨va, vb, hst, h0⟩ := hst; cases hst; obtain ⟨pa, pn, pm, rfl, rfl⟩ := RepH.forms h0
        clear h0 HA
        have a1 := tas_whl_asg
        go_wp2_with fail
        go_roundw
        case rel => exact ⟨m + 1, hlt, by go_num, by rw [HSN.out]; rfl, bput HB3.out _⟩
        case measure => simp [intOf]; omega
      | seq a b =>
        obtain ⟨va, vb, hst, h1, h2⟩ := hst; cases hst; obtain ⟨T1, u1, rfl⟩ := h1.forms; obtain ⟨T2, u2, rfl⟩ := h2.forms
        clear HA
        have a1 := tas_whl_seq
        go_wp2_with fail
        go_roundw
        case rel => exact ⟨m + 1, hlt, by go_num, by rw [HSN.out]; rfl, bput HB3.out _⟩
        case measure => simp [intOf]; omega
      | ite t a b =>
        obtain ⟨vx, vy, va, vb, hst, h0, h1, h2⟩ := hst; cases hst; obtain ⟨pa, pn, pm, rfl, rfl⟩ := RepH.forms h0; obtain ⟨T1, u1, rfl⟩ := h1.forms; obtain ⟨T2, u2, rfl⟩ := h2.forms
        clear h0 HA
        have a1 := tas_whl_ite
        go_wp2_with fail
        go_roundw
        case rel => exact ⟨m + 1, hlt, by go_num, by rw [HSN.out]; rfl, bput HB3.out _⟩
        case measure => simp [intOf]; omega
      | whl t a =>
        obtain ⟨vx, vy, va, hst, h0, h1⟩ := hst; cases hst; obtain ⟨pa, pn, pm, rfl, rfl⟩ := RepH.forms h0; obtain ⟨T1, u1, rfl⟩ := h1.forms
        clear h0 HA
        have a1 := tas_whl_whl
        go_wp2_with fail
        go_roundw
        case rel => exact ⟨m + 1, hlt, by go_num, by rw [HSN.out]; exact (by go_num), bput HB3.out _⟩
        case measure => simp [intOf]; omega
      | cho a b =>
        obtain ⟨va, vb, hst, h1, h2⟩ := hst; cases hst; obtain ⟨T1, u1, rfl⟩ := h1.forms; obtain ⟨T2, u2, rfl⟩ := h2.forms
        clear HA
        have a1 := tas_whl_cho
        go_wp2_with fail
        go_roundw
        case rel => exact ⟨m + 1, hlt, by go_num, by rw [HSN.out]; rfl, bput HB3.out _⟩
        case measure => simp [intOf]; omega
      | asm t =>
        obtain ⟨vx, vy, hst, h0⟩ := hst; cases hst; obtain ⟨pa, pn, pm, rfl, rfl⟩ := RepH.forms h0
        clear h0 HA
        have a1 := tas_whl_asm
        go_wp2_with fail
        go_roundw
        case rel => exact ⟨m + 1, hlt, by go_num, by rw [HSN.out]; rfl, bput HB3.out _⟩
        case measure => simp [intOf]; omega
    · have hfin : Hid (cntB 64 ((ps.take m).map Pg.letter) = cntB 64 (ps.map Pg.letter)) := by
        show _ = _
        rw [List.take_of_length_le (by omega)]
      have h1 : ¬ (m : Int) < (ps.length : Int) := by omega
      generalize cntB 64 ((ps.take m).map Pg.letter) = A at *
      go_wp2_with fail
      go_ret
      exact ⟨by rw [← hfin.out]; rfl, bnext HB2.out HB3.out⟩
set_option maxHeartbeats 1000000 in
theorem implLoop_no (s : ByteArray) (w : World) (h : ¬ (PValid false s.data.toList ∧ s.size ≤ 200)) :
    Calls Try.prog 20 #[.string s] w (IntPost (-1) w) := by
  have HC := fun w => Lib.hid (prog_no s w h)
  clear h
  go_enter Try.func20, Try.ntmps20
  go_wp2_with fail
  refine (HC _).out.mono ?_
  rintro e w1 ⟨rfl, hb⟩
  have HB := Lib.hid hb
  clear hb
  go_wp2_with fail
  go_ret
  exact ⟨rfl, HB.out⟩

/-! ### IsPlain -/
theorem fnd_mem {l : List UInt8} {c : UInt8} : fnd l c < 0 ↔ c ∉ l := by
  unfold fnd
  cases h : l.findIdx? (· == c) with
  | none =>
    rw [List.findIdx?_eq_none_iff] at h
    simp
    intro hc; have := h c hc; simp at this
  | some i =>
    rw [List.findIdx?_eq_some_iff_getElem] at h
    obtain ⟨hi, h1, _⟩ := h
    simp at h1
    simp
    refine ⟨by omega, ?_⟩
    rw [← h1]; exact fun hn => absurd (List.getElem_mem hi) hn
def quietP (q : Pg) : Prop := q.letter ≠ 47 ∧ q.letter ≠ 126
theorem plainB_iff (p : Pg) : plainB p = true ↔ ∀ q ∈ p.all, quietP q := by
  unfold plainB quietP
  rw [Bool.and_eq_true, decide_eq_true_eq, decide_eq_true_eq, fnd_mem, fnd_mem]
  simp only [List.mem_map, not_exists, not_and]
  exact ⟨fun h q hq => ⟨h.1 q hq, h.2 q hq⟩, fun h => ⟨fun q hq => (h q hq).1, fun q hq => (h q hq).2⟩⟩

set_option maxRecDepth 100000 in
set_option maxHeartbeats 4000000 in
theorem implPlain_yes (s : ByteArray) (w : World) {p : Pg} (hp : p.ok false) (hs : s.data.toList = p.ser) (hl : s.size ≤ 200) :
    Calls Try.prog 25 #[.string s] w (BoolPost (plainB p) w) := by
  have hsz : p.ser.length ≤ 1000 := by have := congrArg List.length hs; simp at this; omega
  have HC := fun w => Lib.hid (prog_yes s w hp hs hl)
  have HW := Lib.hid (win_any p hsz)
  have hal : p.all.length ≤ 1000 := Nat.le_trans p.all_le hsz
  have HPI := Lib.hid (plainB_iff p)
  clear hs
  generalize hpb : plainB p = pb at *
  clear hpb
  go_enter Try.func25, Try.ntmps25
  go_wp2_with fail
  refine (HC _).out.mono ?_
  rintro e w1 ⟨T, u, rfl, hst, hb⟩
  have HB := Lib.hid hb
  have HST := Lib.hid hst
  clear hb hst
  go_wp2_with fail
  refine (HW.out w1 w.heap.size T u _ HST.out (Below.refl _ _)).mono ?_
  rintro e w2 ⟨sl, vs, rfl, hvs, hrow, hb⟩
  obtain ⟨a, cap, rfl, hat⟩ := stvs_at hvs hrow
  have HA := Lib.hid hat
  have HB2 := Lib.hid (bnext HB.out hb)
  clear hb hat hrow hvs
  go_wp2_with fail
  generalize p.all = ps at *
  go_loopw [17] (fun v17 wr => ∃ m : Nat, m ≤ ps.length ∧ v17 = .int .i64 m ∧ Hid (∀ q ∈ ps.take m, quietP q) ∧ Hid (Below w2.heap.size w2 wr)) (fun v17 _ => ps.length - (intOf v17).toNat)
  case atStart => exact ⟨0, Nat.zero_le _, rfl, fun q hq => by simp at hq, Below.refl _ _⟩
  case round =>
    obtain ⟨m, hm, rfl, HQ, HB3⟩ := hrel
    by_cases hlt : m < ps.length
    · obtain ⟨g, T1, u1, rfl, _, hc, hst⟩ := HA.out m hlt
      have hc := ckeep HB3.out hc
      have hmem := List.getElem_mem hlt
      have HSN : Hid (quietP ps[m] → ∀ q ∈ ps.take (m + 1), quietP q) := by
        intro hq q hq2
        rw [List.take_succ_eq_append_getElem hlt, List.mem_append] at hq2
        rcases hq2 with h | h
        · exact HQ.out q h
        · simp at h; subst h; exact hq
      have HNO : Hid (¬ quietP ps[m] → pb = false) := by
        intro hq
        cases pb
        · rfl
        · exact absurd (HPI.out.1 rfl _ hmem) hq
      have h0 : (0 : Int) ≤ (m : Int) := by omega
      have h1 : (m : Int) < (ps.length : Int) := by omega
      clear hmem HQ
      generalize ps[m] = q at *
      cases q with
      | skip  =>
        cases hst
        clear HA
        have a1 := tas_cho_skip
        have a2 := tas_asm_skip
        go_wp2_with fail
        go_roundw
        case rel => exact ⟨m + 1, hlt, by go_num, HSN.out (by simp [quietP, Pg.letter]), HB3⟩
        case measure => simp [intOf]; omega
      | asg x y =>
        obtain ⟨va, vb, hst, h0⟩ := hst; cases hst; obtain ⟨pa, pn, pm, rfl, rfl⟩ := RepH.forms h0
        clear h0 HA
        have a1 := tas_cho_asg
        have a2 := tas_asm_asg
        go_wp2_with fail
        go_roundw
        case rel => exact ⟨m + 1, hlt, by go_num, HSN.out (by simp [quietP, Pg.letter]), HB3⟩
        case measure => simp [intOf]; omega
      | seq a b =>
        obtain ⟨va, vb, hst, h1, h2⟩ := hst; cases hst; obtain ⟨T1, u1, rfl⟩ := h1.forms; obtain ⟨T2, u2, rfl⟩ := h2.forms
        clear HA
        have a1 := tas_cho_seq
        have a2 := tas_asm_seq
        go_wp2_with fail
        go_roundw
        case rel => exact ⟨m + 1, hlt, by go_num, HSN.out (by simp [quietP, Pg.letter]), HB3⟩
        case measure => simp [intOf]; omega
      | ite t a b =>
        obtain ⟨vx, vy, va, vb, hst, h0, h1, h2⟩ := hst; cases hst; obtain ⟨pa, pn, pm, rfl, rfl⟩ := RepH.forms h0; obtain ⟨T1, u1, rfl⟩ := h1.forms; obtain ⟨T2, u2, rfl⟩ := h2.forms
        clear h0 HA
        have a1 := tas_cho_ite
        have a2 := tas_asm_ite
        go_wp2_with fail
        go_roundw
        case rel => exact ⟨m + 1, hlt, by go_num, HSN.out (by simp [quietP, Pg.letter]), HB3⟩
        case measure => simp [intOf]; omega
      | whl t a =>
        obtain ⟨vx, vy, va, hst, h0, h1⟩ := hst; cases hst; obtain ⟨pa, pn, pm, rfl, rfl⟩ := RepH.forms h0; obtain ⟨T1, u1, rfl⟩ := h1.forms
        clear h0 HA
        have a1 := tas_cho_whl
        have a2 := tas_asm_whl
        go_wp2_with fail
        go_roundw
        case rel => exact ⟨m + 1, hlt, by go_num, HSN.out (by simp [quietP, Pg.letter]), HB3⟩
        case measure => simp [intOf]; omega
      | cho a b =>
        obtain ⟨va, vb, hst, h1, h2⟩ := hst; cases hst; obtain ⟨T1, u1, rfl⟩ := h1.forms; obtain ⟨T2, u2, rfl⟩ := h2.forms
        clear HA
        have a1 := tas_cho_cho
        have a2 := tas_asm_cho
        go_wp2_with fail
        go_ret
        exact ⟨by rw [HNO.out (by simp [quietP, Pg.letter])]; rfl, bnext HB2.out HB3.out⟩
      | asm t =>
        obtain ⟨vx, vy, hst, h0⟩ := hst; cases hst; obtain ⟨pa, pn, pm, rfl, rfl⟩ := RepH.forms h0
        clear h0 HA
        have a1 := tas_cho_asm
        have a2 := tas_asm_asm
        go_wp2_with fail
        go_ret
        exact ⟨by rw [HNO.out (by simp [quietP, Pg.letter])]; rfl, bnext HB2.out HB3.out⟩
    · have hfin : Hid (pb = true) := by
        refine HPI.out.2 fun q hq => HQ.out q ?_
        rw [List.take_of_length_le (by omega)]; exact hq
      have h1 : ¬ (m : Int) < (ps.length : Int) := by omega
      go_wp2_with fail
      go_ret
      exact ⟨by rw [hfin.out]; rfl, bnext HB2.out HB3.out⟩
set_option maxHeartbeats 1000000 in
theorem implPlain_no (s : ByteArray) (w : World) (h : ¬ (PValid false s.data.toList ∧ s.size ≤ 200)) :
    Calls Try.prog 25 #[.string s] w (BoolPost false w) := by
  have HC := fun w => Lib.hid (prog_no s w h)
  clear h
  go_enter Try.func25, Try.ntmps25
  go_wp2_with fail
  refine (HC _).out.mono ?_
  rintro e w1 ⟨rfl, hb⟩
  have HB := Lib.hid hb
  clear hb
  go_wp2_with fail
  go_ret
  exact ⟨rfl, HB.out⟩
end Go.Proofs.Ytpbbdhnnaagghaa
