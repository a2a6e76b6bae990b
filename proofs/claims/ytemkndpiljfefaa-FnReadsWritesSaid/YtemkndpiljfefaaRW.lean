/-
  ReadsOf and WritesOf of the program.
-/
import Derived.Test.YtemkndpiljfefaaRdP
import Derived.Test.YtemkndpiljfefaaWin
import Derived.Test.YtemkndpiljfefaaTas
import Derived.Test.YtemkndpiljfefaaVIn
import Derived.Test.YtemkndpiljfefaaPgR
namespace Go.Proofs.Ytemkndpiljfefaa
open Go.RowKit

theorem bs_app_nil (A : ByteArray) : A ++ bs [] = A := by apply ByteArray.ext; simp [bs]
/-- A row of statements, as the loops read it. -/
theorem stvs_at {w0 w : World} {B B' : Nat} {T : TypeId} {v : Value} {ps : List Pg} {vs : List Value} (hv : StVs w0 B ps vs) (h : Row w B' T v vs) : ∃ a cap, v = .slice a ps.length cap ∧ ∀ (m : Nat) (hm : m < ps.length), ∃ g T u, a = some ⟨g, 0, none⟩ ∧ B' ≤ g ∧ w.cell? ⟨g, m, none⟩ = some (.iface T (.agg u)) ∧ StV w0 B ps[m] (.iface T (.agg u)) := by
  have hl := hv.len
  rcases h.cases with ⟨h1, h2⟩ | ⟨g, cap, h1, hb, _, h3⟩
  · have : ps = [] := by
      rw [h2] at hl
      exact List.eq_nil_of_length_eq_zero hl.symm
    subst this
    exact ⟨_, _, h1, fun m hm => by simp at hm⟩
  · rw [hl] at h1
    refine ⟨_, _, h1, fun m hm => ?_⟩
    obtain ⟨T, u, h4, h5⟩ := StVs.at m hm hv
    exact ⟨g, T, u, rfl, hb, h3 m _ h4, h5⟩

set_option maxRecDepth 100000 in
set_option maxHeartbeats 8000000 in
theorem implRds_yes (s : ByteArray) (w : World) {p : Pg} (hp : p.ok false) (hs : s.data.toList = p.ser) (hl : s.size ≤ 200) :
    Calls Try.prog 15 #[.string s] w (TextPost (bs (vlist [120, 121, 122] (p.all.flatMap (Pg.rwq false)))) w) := by
  have hsz : p.ser.length ≤ 1000 := by have := congrArg List.length hs; simp at this; omega
  have HC := fun w => Lib.hid (prog_yes s w hp hs hl)
  have HW := Lib.hid (win_any p hsz)
  have hrl := p.rw_le false
  have HOK : Hid (∀ q ∈ p.all, q.ok false ∧ q.ser.length ≤ 1000) := fun q hq => by
    obtain ⟨h1, h2⟩ := Pg.all_ok hp hq
    exact ⟨h1, by omega⟩
  clear hs hp
  go_enter Try.func15, Try.ntmps15
  go_wp2_with fail
  refine (HC _).out.mono ?_
  rintro e w1 ⟨T, u, rfl, hst, hb⟩
  have HB := Lib.hid hb
  have HST := Lib.hid hst
  clear hb hst
  go_wp2_with fail
  refine (HW.out w1 w.heap.size T u _ HST.out (Below.refl _ _)).mono ?_
  rintro e w2 ⟨sl, vs, rfl, hvs, hrow, hb⟩
  obtain ⟨a, cap, rfl, hat⟩ := stvs_at hvs hrow
  have hal : p.all.length ≤ 1000 := Nat.le_trans p.all_le hsz
  have HA := Lib.hid hat
  have HB2 := Lib.hid (bnext HB.out hb)
  have HB1 := Lib.hid hb
  clear hb hat hrow hvs
  go_wp2_with fail
  generalize p.all = ps at *
  go_loopw [5, 20] (fun v5 v20 wr => ∃ m : Nat, m ≤ ps.length ∧ v20 = .int .i64 m ∧ v5 = .string (bs ((ps.take m).flatMap (Pg.rwq false))) ∧ Hid (Below w2.heap.size w2 wr)) (fun _ v20 _ => ps.length - (intOf v20).toNat)
  case atStart => exact ⟨0, Nat.zero_le _, rfl, rfl, Below.refl _ _⟩
  case round =>
    obtain ⟨m, hm, rfl, rfl, HB3⟩ := hrel
    have hft := flat_take (f := Pg.rwq false) (ps := ps) m
    have hsa : (bs ((ps.take m).flatMap (Pg.rwq false))).size ≤ 1000 := by rw [bs_size]; omega
    by_cases hlt : m < ps.length
    · obtain ⟨g, T1, u1, rfl, _, hc, hst⟩ := HA.out m hlt
      have hc := ckeep HB3.out hc
      have HSN : Hid (∀ r, r = bs (Pg.rwq false ps[m]) → bs ((ps.take m).flatMap (Pg.rwq false)) ++ r = bs ((ps.take (m + 1)).flatMap (Pg.rwq false))) := fun r hr => by rw [hr, bs_append, flat_step hlt]
      obtain ⟨hqok, hqn⟩ := HOK.out _ (List.getElem_mem hlt)
      have h0 : (0 : Int) ≤ (m : Int) := by omega
      have h1 : (m : Int) < (ps.length : Int) := by omega
      have HBX := Lib.hid (bnext HB1.out HB3.out)
      clear hft
      generalize bs ((ps.take m).flatMap (Pg.rwq false)) = A at *
      generalize ps[m] = q at *
      obtain ⟨f, rc, hmt, hcf, hcall⟩ := inv_head hqok hqn hst
      have HCL := Lib.hid hcall
      clear hcall
      cases q with
      | skip  =>
        cases hst
        have e1 : (bs (Pg.skip).hd).size ≤ 1000 := by rw [bs_size]; have := (Pg.skip).ser_eq; have := congrArg List.length this; simp only [List.length_cons, List.length_append] at this; omega
        have HF := Lib.hid (HSN.out (bs (Pg.skip).hd) rfl)
        clear HSN hqok 
        generalize bs (Pg.skip).hd = R at *
        have f0 : ¬ (9223372036854775807 < A.size + R.size) := by omega
        have a1 := tas_asg_skip
        go_wp2_with fail
        refine (HCL.out _ (bput HBX.out _)).mono ?_
        rintro e w3 ⟨rfl, hb⟩
        have HB4 := Lib.hid (bnext (bput HB3.out _) hb)
        clear hb hc
        go_wp2_with fail
        go_roundw
        case rel => exact ⟨m + 1, hlt, by go_num, by rw [HF.out], HB4⟩
        case measure => simp [intOf]; omega
      | asg x y =>
        obtain ⟨va, vb, hst, h0⟩ := hst; cases hst; obtain ⟨pa, pn, pm, rfl, rfl⟩ := RepH.forms h0
        clear hmt hcf HCL
        have hyl : y.ser.length ≤ 1000 := by simp [Pg.ser] at hqn; omega
        have HTX : Hid (∀ w', Below w1.heap.size w1 w' → Calls Try.prog 35 #[.agg #[.int .u8 y.head.toNat, .slice pa pn pm]] w' (TextPost (bs y.ser) w')) := fun w' hb' => text_tm y false _ w' _ _ _ _ hyl hqok.2 (h0.below hb')
        have e1 : (bs y.ser).size ≤ 1000 := by rw [bs_size]; exact hyl
        have HF := Lib.hid (HSN.out (bs y.ser) rfl)
        clear h0 HSN hqok
        generalize bs y.ser = R at *
        have f0 : ¬ (9223372036854775807 < A.size + R.size) := by omega
        have a1 := tas_asg_asg
        go_wp2_with fail
        refine (HTX.out _ (bput HBX.out _)).mono ?_
        rintro e w3 ⟨rfl, hb⟩
        have HB4 := Lib.hid (bnext (bput HB3.out _) hb)
        clear hb hc
        go_wp2_with fail
        go_roundw
        case rel => exact ⟨m + 1, hlt, by go_num, by rw [HF.out], HB4⟩
        case measure => simp [intOf]; omega
      | seq a b =>
        obtain ⟨va, vb, hst, h1, h2⟩ := hst; cases hst; obtain ⟨T1, u1, rfl⟩ := h1.forms; obtain ⟨T2, u2, rfl⟩ := h2.forms
        have e1 : (bs (Pg.seq a b).hd).size ≤ 1000 := by rw [bs_size]; have := (Pg.seq a b).ser_eq; have := congrArg List.length this; simp only [List.length_cons, List.length_append] at this; omega
        have HF := Lib.hid (HSN.out (bs (Pg.seq a b).hd) rfl)
        clear HSN hqok 
        generalize bs (Pg.seq a b).hd = R at *
        have f0 : ¬ (9223372036854775807 < A.size + R.size) := by omega
        have a1 := tas_asg_seq
        go_wp2_with fail
        refine (HCL.out _ (bput HBX.out _)).mono ?_
        rintro e w3 ⟨rfl, hb⟩
        have HB4 := Lib.hid (bnext (bput HB3.out _) hb)
        clear hb hc
        go_wp2_with fail
        go_roundw
        case rel => exact ⟨m + 1, hlt, by go_num, by rw [HF.out], HB4⟩
        case measure => simp [intOf]; omega
      | ite t a b =>
        obtain ⟨vx, vy, va, vb, hst, h0, h1, h2⟩ := hst; cases hst; obtain ⟨pa, pn, pm, rfl, rfl⟩ := RepH.forms h0; obtain ⟨T1, u1, rfl⟩ := h1.forms; obtain ⟨T2, u2, rfl⟩ := h2.forms
        have e1 : (bs (Pg.ite t a b).hd).size ≤ 1000 := by rw [bs_size]; have := (Pg.ite t a b).ser_eq; have := congrArg List.length this; simp only [List.length_cons, List.length_append] at this; omega
        have HF := Lib.hid (HSN.out (bs (Pg.ite t a b).hd) rfl)
        clear HSN hqok h0
        generalize bs (Pg.ite t a b).hd = R at *
        have f0 : ¬ (9223372036854775807 < A.size + R.size) := by omega
        have a1 := tas_asg_ite
        go_wp2_with fail
        refine (HCL.out _ (bput HBX.out _)).mono ?_
        rintro e w3 ⟨rfl, hb⟩
        have HB4 := Lib.hid (bnext (bput HB3.out _) hb)
        clear hb hc
        go_wp2_with fail
        go_roundw
        case rel => exact ⟨m + 1, hlt, by go_num, by rw [HF.out], HB4⟩
        case measure => simp [intOf]; omega
      | whl t a =>
        obtain ⟨vx, vy, va, hst, h0, h1⟩ := hst; cases hst; obtain ⟨pa, pn, pm, rfl, rfl⟩ := RepH.forms h0; obtain ⟨T1, u1, rfl⟩ := h1.forms
        have e1 : (bs (Pg.whl t a).hd).size ≤ 1000 := by rw [bs_size]; have := (Pg.whl t a).ser_eq; have := congrArg List.length this; simp only [List.length_cons, List.length_append] at this; omega
        have HF := Lib.hid (HSN.out (bs (Pg.whl t a).hd) rfl)
        clear HSN hqok h0
        generalize bs (Pg.whl t a).hd = R at *
        have f0 : ¬ (9223372036854775807 < A.size + R.size) := by omega
        have a1 := tas_asg_whl
        go_wp2_with fail
        refine (HCL.out _ (bput HBX.out _)).mono ?_
        rintro e w3 ⟨rfl, hb⟩
        have HB4 := Lib.hid (bnext (bput HB3.out _) hb)
        clear hb hc
        go_wp2_with fail
        go_roundw
        case rel => exact ⟨m + 1, hlt, by go_num, by rw [HF.out], HB4⟩
        case measure => simp [intOf]; omega
      | cho a b =>
        obtain ⟨va, vb, hst, h1, h2⟩ := hst; cases hst; obtain ⟨T1, u1, rfl⟩ := h1.forms; obtain ⟨T2, u2, rfl⟩ := h2.forms
        have e1 : (bs (Pg.cho a b).hd).size ≤ 1000 := by rw [bs_size]; have := (Pg.cho a b).ser_eq; have := congrArg List.length this; simp only [List.length_cons, List.length_append] at this; omega
        have HF := Lib.hid (HSN.out (bs (Pg.cho a b).hd) rfl)
        clear HSN hqok 
        generalize bs (Pg.cho a b).hd = R at *
        have f0 : ¬ (9223372036854775807 < A.size + R.size) := by omega
        have a1 := tas_asg_cho
        go_wp2_with fail
        refine (HCL.out _ (bput HBX.out _)).mono ?_
        rintro e w3 ⟨rfl, hb⟩
        have HB4 := Lib.hid (bnext (bput HB3.out _) hb)
        clear hb hc
        go_wp2_with fail
        go_roundw
        case rel => exact ⟨m + 1, hlt, by go_num, by rw [HF.out], HB4⟩
        case measure => simp [intOf]; omega
      | asm t =>
        obtain ⟨vx, vy, hst, h0⟩ := hst; cases hst; obtain ⟨pa, pn, pm, rfl, rfl⟩ := RepH.forms h0
        have e1 : (bs (Pg.asm t).hd).size ≤ 1000 := by rw [bs_size]; have := (Pg.asm t).ser_eq; have := congrArg List.length this; simp only [List.length_cons, List.length_append] at this; omega
        have HF := Lib.hid (HSN.out (bs (Pg.asm t).hd) rfl)
        clear HSN hqok h0
        generalize bs (Pg.asm t).hd = R at *
        have f0 : ¬ (9223372036854775807 < A.size + R.size) := by omega
        have a1 := tas_asg_asm
        go_wp2_with fail
        refine (HCL.out _ (bput HBX.out _)).mono ?_
        rintro e w3 ⟨rfl, hb⟩
        have HB4 := Lib.hid (bnext (bput HB3.out _) hb)
        clear hb hc
        go_wp2_with fail
        go_roundw
        case rel => exact ⟨m + 1, hlt, by go_num, by rw [HF.out], HB4⟩
        case measure => simp [intOf]; omega
    · have hfin : Hid (bs ((ps.take m).flatMap (Pg.rwq false)) = bs (ps.flatMap (Pg.rwq false))) := by
        show _ = _
        rw [List.take_of_length_le (by omega)]
      have h1 : ¬ (m : Int) < (ps.length : Int) := by omega
      have HVI := fun w => Lib.hid (vIn_any (bs ((ps.take m).flatMap (Pg.rwq false))) w)
      have hli : (bs ((ps.take m).flatMap (Pg.rwq false))).data.toList = ps.flatMap (Pg.rwq false) := by rw [hfin.out]; simp [bs]
      rw [hli] at HVI
      clear hli hfin hft
      generalize bs ((ps.take m).flatMap (Pg.rwq false)) = A at *
      generalize bs (vlist [120, 121, 122] (ps.flatMap (Pg.rwq false))) = R at *
      go_wp2_with fail
      refine (HVI _).out.mono ?_
      rintro e w3 ⟨rfl, hb⟩
      have HB4 := Lib.hid (bnext (bnext HB2.out HB3.out) hb)
      clear hb
      go_wp2_with fail
      go_ret
      exact ⟨rfl, HB4.out⟩
set_option maxHeartbeats 1000000 in
theorem implRds_no (s : ByteArray) (w : World) (h : ¬ (PValid false s.data.toList ∧ s.size ≤ 200)) :
    Calls Try.prog 15 #[.string s] w (TextPost (bs []) w) := by
  have HC := fun w => Lib.hid (prog_no s w h)
  clear h
  go_enter Try.func15, Try.ntmps15
  go_wp2_with fail
  refine (HC _).out.mono ?_
  rintro e w1 ⟨rfl, hb⟩
  have HB := Lib.hid hb
  clear hb
  go_wp2_with fail
  go_ret
  exact ⟨rfl, HB.out⟩

set_option maxRecDepth 100000 in
set_option maxHeartbeats 8000000 in
theorem implWrs_yes (s : ByteArray) (w : World) {p : Pg} (hp : p.ok false) (hs : s.data.toList = p.ser) (hl : s.size ≤ 200) :
    Calls Try.prog 16 #[.string s] w (TextPost (bs (vlist [120, 121, 122] (p.all.flatMap (Pg.rwq true)))) w) := by
  have hsz : p.ser.length ≤ 1000 := by have := congrArg List.length hs; simp at this; omega
  have HC := fun w => Lib.hid (prog_yes s w hp hs hl)
  have HW := Lib.hid (win_any p hsz)
  have hrl := p.rw_le true
  have HOK : Hid (∀ q ∈ p.all, q.ok false ∧ q.ser.length ≤ 1000) := fun q hq => by
    obtain ⟨h1, h2⟩ := Pg.all_ok hp hq
    exact ⟨h1, by omega⟩
  clear hs hp
  go_enter Try.func16, Try.ntmps16
  go_wp2_with fail
  refine (HC _).out.mono ?_
  rintro e w1 ⟨T, u, rfl, hst, hb⟩
  have HB := Lib.hid hb
  have HST := Lib.hid hst
  clear hb hst
  go_wp2_with fail
  refine (HW.out w1 w.heap.size T u _ HST.out (Below.refl _ _)).mono ?_
  rintro e w2 ⟨sl, vs, rfl, hvs, hrow, hb⟩
  obtain ⟨a, cap, rfl, hat⟩ := stvs_at hvs hrow
  have hal : p.all.length ≤ 1000 := Nat.le_trans p.all_le hsz
  have HA := Lib.hid hat
  have HB2 := Lib.hid (bnext HB.out hb)
  have HB1 := Lib.hid hb
  clear hb hat hrow hvs
  go_wp2_with fail
  generalize p.all = ps at *
  go_loopw [5, 20] (fun v5 v20 wr => ∃ m : Nat, m ≤ ps.length ∧ v20 = .int .i64 m ∧ v5 = .string (bs ((ps.take m).flatMap (Pg.rwq true))) ∧ Hid (Below w2.heap.size w2 wr)) (fun _ v20 _ => ps.length - (intOf v20).toNat)
  case atStart => exact ⟨0, Nat.zero_le _, rfl, rfl, Below.refl _ _⟩
  case round =>
    obtain ⟨m, hm, rfl, rfl, HB3⟩ := hrel
    have hft := flat_take (f := Pg.rwq true) (ps := ps) m
    have hsa : (bs ((ps.take m).flatMap (Pg.rwq true))).size ≤ 1000 := by rw [bs_size]; omega
    by_cases hlt : m < ps.length
    · obtain ⟨g, T1, u1, rfl, _, hc, hst⟩ := HA.out m hlt
      have hc := ckeep HB3.out hc
      have HSN : Hid (∀ r, r = bs (Pg.rwq true ps[m]) → bs ((ps.take m).flatMap (Pg.rwq true)) ++ r = bs ((ps.take (m + 1)).flatMap (Pg.rwq true))) := fun r hr => by rw [hr, bs_append, flat_step hlt]
      obtain ⟨hqok, hqn⟩ := HOK.out _ (List.getElem_mem hlt)
      have h0 : (0 : Int) ≤ (m : Int) := by omega
      have h1 : (m : Int) < (ps.length : Int) := by omega
      have HBX := Lib.hid (bnext HB1.out HB3.out)
      clear hft
      generalize bs ((ps.take m).flatMap (Pg.rwq true)) = A at *
      generalize ps[m] = q at *
      cases q with
      | skip  =>
        cases hst
        have HF := Lib.hid (HSN.out (bs []) rfl)
        clear HSN hqok 
        have a1 := tas_asg_skip
        go_wp2_with fail
        go_roundw
        case rel => exact ⟨m + 1, hlt, by go_num, by rw [← HF.out, bs_app_nil], bput HB3.out _⟩
        case measure => simp [intOf]; omega
      | asg x y =>
        obtain ⟨va, vb, hst, h0⟩ := hst; cases hst; obtain ⟨pa, pn, pm, rfl, rfl⟩ := RepH.forms h0
        have e1 : (bs [x]).size ≤ 1000 := by rw [bs_size]; simp
        have HF := Lib.hid (HSN.out (bs [x]) rfl)
        clear h0 HSN hqok
        generalize bs [x] = R at *
        have f0 : ¬ (9223372036854775807 < A.size + R.size) := by omega
        have a1 := tas_asg_asg
        go_wp2_with fail
        go_roundw
        case rel => exact ⟨m + 1, hlt, by go_num, by rw [HF.out], bput HB3.out _⟩
        case measure => simp [intOf]; omega
      | seq a b =>
        obtain ⟨va, vb, hst, h1, h2⟩ := hst; cases hst; obtain ⟨T1, u1, rfl⟩ := h1.forms; obtain ⟨T2, u2, rfl⟩ := h2.forms
        have HF := Lib.hid (HSN.out (bs []) rfl)
        clear HSN hqok 
        have a1 := tas_asg_seq
        go_wp2_with fail
        go_roundw
        case rel => exact ⟨m + 1, hlt, by go_num, by rw [← HF.out, bs_app_nil], bput HB3.out _⟩
        case measure => simp [intOf]; omega
      | ite t a b =>
        obtain ⟨vx, vy, va, vb, hst, h0, h1, h2⟩ := hst; cases hst; obtain ⟨pa, pn, pm, rfl, rfl⟩ := RepH.forms h0; obtain ⟨T1, u1, rfl⟩ := h1.forms; obtain ⟨T2, u2, rfl⟩ := h2.forms
        have HF := Lib.hid (HSN.out (bs []) rfl)
        clear HSN hqok h0
        have a1 := tas_asg_ite
        go_wp2_with fail
        go_roundw
        case rel => exact ⟨m + 1, hlt, by go_num, by rw [← HF.out, bs_app_nil], bput HB3.out _⟩
        case measure => simp [intOf]; omega
      | whl t a =>
        obtain ⟨vx, vy, va, hst, h0, h1⟩ := hst; cases hst; obtain ⟨pa, pn, pm, rfl, rfl⟩ := RepH.forms h0; obtain ⟨T1, u1, rfl⟩ := h1.forms
        have HF := Lib.hid (HSN.out (bs []) rfl)
        clear HSN hqok h0
        have a1 := tas_asg_whl
        go_wp2_with fail
        go_roundw
        case rel => exact ⟨m + 1, hlt, by go_num, by rw [← HF.out, bs_app_nil], bput HB3.out _⟩
        case measure => simp [intOf]; omega
      | cho a b =>
        obtain ⟨va, vb, hst, h1, h2⟩ := hst; cases hst; obtain ⟨T1, u1, rfl⟩ := h1.forms; obtain ⟨T2, u2, rfl⟩ := h2.forms
        have HF := Lib.hid (HSN.out (bs []) rfl)
        clear HSN hqok 
        have a1 := tas_asg_cho
        go_wp2_with fail
        go_roundw
        case rel => exact ⟨m + 1, hlt, by go_num, by rw [← HF.out, bs_app_nil], bput HB3.out _⟩
        case measure => simp [intOf]; omega
      | asm t =>
        obtain ⟨vx, vy, hst, h0⟩ := hst; cases hst; obtain ⟨pa, pn, pm, rfl, rfl⟩ := RepH.forms h0
        have HF := Lib.hid (HSN.out (bs []) rfl)
        clear HSN hqok h0
        have a1 := tas_asg_asm
        go_wp2_with fail
        go_roundw
        case rel => exact ⟨m + 1, hlt, by go_num, by rw [← HF.out, bs_app_nil], bput HB3.out _⟩
        case measure => simp [intOf]; omega
    · have hfin : Hid (bs ((ps.take m).flatMap (Pg.rwq true)) = bs (ps.flatMap (Pg.rwq true))) := by
        show _ = _
        rw [List.take_of_length_le (by omega)]
      have h1 : ¬ (m : Int) < (ps.length : Int) := by omega
      have HVI := fun w => Lib.hid (vIn_any (bs ((ps.take m).flatMap (Pg.rwq true))) w)
      have hli : (bs ((ps.take m).flatMap (Pg.rwq true))).data.toList = ps.flatMap (Pg.rwq true) := by rw [hfin.out]; simp [bs]
      rw [hli] at HVI
      clear hli hfin hft
      generalize bs ((ps.take m).flatMap (Pg.rwq true)) = A at *
      generalize bs (vlist [120, 121, 122] (ps.flatMap (Pg.rwq true))) = R at *
      go_wp2_with fail
      refine (HVI _).out.mono ?_
      rintro e w3 ⟨rfl, hb⟩
      have HB4 := Lib.hid (bnext (bnext HB2.out HB3.out) hb)
      clear hb
      go_wp2_with fail
      go_ret
      exact ⟨rfl, HB4.out⟩
set_option maxHeartbeats 1000000 in
theorem implWrs_no (s : ByteArray) (w : World) (h : ¬ (PValid false s.data.toList ∧ s.size ≤ 200)) :
    Calls Try.prog 16 #[.string s] w (TextPost (bs []) w) := by
  have HC := fun w => Lib.hid (prog_no s w h)
  clear h
  go_enter Try.func16, Try.ntmps16
  go_wp2_with fail
  refine (HC _).out.mono ?_
  rintro e w1 ⟨rfl, hb⟩
  have HB := Lib.hid hb
  clear hb
  go_wp2_with fail
  go_ret
  exact ⟨rfl, HB.out⟩
end Go.Proofs.Ytemkndpiljfefaa
