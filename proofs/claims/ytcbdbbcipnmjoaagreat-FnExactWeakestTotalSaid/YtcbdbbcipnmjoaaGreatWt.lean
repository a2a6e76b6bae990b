/-
  WeakestTotal: the program and the model.
-/
import Derived.Test.YtcbdbbcipnmjoaaGreatTopC
import Derived.Deep.MidRow
namespace Go.Proofs.YtcbdbbcipnmjoaaGreat
open Go.RowKit Tm Go.Great Classical

noncomputable def wT (p : Pg) (F : Nat → Bool) : Nat → Bool := fun i => (!rL p i && !rK p i) && wF p F i
theorem wT_eq {p : Pg} (hp : p.ok false) {S : Nat → Bool} {i : Nat} (hi : i < 27) : (frS (rT p) S i && !(rL p i || rK p i)) = wT p S i := by
  unfold wT
  rw [wF_eq hp hi]
  cases rL p i <;> cases rK p i <;> simp
set_option maxRecDepth 1000000 in
set_option maxHeartbeats 8000000 in
theorem implTotal_yes (s q : ByteArray) {p : Pg} (hp : p.ok false) (he : s.data.toList = p.ser) (hl : s.size ≤ 200) (hq : Set27 q) (w : World) : Calls Tryz.prog 6 #[.string s, .string q] w (TextPost (wT p (hs q.data.toList)) w) := by
  have CA := fun w => Lib.hid (readAim_yes s q hp he hl hq w)
  have CC := Lib.hid (cond_any p hp)
  have hal : p.all.length ≤ 900 := by have := p.all_le; have := ser_200 he hl; omega
  have CF := fun B v w hv => Lib.hid (flowOf_any p B v w hv hp hal)
  have CS := fun {w1 : World} {B : Nat} {sp : Value} (hF : FlowOk w1 B sp (flS p) (flG p)) (w : World) (hb : Below w1.heap.size w1 w) => Lib.hid (statesWith_any hF 17 (fun _ lo bl => !lo && !bl) asksAll (fun _ _ => by kernel_rfl) w hb)
  have HA := Lib.hid (u_and (askS p (fun _ lo bl => !lo && !bl)) (wF p (hs q.data.toList)))
  clear hp he hl hq hal
  go_enter Tryz.func6, Tryz.ntmps6
  go_wp2_with fail
  refine (CA _).out.mono ?_
  rintro e w1 ⟨T, u, rfl, hst, hb⟩
  have HB := Lib.hid hb
  have HS := Lib.hid hst
  have D := fun w h => Lib.hid (CC.out _ _ _ _ hst w h)
  clear hb hst
  go_wp2_with fail
  refine (CF _ _ _ HS.out).out.mono ?_
  rintro e w2 ⟨rb, cap, rfl, hF, hb⟩
  have HB2 := Lib.hid hb
  have HF := Lib.hid hF
  clear hb hF
  go_wp2_with fail
  refine (CS HF.out _ (Below.refl _ _)).out.mono ?_
  rintro e w3 ⟨rfl, hb⟩
  have HB3 := Lib.hid (bnext HB2.out hb)
  clear hb
  go_wp2_with fail
  refine (D _ HB3.out).out.mono ?_
  rintro e w4 ⟨fn, caps, rfl, ⟨fn', caps', e1, hcf, hcall⟩, hb⟩
  cases e1
  have HB4 := Lib.hid (bnext HB.out (bnext HB3.out hb))
  have HC := Lib.hid (hcall w4 (Agr.refl _ _ _) (hs q.data.toList))
  clear hb hcall
  go_wp2_with fail
  refine HC.out.mono ?_
  rintro e w5 ⟨rfl, hb⟩
  replace HB4 := Lib.hid (bnext HB4.out hb)
  clear hb
  go_wp2_with fail
  rw [HA.out]
  refine (implText _ _).mono ?_
  rintro e w6 ⟨rfl, hb⟩
  replace HB4 := Lib.hid (bnext HB4.out hb)
  clear hb
  go_wp2_with fail
  go_ret2
  exact ⟨rfl, HB4.out⟩
set_option maxRecDepth 1000000 in
set_option maxHeartbeats 8000000 in
theorem implTotal_no (s q : ByteArray) (h : ¬ (IsP s ∧ Set27 q)) (w : World) : Calls Tryz.prog 6 #[.string s, .string q] w (NoPost w) := by
  have CA := fun w => Lib.hid (readAim_no s q h w)
  clear h
  go_enter Tryz.func6, Tryz.ntmps6
  go_wp2_with fail
  refine (CA _).out.mono ?_
  rintro e w1 ⟨rfl, hb⟩
  go_wp2_with fail
  go_ret2
  exact ⟨rfl, hb⟩
set_option maxRecDepth 1000000 in
set_option maxHeartbeats 8000000 in
theorem specTotal_no (s q : ByteArray) (hm : q.size ≤ maxLen) (h : ¬ (IsP s ∧ Set27 q)) (w : World) : Calls Tryz.prog 5 #[.string s, .string q] w (NoPost w) := by
  have C := fun w => Lib.hid (specReady s q hm w)
  rw [decide_eq_false h] at C
  clear h
  go_enter Tryz.func5, Tryz.ntmps5
  go_wp2_with fail
  refine (C _).out.mono ?_
  rintro e w1 ⟨rfl, hb⟩
  go_wp2_with fail
  go_ret2
  exact ⟨rfl, hb⟩
theorem yields_row {ops : Array Oper} {S : World → Prop} {op : Oper} {a : Act} {x : Operand} {t : TypeId} {p : Addr} {v : Value} (hw : Region.wanted op (yielded ops a.tmps) = true) (ho : op.op = .load t x) (hx : a.eval x = .pointer (some p)) (hS : ∀ w, S w → (loadVar t p).run Tryz.prog w = .ok v w) : YieldsIf Tryz.prog ops S op v a :=
  .inl ⟨hw, fun w hw' => by
    unfold execOp
    simp only [ho, hx, Instr.loadAt, Instr.sureAddr, Sem.run_bind, Sem.run_pure, Result.andThen_ok, hS w hw']⟩
theorem load_all {w : World} {g : Nat} {cs : Array Value} (h : Blk w g cs 28) (hi : (Tryz.prog.info? 28).map (·.size) = some cs.size) : (loadVar 28 ⟨g, 0, none⟩).run Tryz.prog w = .ok (.agg cs) w := by
  have := run_loadVar_mid (P := Tryz.prog) w g 0 28 cs.toList _ (fun j v hv => by rw [Nat.zero_add, h.cell j]; simpa using hv) undAll rfl (by rw [Array.length_toList]; exact hi)
  rw [Array.toArray_toList] at this
  exact this
set_option maxRecDepth 1000000 in
set_option maxHeartbeats 8000000 in
theorem specTotal_yes (s q : ByteArray) {p : Pg} (hp : p.ok false) (he : s.data.toList = p.ser) (hl : s.size ≤ 200) (hq : Set27 q) (hm : q.size ≤ maxLen) (w : World) : Calls Tryz.prog 5 #[.string s, .string q] w (TextPost (wT p (hs q.data.toList)) w) := by
  have C := fun w => Lib.hid (specReady s q hm w)
  rw [decide_eq_true (⟨⟨⟨p, hp, he⟩, hl⟩, hq⟩ : IsP s ∧ Set27 q)] at C
  have CM := fun w => Lib.hid (specMask q w hq)
  have CR := fun w => Lib.hid (run_bs hp he hl w)
  have CF := fun w => specFree (rT p) (rL p) (rK p) (hs q.data.toList) w
  replace CF := fun w => Lib.hid (CF w)
  have CX : ∀ w, Calls Tryz.prog 11 #[.int .i64 (bits .andNot .i64 (nb 27 (frS (rT p) (hs q.data.toList)) : Nat) (bits .or .i64 (nb 27 (rL p) : Nat) (nb 27 (rK p) : Nat)))] w fun e w' => e = .returned (.string (bs (tb (wT p (hs q.data.toList))))) ∧ Below w.heap.size w w' := fun w => by
    rw [s_or, s_andNot, nb_congr (G := wT p (hs q.data.toList)) fun i hi => wT_eq hp hi]
    exact specTextS _ w
  replace CX := fun w => Lib.hid (CX w)
  clear hp he hl hq
  go_enter Tryz.func5, Tryz.ntmps5
  go_wp2_with fail
  refine (C _).out.mono ?_
  rintro e w1 ⟨rfl, hb⟩
  have KB := Lib.hid hb
  clear hb
  go_wp2_with fail
  refine (CR _).out.mono ?_
  rintro e w2 ⟨rfl, hb⟩
  replace KB := Lib.hid (bnext KB.out hb)
  clear hb
  have k0 := Blk.new w2 (allC noT noS noS) 28
  have L0 := Lib.hid k0
  have K0 := Lib.hid (k0.row (allC (rT p) (rL p) (rK p)))
  have kb := Below.setRow ((Below.refl w2.heap.size w2).alloc (Nat.le_refl _) (.cells (allC noT noS noS) 28)) (g := w2.heap.size) (Nat.le_refl _) (allC (rT p) (rL p) (rK p))
  replace KB := Lib.hid (bnext KB.out kb)
  clear k0 kb
  go_wp2_with (first
    | (refine ar_alloc rfl rfl (some 6) rfl w2.heap.size rfl ?_)
    | (refine wpList_store_row rfl 28 _ _ rfl w2.heap.size (allC (rT p) (rL p) (rK p)) (by rfl) (by rfl) 28 (allC noT noS noS) L0.out (infoAll' _ _ _) (by rw [allC_size, allC_size]) (allC_one _ _ _) ?_))
  clear L0
  generalize hwx : (w2.alloc (.cells (allC noT noS noS) 28)).setRow w2.heap.size (allC (rT p) (rL p) (rK p)) = wx at *
  clear hwx
  obtain ⟨g, hg⟩ : ∃ g, w2.heap.size = g := ⟨_, rfl⟩
  rw [hg] at K0 ⊢
  clear hg
  have c27 : wx.cell? ⟨g, 27, none⟩ = some (.int .i64 (nb 27 (rL p))) := (K0.out.cell 27).trans (allC_L _ _ _)
  have c28 : wx.cell? ⟨g, 28, none⟩ = some (.int .i64 (nb 27 (rK p))) := (K0.out.cell 28).trans (allC_K _ _ _)
  have hbb := (Below.refl wx.heap.size wx).drew
  have RG : ∀ w', Below wx.heap.size wx w' → (fun w' => Below wx.heap.size wx w' ∧ (loadVar 28 ⟨g, 0, none⟩).run Tryz.prog w' = .ok (.agg (allC (rT p) (rL p) (rK p))) w' ∧ w'.cell? ⟨g, 27, none⟩ = some (.int .i64 (nb 27 (rL p))) ∧ w'.cell? ⟨g, 28, none⟩ = some (.int .i64 (nb 27 (rK p)))) w' := fun w' h => ⟨h, load_all (K0.out.kept h) (infoAll' _ _ _), ckeep h c27, ckeep h c28⟩
  have RG' := Lib.hid RG
  clear RG c27 c28
  refine wp_region_held_drew (S := fun w' => Below wx.heap.size wx w' ∧ (loadVar 28 ⟨g, 0, none⟩).run Tryz.prog w' = .ok (.agg (allC (rT p) (rL p) (rK p))) w' ∧ w'.cell? ⟨g, 27, none⟩ = some (.int .i64 (nb 27 (rL p))) ∧ w'.cell? ⟨g, 28, none⟩ = some (.int .i64 (nb 27 (rK p)))) (by kernel_rfl) (RG'.out _ hbb) (fun hHeld => ?_)
  refine wpAnyH_take (i := 0) (v := .agg (allC (rT p) (rL p) (rK p))) rfl (by kernel_rfl) (by kernel_rfl) (by kernel_rfl) (fun _ _ _ h => h) (yields_row (by rfl) rfl rfl fun w hSw => hSw.2.1) hHeld ?_
  simp only [Act.put]
  refine wpAnyH_take (i := 1) (v := ?_) rfl (by kernel_rfl) (by kernel_rfl) (by kernel_rfl) (fun _ _ _ h => h) (Or.inl ⟨by rfl, ?_⟩) hHeld ?_
  rotate_left
  · intro w hSw
    (try dsimp only at hSw)
    go_simp
    first | done | with_reducible rfl
  simp only [Act.put]
  refine wpAnyH_take (i := 4) (v := ?_) rfl (by kernel_rfl) (by kernel_rfl) (by kernel_rfl) (fun _ _ _ h => h) (Or.inl ⟨by rfl, ?_⟩) hHeld ?_
  rotate_left
  · intro w hSw
    (try dsimp only at hSw)
    go_simp
    first | done | with_reducible rfl
  simp only [Act.put]
  refine wpAnyH_take (i := 5) (v := ?_) rfl (by kernel_rfl) (by kernel_rfl) (by kernel_rfl) (fun _ _ _ h => h) (Or.inl ⟨by rfl, ?_⟩) hHeld ?_
  rotate_left
  · intro w hSw
    (try dsimp only at hSw)
    go_simp
    first | done | with_reducible rfl
  simp only [Act.put]
  refine wpAnyH_take (i := 6) (v := ?_) rfl (by kernel_rfl) (by kernel_rfl) (by kernel_rfl) (fun _ _ _ h => h) (Or.inl ⟨by rfl, ?_⟩) hHeld ?_
  rotate_left
  · intro w hSw
    (try dsimp only at hSw)
    go_simp
    first | done | with_reducible rfl
  simp only [Act.put]
  refine wpAnyH_take (i := 7) (v := ?_) rfl (by kernel_rfl) (by kernel_rfl) (by kernel_rfl) (fun _ _ _ h => h) (Or.inl ⟨by rfl, ?_⟩) hHeld ?_
  rotate_left
  · intro w hSw
    (try dsimp only at hSw)
    go_simp
    first | done | with_reducible rfl
  simp only [Act.put]
  refine wpAnyH_take (i := 8) (v := ?_) rfl (by kernel_rfl) (by kernel_rfl) (by kernel_rfl) (fun _ _ _ h => h) (Or.inl ⟨by rfl, ?_⟩) hHeld ?_
  rotate_left
  · intro w hSw
    (try dsimp only at hSw)
    go_simp
    first | done | with_reducible rfl
  simp only [Act.put]
  refine wpAnyH_ready (rs := [2]) (by kernel_rfl) (by simp) ?_
  refine AllReadyH.cons rfl (fun K hK => ?_) AllReadyH.nil
  go_simp
  (with_reducible refine (CM _).out.mono ?_)
  rintro e w5 ⟨rfl, hq⟩
  go_wp2_with fail
  refine hK.out _ _ (RG'.out _ (bnext hHeld.1 hq)) (fun hHeld => ?_)
  clear hK K
  try simp only [Act.put]
  refine wpAnyH_ready (rs := [3]) (by kernel_rfl) (by simp) ?_
  refine AllReadyH.cons rfl (fun K hK => ?_) AllReadyH.nil
  go_simp
  (with_reducible refine (CF _).out.mono ?_)
  rintro e w5 ⟨rfl, hq⟩
  go_wp2_with fail
  refine hK.out _ _ (RG'.out _ (bnext hHeld.1 hq)) (fun hHeld => ?_)
  clear hK K
  try simp only [Act.put]
  refine wpAnyH_take (i := 9) (v := ?_) rfl (by kernel_rfl) (by kernel_rfl) (by kernel_rfl) (fun _ _ _ h => h) (Or.inl ⟨by rfl, ?_⟩) hHeld ?_
  rotate_left
  · intro w hSw
    (try dsimp only at hSw)
    go_simp
    first | done | with_reducible rfl
  simp only [Act.put]
  refine wpAnyH_ready (rs := [10]) (by kernel_rfl) (by simp) ?_
  refine AllReadyH.cons rfl (fun K hK => ?_) AllReadyH.nil
  go_simp
  (with_reducible refine (CX _).out.mono ?_)
  rintro e w5 ⟨rfl, hq⟩
  go_wp2_with fail
  refine hK.out _ _ (RG'.out _ (bnext hHeld.1 hq)) (fun hHeld => ?_)
  clear hK K
  try simp only [Act.put]
  refine wpAnyH_take (i := 11) (oi := { dst := some 4, op := .assign (.tmp 23), type := _, pos := _, after := _, guard := none }) (v := ?_) rfl (by kernel_rfl) (by kernel_rfl) (by kernel_rfl) (fun _ _ _ h => h) (Or.inl ⟨by rfl, ?_⟩) hHeld ?_
  rotate_left
  · intro w hSw
    (try dsimp only at hSw)
    go_simp
    first | done | with_reducible rfl
  simp only [Act.put]
  refine wpAnyH_take (i := 12) (oi := { dst := some 5, op := .assign (.const (.bool true)), type := _, pos := _, after := _, guard := none }) (v := ?_) rfl (by kernel_rfl) (by kernel_rfl) (by kernel_rfl) (fun _ _ _ h => h) (Or.inl ⟨by rfl, ?_⟩) hHeld ?_
  rotate_left
  · intro w hSw
    (try dsimp only at hSw)
    go_simp
    first | done | with_reducible rfl
  simp only [Act.put]
  refine wpAnyH_done (by kernel_rfl) ?_ _
  have HF := Lib.hid (bnext KB.out hHeld.1)
  go_wp2_with fail
  go_ret2
  exact ⟨rfl, HF.out⟩
set_option maxRecDepth 100000 in
set_option maxHeartbeats 4000000 in
theorem implTotalH_yes (a s q : ByteArray) {p : Pg} (hp : p.ok false) (he : s.data.toList = p.ser) (hl : s.size ≤ 200) (hq : Set27 q) (ha : Set27 a) (w : World) : Calls Tryz.prog 8 #[.string a, .string s, .string q] w fun e w' => e = .returned (.bool (wi 27 (hs a.data.toList) (hs (bs (tb (wT p (hs q.data.toList)))).data.toList))) ∧ Below w.heap.size w w' := by
  have CA := fun w => Lib.hid (implTotal_yes s q hp he hl hq w)
  have CW := fun w => Lib.hid (implPWithin_yes a (bs (tb (wT p (hs q.data.toList)))) w ha (set27_tb' _))
  clear hp he hl hq ha
  go_enter Tryz.func8, Tryz.ntmps8
  go_wp2_with fail
  refine (CA _).out.mono ?_
  rintro e w1 ⟨rfl, hb⟩
  have HB := Lib.hid hb
  clear hb
  go_wp2_with fail
  refine (CW _).out.mono ?_
  rintro e w2 ⟨rfl, rfl⟩
  go_wp2_with fail
  go_ret
  exact ⟨rfl, HB.out⟩
set_option maxRecDepth 100000 in
set_option maxHeartbeats 4000000 in
theorem implTotalH_out (a s q : ByteArray) {p : Pg} (hp : p.ok false) (he : s.data.toList = p.ser) (hl : s.size ≤ 200) (hq : Set27 q) (ha : ¬ Set27 a) (w : World) : Calls Tryz.prog 8 #[.string a, .string s, .string q] w fun e w' => e = .returned (.bool (false)) ∧ Below w.heap.size w w' := by
  have CA := fun w => Lib.hid (implTotal_yes s q hp he hl hq w)
  have CW := fun w => Lib.hid (implPWithin_no a (bs (tb (wT p (hs q.data.toList)))) w (fun h => ha h.1))
  clear hp he hl hq ha
  go_enter Tryz.func8, Tryz.ntmps8
  go_wp2_with fail
  refine (CA _).out.mono ?_
  rintro e w1 ⟨rfl, hb⟩
  have HB := Lib.hid hb
  clear hb
  go_wp2_with fail
  refine (CW _).out.mono ?_
  rintro e w2 ⟨rfl, rfl⟩
  go_wp2_with fail
  go_ret
  exact ⟨rfl, HB.out⟩
set_option maxRecDepth 100000 in
set_option maxHeartbeats 4000000 in
theorem implTotalH_no (a s q : ByteArray) (h : ¬ (IsP s ∧ Set27 q)) (w : World) : Calls Tryz.prog 8 #[.string a, .string s, .string q] w fun e w' => e = .returned (.bool (false)) ∧ Below w.heap.size w w' := by
  have CA := fun w => Lib.hid (implTotal_no s q h w)
  clear h
  go_enter Tryz.func8, Tryz.ntmps8
  go_wp2_with fail
  refine (CA _).out.mono ?_
  rintro e w1 ⟨rfl, hb⟩
  have HB := Lib.hid hb
  clear hb
  go_wp2_with fail
  go_ret
  exact ⟨rfl, HB.out⟩
set_option maxRecDepth 100000 in
set_option maxHeartbeats 4000000 in
theorem specTotalH_yes (a s q : ByteArray) {p : Pg} (hp : p.ok false) (he : s.data.toList = p.ser) (hl : s.size ≤ 200) (hq : Set27 q) (ha : Set27 a) (hmq : q.size ≤ maxLen) (w : World) : Calls Tryz.prog 7 #[.string a, .string s, .string q] w fun e w' => e = .returned (.bool (wi 27 (hs a.data.toList) (hs (bs (tb (wT p (hs q.data.toList)))).data.toList))) ∧ Below w.heap.size w w' := by
  have CA := fun w => Lib.hid (specTotal_yes s q hp he hl hq hmq w)
  have CW := fun w => Lib.hid (specPWithin_yes a (bs (tb (wT p (hs q.data.toList)))) w ha (set27_tb' _))
  clear hp he hl hq ha
  go_enter Tryz.func7, Tryz.ntmps7
  go_wp2_with fail
  refine (CA _).out.mono ?_
  rintro e w1 ⟨rfl, hb⟩
  have HB := Lib.hid hb
  clear hb
  go_wp2_with fail
  refine (CW _).out.mono ?_
  rintro e w2 ⟨rfl, hb⟩
  replace HB := Lib.hid (bnext HB.out hb)
  clear hb
  go_wp2_with fail
  go_ret
  exact ⟨rfl, HB.out⟩
set_option maxRecDepth 100000 in
set_option maxHeartbeats 4000000 in
theorem specTotalH_out (a s q : ByteArray) {p : Pg} (hp : p.ok false) (he : s.data.toList = p.ser) (hl : s.size ≤ 200) (hq : Set27 q) (ha : ¬ Set27 a) (hma : a.size ≤ maxLen) (hmq : q.size ≤ maxLen) (w : World) : Calls Tryz.prog 7 #[.string a, .string s, .string q] w fun e w' => e = .returned (.bool (false)) ∧ Below w.heap.size w w' := by
  have CA := fun w => Lib.hid (specTotal_yes s q hp he hl hq hmq w)
  have CW := fun w => Lib.hid (specPWithin_no a (bs (tb (wT p (hs q.data.toList)))) w (fun h => ha h.1) hma (set27_le _))
  clear hp he hl hq ha
  go_enter Tryz.func7, Tryz.ntmps7
  go_wp2_with fail
  refine (CA _).out.mono ?_
  rintro e w1 ⟨rfl, hb⟩
  have HB := Lib.hid hb
  clear hb
  go_wp2_with fail
  refine (CW _).out.mono ?_
  rintro e w2 ⟨rfl, hb⟩
  replace HB := Lib.hid (bnext HB.out hb)
  clear hb
  go_wp2_with fail
  go_ret
  exact ⟨rfl, HB.out⟩
set_option maxRecDepth 100000 in
set_option maxHeartbeats 4000000 in
theorem specTotalH_no (a s q : ByteArray) (h : ¬ (IsP s ∧ Set27 q)) (hmq : q.size ≤ maxLen) (w : World) : Calls Tryz.prog 7 #[.string a, .string s, .string q] w fun e w' => e = .returned (.bool (false)) ∧ Below w.heap.size w w' := by
  have CA := fun w => Lib.hid (specTotal_no s q hmq h w)
  clear h
  go_enter Tryz.func7, Tryz.ntmps7
  go_wp2_with fail
  refine (CA _).out.mono ?_
  rintro e w1 ⟨rfl, hb⟩
  have HB := Lib.hid hb
  clear hb
  go_wp2_with fail
  go_ret
  exact ⟨rfl, HB.out⟩

end Go.Proofs.YtcbdbbcipnmjoaaGreat
