/-
  Several small texts in one: Wt Pop SetC SetE PpF PpP PredOf PpT P5a P5b Dr5 Dep Win Pln ImO P5c PpS HasK Rf At5.
-/
import Derived.Test.YthmghadepimcnaaGreatTopC
import Derived.Deep.MidRow
import Derived.Test.YthmghadepimcnaaGreatSetW
import Derived.Deep.QuietTactic
import Derived.BigQuiet
import Derived.Test.YthmghadepimcnaaGreatBlk
import Derived.Test.YthmghadepimcnaaGreatTst
import Derived.Test.YthmghadepimcnaaGreatSpecValid
import Derived.Test.YthmghadepimcnaaGreatRead
import Derived.Test.YthmghadepimcnaaGreatTopD
import Derived.RowKit3
import Derived.Test.YthmghadepimcnaaGreatFind
import Derived.Test.YthmghadepimcnaaGreatPgW
import Derived.Test.YthmghadepimcnaaGreatRdP
import Derived.Test.YthmghadepimcnaaGreatTas
import Derived.Test.YthmghadepimcnaaGreatIx0
import Derived.Test.YthmghadepimcnaaGreatRow
namespace Go.Proofs.YthmghadepimcnaaGreat
open Go.RowKit Tm Go.Great Classical

noncomputable def wT (p : Pg) (F : Nat → Bool) : Nat → Bool := fun i => (!rL p i && !rK p i) && wF p F i
theorem wT_eq {p : Pg} (hp : p.ok false) {S : Nat → Bool} {i : Nat} (hi : i < 27) : (frS (rT p) S i && !(rL p i || rK p i)) = wT p S i := by
  unfold wT
  rw [wF_eq hp hi]
  cases rL p i <;> cases rK p i <;> simp
set_option maxRecDepth 1000000 in
set_option maxHeartbeats 8000000 in
theorem implTotal_yes (s q : ByteArray) {p : Pg} (hp : p.ok false) (he : s.data.toList = p.ser) (hl : s.size ≤ 200) (hq : Set27 q) (w : World) : Calls Tryz.prog 14 #[.string s, .string q] w (TextPost (wT p (hs q.data.toList)) w) := by
  have CA := fun w => Lib.hid (readAim_yes s q hp he hl hq w)
  have CC := Lib.hid (cond_any p hp)
  have hal : p.all.length ≤ 900 := by have := p.all_le; have := ser_200 he hl; omega
  have CF := fun B v w hv => Lib.hid (flowOf_any p B v w hv hp hal)
  have CS := fun {w1 : World} {B : Nat} {sp : Value} (hF : FlowOk w1 B sp (flS p) (flG p)) (w : World) (hb : Below w1.heap.size w1 w) => Lib.hid (statesWith_any hF 63 (fun _ lo bl => !lo && !bl) asksAll (fun _ _ => by kernel_rfl) w hb)
  have HA := Lib.hid (u_and (askS p (fun _ lo bl => !lo && !bl)) (wF p (hs q.data.toList)))
  clear hp he hl hq hal
  go_enter Tryz.func14, Tryz.ntmps14
  go_wp2_with fail
  refine (CA _).out.mono ?_
  rintro e w1 ⟨T, u, rfl, hst, hb⟩
  have HB := Lib.hid hb
  have HS := Lib.hid hst
  have D := fun w h => Lib.hid (CC.out _ _ _ _ hst w h)
  clear hb hst
  go_wp2_with fail
  refine (CF _ _ _ HS.out).out.mono ?_
  rintro e w2 ⟨rb, cap, rfl, hF, hb⟩
  have HB2 := Lib.hid hb
  have HF := Lib.hid hF
  clear hb hF
  go_wp2_with fail
  refine (CS HF.out _ (Below.refl _ _)).out.mono ?_
  rintro e w3 ⟨rfl, hb⟩
  have HB3 := Lib.hid (bnext HB2.out hb)
  clear hb
  go_wp2_with fail
  refine (D _ HB3.out).out.mono ?_
  rintro e w4 ⟨fn, caps, rfl, ⟨fn', caps', e1, hcf, hcall⟩, hb⟩
  cases e1
  have HB4 := Lib.hid (bnext HB.out (bnext HB3.out hb))
  have HC := Lib.hid (hcall w4 (Agr.refl _ _ _) (hs q.data.toList))
  clear hb hcall
  go_wp2_with fail
  refine HC.out.mono ?_
  rintro e w5 ⟨rfl, hb⟩
  replace HB4 := Lib.hid (bnext HB4.out hb)
  clear hb
  go_wp2_with fail
  rw [HA.out]
  refine (implText _ _).mono ?_
  rintro e w6 ⟨rfl, hb⟩
  replace HB4 := Lib.hid (bnext HB4.out hb)
  clear hb
  go_wp2_with fail
  go_ret2
  exact ⟨rfl, HB4.out⟩
set_option maxRecDepth 1000000 in
set_option maxHeartbeats 8000000 in
theorem implTotal_no (s q : ByteArray) (h : ¬ (IsP s ∧ Set27 q)) (w : World) : Calls Tryz.prog 14 #[.string s, .string q] w (NoPost w) := by
  have CA := fun w => Lib.hid (readAim_no s q h w)
  clear h
  go_enter Tryz.func14, Tryz.ntmps14
  go_wp2_with fail
  refine (CA _).out.mono ?_
  rintro e w1 ⟨rfl, hb⟩
  go_wp2_with fail
  go_ret2
  exact ⟨rfl, hb⟩
set_option maxRecDepth 1000000 in
set_option maxHeartbeats 8000000 in
theorem specTotal_no (s q : ByteArray) (hm : q.size ≤ maxLen) (h : ¬ (IsP s ∧ Set27 q)) (w : World) : Calls Tryz.prog 15 #[.string s, .string q] w (NoPost w) := by
  have C := fun w => Lib.hid (specReady s q hm w)
  rw [decide_eq_false h] at C
  clear h
  go_enter Tryz.func15, Tryz.ntmps15
  go_wp2_with fail
  refine (C _).out.mono ?_
  rintro e w1 ⟨rfl, hb⟩
  go_wp2_with fail
  go_ret2
  exact ⟨rfl, hb⟩
theorem yields_row {ops : Array Oper} {S : World → Prop} {op : Oper} {a : Act} {x : Operand} {t : TypeId} {p : Addr} {v : Value} (hw : Region.wanted op (yielded ops a.tmps) = true) (ho : op.op = .load t x) (hx : a.eval x = .pointer (some p)) (hS : ∀ w, S w → (loadVar t p).run Tryz.prog w = .ok v w) : YieldsIf Tryz.prog ops S op v a :=
  .inl ⟨hw, fun w hw' => by
    unfold execOp
    simp only [ho, hx, Instr.loadAt, Instr.sureAddr, Sem.run_bind, Sem.run_pure, Result.andThen_ok, hS w hw']⟩
theorem load_all {w : World} {g : Nat} {cs : Array Value} (h : Blk w g cs 69) (hi : (Tryz.prog.info? 69).map (·.size) = some cs.size) : (loadVar 69 ⟨g, 0, none⟩).run Tryz.prog w = .ok (.agg cs) w := by
  have := run_loadVar_mid (P := Tryz.prog) w g 0 69 cs.toList _ (fun j v hv => by rw [Nat.zero_add, h.cell j]; simpa using hv) undAll rfl (by rw [Array.length_toList]; exact hi)
  rw [Array.toArray_toList] at this
  exact this
set_option maxRecDepth 1000000 in
set_option maxHeartbeats 8000000 in
theorem specTotal_yes (s q : ByteArray) {p : Pg} (hp : p.ok false) (he : s.data.toList = p.ser) (hl : s.size ≤ 200) (hq : Set27 q) (hm : q.size ≤ maxLen) (w : World) : Calls Tryz.prog 15 #[.string s, .string q] w (TextPost (wT p (hs q.data.toList)) w) := by
  have C := fun w => Lib.hid (specReady s q hm w)
  rw [decide_eq_true (⟨⟨⟨p, hp, he⟩, hl⟩, hq⟩ : IsP s ∧ Set27 q)] at C
  have CM := fun w => Lib.hid (specMask q w hq)
  have CR := fun w => Lib.hid (run_bs hp he hl w)
  have CF := fun w => specFree (rT p) (rL p) (rK p) (hs q.data.toList) w
  replace CF := fun w => Lib.hid (CF w)
  have CX : ∀ w, Calls Tryz.prog 68 #[.int .i64 (bits .andNot .i64 (nb 27 (frS (rT p) (hs q.data.toList)) : Nat) (bits .or .i64 (nb 27 (rL p) : Nat) (nb 27 (rK p) : Nat)))] w fun e w' => e = .returned (.string (bs (tb (wT p (hs q.data.toList))))) ∧ Below w.heap.size w w' := fun w => by
    rw [s_or, s_andNot, nb_congr (G := wT p (hs q.data.toList)) fun i hi => wT_eq hp hi]
    exact specTextS _ w
  replace CX := fun w => Lib.hid (CX w)
  clear hp he hl hq
  go_enter Tryz.func15, Tryz.ntmps15
  go_wp2_with fail
  refine (C _).out.mono ?_
  rintro e w1 ⟨rfl, hb⟩
  have KB := Lib.hid hb
  clear hb
  go_wp2_with fail
  refine (CR _).out.mono ?_
  rintro e w2 ⟨rfl, hb⟩
  replace KB := Lib.hid (bnext KB.out hb)
  clear hb
  have k0 := Blk.new w2 (allC noT noS noS) 69
  have L0 := Lib.hid k0
  have K0 := Lib.hid (k0.row (allC (rT p) (rL p) (rK p)))
  have kb := Below.setRow ((Below.refl w2.heap.size w2).alloc (Nat.le_refl _) (.cells (allC noT noS noS) 69)) (g := w2.heap.size) (Nat.le_refl _) (allC (rT p) (rL p) (rK p))
  replace KB := Lib.hid (bnext KB.out kb)
  clear k0 kb
  go_wp2_with (first
    | (refine ar_alloc rfl rfl (some 6) rfl w2.heap.size rfl ?_)
    | (refine wpList_store_row rfl 69 _ _ rfl w2.heap.size (allC (rT p) (rL p) (rK p)) (by rfl) (by rfl) 69 (allC noT noS noS) L0.out (infoAll' _ _ _) (by rw [allC_size, allC_size]) (allC_one _ _ _) ?_))
  clear L0
  generalize hwx : (w2.alloc (.cells (allC noT noS noS) 69)).setRow w2.heap.size (allC (rT p) (rL p) (rK p)) = wx at *
  clear hwx
  obtain ⟨g, hg⟩ : ∃ g, w2.heap.size = g := ⟨_, rfl⟩
  rw [hg] at K0 ⊢
  clear hg
  have c27 : wx.cell? ⟨g, 27, none⟩ = some (.int .i64 (nb 27 (rL p))) := (K0.out.cell 27).trans (allC_L _ _ _)
  have c28 : wx.cell? ⟨g, 28, none⟩ = some (.int .i64 (nb 27 (rK p))) := (K0.out.cell 28).trans (allC_K _ _ _)
  have hbb := (Below.refl wx.heap.size wx).drew
  have RG : ∀ w', Below wx.heap.size wx w' → (fun w' => Below wx.heap.size wx w' ∧ (loadVar 69 ⟨g, 0, none⟩).run Tryz.prog w' = .ok (.agg (allC (rT p) (rL p) (rK p))) w' ∧ w'.cell? ⟨g, 27, none⟩ = some (.int .i64 (nb 27 (rL p))) ∧ w'.cell? ⟨g, 28, none⟩ = some (.int .i64 (nb 27 (rK p)))) w' := fun w' h => ⟨h, load_all (K0.out.kept h) (infoAll' _ _ _), ckeep h c27, ckeep h c28⟩
  have RG' := Lib.hid RG
  clear RG c27 c28
  refine wp_region_held_drew (S := fun w' => Below wx.heap.size wx w' ∧ (loadVar 69 ⟨g, 0, none⟩).run Tryz.prog w' = .ok (.agg (allC (rT p) (rL p) (rK p))) w' ∧ w'.cell? ⟨g, 27, none⟩ = some (.int .i64 (nb 27 (rL p))) ∧ w'.cell? ⟨g, 28, none⟩ = some (.int .i64 (nb 27 (rK p)))) (by kernel_rfl) (RG'.out _ hbb) (fun hHeld => ?_)
  refine wpAnyH_take (i := 0) (v := .agg (allC (rT p) (rL p) (rK p))) rfl (by kernel_rfl) (by kernel_rfl) (by kernel_rfl) (fun _ _ _ h => h) (yields_row (by rfl) rfl rfl fun w hSw => hSw.2.1) hHeld ?_
  simp only [Act.put]
  refine wpAnyH_take (i := 1) (v := ?_) rfl (by kernel_rfl) (by kernel_rfl) (by kernel_rfl) (fun _ _ _ h => h) (Or.inl ⟨by rfl, ?_⟩) hHeld ?_
  rotate_left
  · intro w hSw
    (try dsimp only at hSw)
    go_simp
    first | done | with_reducible rfl
  simp only [Act.put]
  refine wpAnyH_take (i := 4) (v := ?_) rfl (by kernel_rfl) (by kernel_rfl) (by kernel_rfl) (fun _ _ _ h => h) (Or.inl ⟨by rfl, ?_⟩) hHeld ?_
  rotate_left
  · intro w hSw
    (try dsimp only at hSw)
    go_simp
    first | done | with_reducible rfl
  simp only [Act.put]
  refine wpAnyH_take (i := 5) (v := ?_) rfl (by kernel_rfl) (by kernel_rfl) (by kernel_rfl) (fun _ _ _ h => h) (Or.inl ⟨by rfl, ?_⟩) hHeld ?_
  rotate_left
  · intro w hSw
    (try dsimp only at hSw)
    go_simp
    first | done | with_reducible rfl
  simp only [Act.put]
  refine wpAnyH_take (i := 6) (v := ?_) rfl (by kernel_rfl) (by kernel_rfl) (by kernel_rfl) (fun _ _ _ h => h) (Or.inl ⟨by rfl, ?_⟩) hHeld ?_
  rotate_left
  · intro w hSw
    (try dsimp only at hSw)
    go_simp
    first | done | with_reducible rfl
  simp only [Act.put]
  refine wpAnyH_take (i := 7) (v := ?_) rfl (by kernel_rfl) (by kernel_rfl) (by kernel_rfl) (fun _ _ _ h => h) (Or.inl ⟨by rfl, ?_⟩) hHeld ?_
  rotate_left
  · intro w hSw
    (try dsimp only at hSw)
    go_simp
    first | done | with_reducible rfl
  simp only [Act.put]
  refine wpAnyH_take (i := 8) (v := ?_) rfl (by kernel_rfl) (by kernel_rfl) (by kernel_rfl) (fun _ _ _ h => h) (Or.inl ⟨by rfl, ?_⟩) hHeld ?_
  rotate_left
  · intro w hSw
    (try dsimp only at hSw)
    go_simp
    first | done | with_reducible rfl
  simp only [Act.put]
  refine wpAnyH_ready (rs := [2]) (by kernel_rfl) (by simp) ?_
  refine AllReadyH.cons rfl (fun K hK => ?_) AllReadyH.nil
  go_simp
  (with_reducible refine (CM _).out.mono ?_)
  rintro e w5 ⟨rfl, hq⟩
  go_wp2_with fail
  refine hK.out _ _ (RG'.out _ (bnext hHeld.1 hq)) (fun hHeld => ?_)
  clear hK K
  try simp only [Act.put]
  refine wpAnyH_ready (rs := [3]) (by kernel_rfl) (by simp) ?_
  refine AllReadyH.cons rfl (fun K hK => ?_) AllReadyH.nil
  go_simp
  (with_reducible refine (CF _).out.mono ?_)
  rintro e w5 ⟨rfl, hq⟩
  go_wp2_with fail
  refine hK.out _ _ (RG'.out _ (bnext hHeld.1 hq)) (fun hHeld => ?_)
  clear hK K
  try simp only [Act.put]
  refine wpAnyH_take (i := 9) (v := ?_) rfl (by kernel_rfl) (by kernel_rfl) (by kernel_rfl) (fun _ _ _ h => h) (Or.inl ⟨by rfl, ?_⟩) hHeld ?_
  rotate_left
  · intro w hSw
    (try dsimp only at hSw)
    go_simp
    first | done | with_reducible rfl
  simp only [Act.put]
  refine wpAnyH_ready (rs := [10]) (by kernel_rfl) (by simp) ?_
  refine AllReadyH.cons rfl (fun K hK => ?_) AllReadyH.nil
  go_simp
  (with_reducible refine (CX _).out.mono ?_)
  rintro e w5 ⟨rfl, hq⟩
  go_wp2_with fail
  refine hK.out _ _ (RG'.out _ (bnext hHeld.1 hq)) (fun hHeld => ?_)
  clear hK K
  try simp only [Act.put]
  refine wpAnyH_take (i := 11) (oi := { dst := some 4, op := .assign (.tmp 23), type := _, pos := _, after := _, guard := none }) (v := ?_) rfl (by kernel_rfl) (by kernel_rfl) (by kernel_rfl) (fun _ _ _ h => h) (Or.inl ⟨by rfl, ?_⟩) hHeld ?_
  rotate_left
  · intro w hSw
    (try dsimp only at hSw)
    go_simp
    first | done | with_reducible rfl
  simp only [Act.put]
  refine wpAnyH_take (i := 12) (oi := { dst := some 5, op := .assign (.const (.bool true)), type := _, pos := _, after := _, guard := none }) (v := ?_) rfl (by kernel_rfl) (by kernel_rfl) (by kernel_rfl) (fun _ _ _ h => h) (Or.inl ⟨by rfl, ?_⟩) hHeld ?_
  rotate_left
  · intro w hSw
    (try dsimp only at hSw)
    go_simp
    first | done | with_reducible rfl
  simp only [Act.put]
  refine wpAnyH_done (by kernel_rfl) ?_ _
  have HF := Lib.hid (bnext KB.out hHeld.1)
  go_wp2_with fail
  go_ret2
  exact ⟨rfl, HF.out⟩
set_option maxRecDepth 100000 in
set_option maxHeartbeats 4000000 in
theorem implTotalH_yes (a s q : ByteArray) {p : Pg} (hp : p.ok false) (he : s.data.toList = p.ser) (hl : s.size ≤ 200) (hq : Set27 q) (ha : Set27 a) (w : World) : Calls Tryz.prog 23 #[.string a, .string s, .string q] w fun e w' => e = .returned (.bool (wi 27 (hs a.data.toList) (hs (bs (tb (wT p (hs q.data.toList)))).data.toList))) ∧ Below w.heap.size w w' := by
  have CA := fun w => Lib.hid (implTotal_yes s q hp he hl hq w)
  have CW := fun w => Lib.hid (implPWithin_yes a (bs (tb (wT p (hs q.data.toList)))) w ha (set27_tb' _))
  clear hp he hl hq ha
  go_enter Tryz.func23, Tryz.ntmps23
  go_wp2_with fail
  refine (CA _).out.mono ?_
  rintro e w1 ⟨rfl, hb⟩
  have HB := Lib.hid hb
  clear hb
  go_wp2_with fail
  refine (CW _).out.mono ?_
  rintro e w2 ⟨rfl, rfl⟩
  go_wp2_with fail
  go_ret
  exact ⟨rfl, HB.out⟩
set_option maxRecDepth 100000 in
set_option maxHeartbeats 4000000 in
theorem implTotalH_out (a s q : ByteArray) {p : Pg} (hp : p.ok false) (he : s.data.toList = p.ser) (hl : s.size ≤ 200) (hq : Set27 q) (ha : ¬ Set27 a) (w : World) : Calls Tryz.prog 23 #[.string a, .string s, .string q] w fun e w' => e = .returned (.bool (false)) ∧ Below w.heap.size w w' := by
  have CA := fun w => Lib.hid (implTotal_yes s q hp he hl hq w)
  have CW := fun w => Lib.hid (implPWithin_no a (bs (tb (wT p (hs q.data.toList)))) w (fun h => ha h.1))
  clear hp he hl hq ha
  go_enter Tryz.func23, Tryz.ntmps23
  go_wp2_with fail
  refine (CA _).out.mono ?_
  rintro e w1 ⟨rfl, hb⟩
  have HB := Lib.hid hb
  clear hb
  go_wp2_with fail
  refine (CW _).out.mono ?_
  rintro e w2 ⟨rfl, rfl⟩
  go_wp2_with fail
  go_ret
  exact ⟨rfl, HB.out⟩
set_option maxRecDepth 100000 in
set_option maxHeartbeats 4000000 in
theorem implTotalH_no (a s q : ByteArray) (h : ¬ (IsP s ∧ Set27 q)) (w : World) : Calls Tryz.prog 23 #[.string a, .string s, .string q] w fun e w' => e = .returned (.bool (false)) ∧ Below w.heap.size w w' := by
  have CA := fun w => Lib.hid (implTotal_no s q h w)
  clear h
  go_enter Tryz.func23, Tryz.ntmps23
  go_wp2_with fail
  refine (CA _).out.mono ?_
  rintro e w1 ⟨rfl, hb⟩
  have HB := Lib.hid hb
  clear hb
  go_wp2_with fail
  go_ret
  exact ⟨rfl, HB.out⟩
set_option maxRecDepth 100000 in
set_option maxHeartbeats 4000000 in
theorem specTotalH_yes (a s q : ByteArray) {p : Pg} (hp : p.ok false) (he : s.data.toList = p.ser) (hl : s.size ≤ 200) (hq : Set27 q) (ha : Set27 a) (hmq : q.size ≤ maxLen) (w : World) : Calls Tryz.prog 24 #[.string a, .string s, .string q] w fun e w' => e = .returned (.bool (wi 27 (hs a.data.toList) (hs (bs (tb (wT p (hs q.data.toList)))).data.toList))) ∧ Below w.heap.size w w' := by
  have CA := fun w => Lib.hid (specTotal_yes s q hp he hl hq hmq w)
  have CW := fun w => Lib.hid (specPWithin_yes a (bs (tb (wT p (hs q.data.toList)))) w ha (set27_tb' _))
  clear hp he hl hq ha
  go_enter Tryz.func24, Tryz.ntmps24
  go_wp2_with fail
  refine (CA _).out.mono ?_
  rintro e w1 ⟨rfl, hb⟩
  have HB := Lib.hid hb
  clear hb
  go_wp2_with fail
  refine (CW _).out.mono ?_
  rintro e w2 ⟨rfl, hb⟩
  replace HB := Lib.hid (bnext HB.out hb)
  clear hb
  go_wp2_with fail
  go_ret
  exact ⟨rfl, HB.out⟩
set_option maxRecDepth 100000 in
set_option maxHeartbeats 4000000 in
theorem specTotalH_out (a s q : ByteArray) {p : Pg} (hp : p.ok false) (he : s.data.toList = p.ser) (hl : s.size ≤ 200) (hq : Set27 q) (ha : ¬ Set27 a) (hma : a.size ≤ maxLen) (hmq : q.size ≤ maxLen) (w : World) : Calls Tryz.prog 24 #[.string a, .string s, .string q] w fun e w' => e = .returned (.bool (false)) ∧ Below w.heap.size w w' := by
  have CA := fun w => Lib.hid (specTotal_yes s q hp he hl hq hmq w)
  have CW := fun w => Lib.hid (specPWithin_no a (bs (tb (wT p (hs q.data.toList)))) w (fun h => ha h.1) hma (set27_le _))
  clear hp he hl hq ha
  go_enter Tryz.func24, Tryz.ntmps24
  go_wp2_with fail
  refine (CA _).out.mono ?_
  rintro e w1 ⟨rfl, hb⟩
  have HB := Lib.hid hb
  clear hb
  go_wp2_with fail
  refine (CW _).out.mono ?_
  rintro e w2 ⟨rfl, hb⟩
  replace HB := Lib.hid (bnext HB.out hb)
  clear hb
  go_wp2_with fail
  go_ret
  exact ⟨rfl, HB.out⟩
set_option maxRecDepth 100000 in
set_option maxHeartbeats 4000000 in
theorem specTotalH_no (a s q : ByteArray) (h : ¬ (IsP s ∧ Set27 q)) (hmq : q.size ≤ maxLen) (w : World) : Calls Tryz.prog 24 #[.string a, .string s, .string q] w fun e w' => e = .returned (.bool (false)) ∧ Below w.heap.size w w' := by
  have CA := fun w => Lib.hid (specTotal_no s q hmq h w)
  clear h
  go_enter Tryz.func24, Tryz.ntmps24
  go_wp2_with fail
  refine (CA _).out.mono ?_
  rintro e w1 ⟨rfl, hb⟩
  have HB := Lib.hid hb
  clear hb
  go_wp2_with fail
  go_ret
  exact ⟨rfl, HB.out⟩

end Go.Proofs.YthmghadepimcnaaGreat

namespace Go.Proofs.YthmghadepimcnaaGreat
open Go.RowKit

theorem mask8 (m : Nat) (hm : m < 4294967296) : bits .and .u32 (m : Int) 255 = ((m % 256 : Nat) : Int) := by
  rw [show (255 : Int) = ((255 : Nat) : Int) from rfl, u32_and_nat _ _ hm (by omega), nat_mask8]

def tabl : List UInt8 := (List.range 256).map fun x => UInt8.ofNat (cnt 8 x.testBit)
theorem tab_at (T : ByteArray) (hT : T.data.toList = tabl) (a : Nat) (h : a < T.size) : ((T[a]'h).toNat : Int) = (cnt 8 a.testBit : Nat) := by
  have e : T[a] = T.data.toList[a]'(by simpa using h) := rfl
  have h2 : a < tabl.length := by rw [← hT]; simpa using h
  have e2 : T[a] = tabl[a] := by rw [e]; simp only [hT]
  rw [e2]
  simp only [tabl, List.getElem_map, List.getElem_range]
  have := cnt_le 8 a.testBit
  rw [UInt8.toNat_ofNat_of_lt' (by show _ < 256; omega)]
theorem cnt_add (k m : Nat) (F : Nat → Bool) : cnt (k + m) F = cnt k F + cnt m (fun i => F (k + i)) := by
  induction m with
  | zero => rfl
  | succ m ih => rw [← Nat.add_assoc]; simp only [cnt]; rw [ih]; omega
theorem cnt_congr {k : Nat} {F G : Nat → Bool} (h : ∀ i, i < k → F i = G i) : cnt k F = cnt k G := by
  induction k with
  | zero => rfl
  | succ k ih => simp only [cnt]; rw [ih (fun i hi => h i (by omega)), h k (by omega)]
theorem cnt_zero {k : Nat} {F : Nat → Bool} (h : ∀ i, i < k → F i = false) : cnt k F = 0 := by
  induction k with
  | zero => rfl
  | succ k ih => simp only [cnt]; rw [ih (fun i hi => h i (by omega)), h k (by omega)]; rfl
theorem pop_split (n : Nat) (hn : n < 134217728) : cnt 27 n.testBit = cnt 8 (n / 16777216).testBit + cnt 8 (n / 65536 % 256).testBit + cnt 8 (n / 256 % 256).testBit + cnt 8 (n % 256).testBit := by
  have h32 : cnt 32 n.testBit = cnt 27 n.testBit := by
    rw [show (32 : Nat) = 27 + 5 from rfl, cnt_add]
    rw [cnt_zero (k := 5) (F := fun i => n.testBit (27 + i)) (fun i _ => Nat.testBit_lt_two_pow (Nat.lt_of_lt_of_le hn (Nat.pow_le_pow_right (n := 2) (by omega) (by omega : 27 ≤ 27 + i))))]
    omega
  rw [← h32, show (32 : Nat) = 8 + (8 + (8 + 8)) from rfl, cnt_add, cnt_add, cnt_add]
  rw [cnt_congr (G := (n % 256).testBit) (F := n.testBit) (fun i hi => by rw [show (256 : Nat) = 2 ^ 8 from rfl, Nat.testBit_mod_two_pow]; simp [hi])]
  rw [cnt_congr (G := (n / 256 % 256).testBit) (F := fun i => n.testBit (8 + i)) (fun i hi => by rw [show n / 256 % 256 = n / 2 ^ 8 % 2 ^ 8 from rfl, Nat.testBit_mod_two_pow, Nat.testBit_div_two_pow]; simp [hi, Nat.add_comm])]
  rw [cnt_congr (G := (n / 65536 % 256).testBit) (F := fun i => n.testBit (8 + (8 + i))) (fun i hi => by rw [show n / 65536 % 256 = n / 2 ^ 16 % 2 ^ 8 from rfl, Nat.testBit_mod_two_pow, Nat.testBit_div_two_pow]; simp [hi]; congr 1; omega)]
  rw [cnt_congr (G := (n / 16777216).testBit) (F := fun i => n.testBit (8 + (8 + (8 + i)))) (fun i hi => by rw [show n / 16777216 = n / 2 ^ 24 from rfl, Nat.testBit_div_two_pow]; congr 1; omega)]
  omega

set_option maxRecDepth 100000 in
set_option maxHeartbeats 4000000 in
theorem popAny (n : Nat) (w : World) (hn : n < 134217728) : Calls Tryz.prog 76 #[.int .u32 n] w fun e w' => e = .returned (.int .i64 (cnt 27 n.testBit : Nat)) ∧ ∃ m, w' = w.drewN m := by
  have HN := Lib.hid (pop_split n hn)
  obtain ⟨a, ha⟩ : ∃ a : Nat, n / 16777216 = a := ⟨_, rfl⟩
  obtain ⟨b, hb⟩ : ∃ a : Nat, n / 65536 % 256 = a := ⟨_, rfl⟩
  obtain ⟨c, hc⟩ : ∃ a : Nat, n / 256 % 256 = a := ⟨_, rfl⟩
  obtain ⟨d, hd⟩ : ∃ a : Nat, n % 256 = a := ⟨_, rfl⟩
  have ea : (n : Int) / 16777216 = a := by omega
  have eb : bits .and .u32 ((n : Int) / 65536) 255 = b := by rw [show (n : Int) / 65536 = ((n / 65536 : Nat) : Int) by omega, mask8 _ (by omega), hb]
  have ec : bits .and .u32 ((n : Int) / 256) 255 = c := by rw [show (n : Int) / 256 = ((n / 256 : Nat) : Int) by omega, mask8 _ (by omega), hc]
  have ed : bits .and .u32 (n : Int) 255 = d := by rw [mask8 _ (by omega), hd]
  have la : (a : Int) < 256 := by omega
  have lb : (b : Int) < 256 := by omega
  have lc : (c : Int) < 256 := by omega
  have ld : (d : Int) < 256 := by omega
  have ka : (0 : Int) ≤ a := by omega
  have kb : (0 : Int) ≤ b := by omega
  have kc : (0 : Int) ≤ c := by omega
  have kd : (0 : Int) ≤ d := by omega
  have HA := Lib.hid ha
  have HB := Lib.hid hb
  have HC := Lib.hid hc
  have HD := Lib.hid hd
  clear ha hb hc hd
  go_enter Tryz.func76, Tryz.ntmps76
  go_wp2_with fail
  go_quiet (fail)
  go_wp2_with fail
  go_ret
  refine ⟨?_, _, rfl⟩
  refine congrArg (fun z : Int => Ending.returned (.int .i64 z)) ?_
  rw [HN.out, HA.out, HB.out, HC.out, HD.out, tab_at (a := a), tab_at (a := b), tab_at (a := c), tab_at (a := d)]
  · have h1 := cnt_le 8 a.testBit
    have h2 := cnt_le 8 b.testBit
    have h3 := cnt_le 8 c.testBit
    have h4 := cnt_le 8 d.testBit
    omega
  all_goals kernel_rfl
end Go.Proofs.YthmghadepimcnaaGreat

namespace Go.Proofs.YthmghadepimcnaaGreat
open Go.RowKit

theorem cnt_nb (F : Nat → Bool) : cnt 27 (nb 27 F).testBit = cnt 27 F := cnt_congr fun i hi => by rw [nb_bit]; simp [hi]

set_option maxHeartbeats 1000000 in
theorem implCountP_yes (p : ByteArray) (w : World) (hp : Set27 p) : Calls Tryz.prog 21 #[.string p] w fun e w' => e = .returned (.int .i64 (cnt 27 (hs p.data.toList))) ∧ Below w.heap.size w w' := by
  have C := fun w => Lib.hid (implRead_yes p w hp)
  have E := fun w => Lib.hid (popAny (nb 27 (hs p.data.toList)) w (nb_lt27 _))
  rw [cnt_nb] at E
  go_enter Tryz.func21, Tryz.ntmps21
  go_wp2_with fail
  refine (C _).out.mono ?_
  rintro e w' ⟨rfl, rfl⟩
  go_wp2_with fail
  refine (E _).out.mono ?_
  rintro e w1 ⟨rfl, m, rfl⟩
  go_wp2_with fail
  go_ret
  exact ⟨rfl, bdrewN (Below.refl _ _) m⟩
set_option maxHeartbeats 1000000 in
theorem implCountP_no (p : ByteArray) (w : World) (hp : ¬ Set27 p) : Calls Tryz.prog 21 #[.string p] w fun e w' => e = .returned (.int .i64 (-1)) ∧ Below w.heap.size w w' := by
  have C := fun w => Lib.hid (implRead_no p w hp)
  clear hp
  go_enter Tryz.func21, Tryz.ntmps21
  go_wp2_with fail
  refine (C _).out.mono ?_
  rintro e w' ⟨rfl, rfl⟩
  go_wp2_with fail
  go_ret
  exact ⟨rfl, Below.refl _ _⟩
end Go.Proofs.YthmghadepimcnaaGreat

namespace Go.Proofs.YthmghadepimcnaaGreat
open Go.RowKit

theorem hs_bs (F : Nat → Bool) (i : Nat) (hi : i < 27) : hs (bs (tb F)).data.toList i = F i := by
  rw [show (bs (tb F)).data.toList = tb F by simp [bs]]
  rw [show tb F = tbn 27 F from rfl, hs_tbn]
  simp [hi]
theorem bs_hs {p : ByteArray} (h : Set27 p) : bs (tb (hs p.data.toList)) = p := by
  rw [show tb (hs p.data.toList) = tbn 27 (hs p.data.toList) from rfl, tbn_hs h]
  exact ByteArray.ext (by simp [bs])
theorem bs_ext {F G : Nat → Bool} (h : ∀ i, i < 27 → F i = G i) : bs (tb F) = bs (tb G) := by rw [tb_congr h]
theorem set27_tb (F : Nat → Bool) : Set27 (bs (tb F)) := by
  unfold Set27
  rw [show (bs (tb F)).data.toList = tb F by simp [bs]]
  exact bits_tbn 27 F
theorem bs_inj {F G : Nat → Bool} (h : bs (tb F) = bs (tb G)) (i : Nat) (hi : i < 27) : F i = G i := by
  rw [← hs_bs F i hi, ← hs_bs G i hi, h]
theorem cnt_same {n : Nat} {F G : Nat → Bool} (h : ∀ i, i < n → F i = G i) : cnt n F = cnt n G := by
  induction n with
  | zero => rfl
  | succ n ih => unfold cnt; rw [ih (fun i hi => h i (by omega)), h n (by omega)]
theorem cnt_not (n : Nat) (F : Nat → Bool) : cnt n F + cnt n (fun i => !F i) = n := by
  induction n with
  | zero => rfl
  | succ n ih => unfold cnt; cases h : F n <;> simp [h] <;> omega
theorem cnt_and_or (n : Nat) (F G : Nat → Bool) : cnt n (fun i => F i && G i) + cnt n (fun i => F i || G i) = cnt n F + cnt n G := by
  induction n with
  | zero => rfl
  | succ n ih => unfold cnt; cases h : F n <;> cases h2 : G n <;> simp [h, h2] <;> omega
theorem cnt_nil {n : Nat} {F : Nat → Bool} : cnt n F = 0 ↔ ∀ i, i < n → F i = false := by
  induction n with
  | zero => exact ⟨fun _ i hi => by omega, fun _ => rfl⟩
  | succ n ih =>
    unfold cnt
    constructor
    · intro h i hi
      have h1 : cnt n F = 0 := by omega
      by_cases e : i = n
      · subst e; cases hF : F i <;> simp [hF] at h ⊢
      · exact ih.1 h1 i (by omega)
    · intro h
      rw [ih.2 (fun i hi => h i (by omega)), h n (by omega)]; rfl
theorem wi_congr {n : Nat} {F G F' G' : Nat → Bool} (h : ∀ i, i < n → F i = F' i) (h' : ∀ i, i < n → G i = G' i) : wi n F G = wi n F' G' := by
  rw [Bool.eq_iff_iff, wi_iff, wi_iff]
  exact ⟨fun k i hi => by rw [← h i hi, ← h' i hi]; exact k i hi, fun k i hi => by rw [h i hi, h' i hi]; exact k i hi⟩
theorem wi_not (n : Nat) (F G : Nat → Bool) : wi n (fun i => !G i) (fun i => !F i) = wi n F G := by
  rw [Bool.eq_iff_iff, wi_iff, wi_iff]
  exact ⟨fun k i hi => by have := k i hi; cases h : F i <;> cases h2 : G i <;> simp_all, fun k i hi => by have := k i hi; cases h : F i <;> cases h2 : G i <;> simp_all⟩
end Go.Proofs.YthmghadepimcnaaGreat

namespace Go.Proofs.YthmghadepimcnaaGreat
open Go.RowKit

set_option maxHeartbeats 1000000 in
theorem ppNot_of (p q : ByteArray) (b : Bool) (C : ∀ w, Hid (Calls Tryz.prog 72 #[.string p] w fun e w' => e = .returned (.tuple #[.string q, .bool b]) ∧ Below w.heap.size w w')) (w : World) :
    Calls Tryz.prog 17 #[.string p] w fun e w' => e = .returned (.string q) ∧ Below w.heap.size w w' := by
  go_enter Tryz.func17, Tryz.ntmps17
  go_wp2_with fail
  refine (C _).out.mono ?_
  rintro e w1 ⟨rfl, hb⟩
  have HB := Lib.hid hb
  clear hb
  go_wp2_with fail
  go_ret
  exact ⟨rfl, HB.out⟩
set_option maxHeartbeats 1000000 in
theorem ppAnd_of (p p2 q : ByteArray) (b : Bool) (C : ∀ w, Hid (Calls Tryz.prog 74 #[.string p, .string p2] w fun e w' => e = .returned (.tuple #[.string q, .bool b]) ∧ Below w.heap.size w w')) (w : World) :
    Calls Tryz.prog 19 #[.string p, .string p2] w fun e w' => e = .returned (.string q) ∧ Below w.heap.size w w' := by
  go_enter Tryz.func19, Tryz.ntmps19
  go_wp2_with fail
  refine (C _).out.mono ?_
  rintro e w1 ⟨rfl, hb⟩
  have HB := Lib.hid hb
  clear hb
  go_wp2_with fail
  go_ret
  exact ⟨rfl, HB.out⟩
set_option maxHeartbeats 1000000 in
theorem ppOr_of (p p2 q : ByteArray) (b : Bool) (C : ∀ w, Hid (Calls Tryz.prog 84 #[.string p, .string p2] w fun e w' => e = .returned (.tuple #[.string q, .bool b]) ∧ Below w.heap.size w w')) (w : World) :
    Calls Tryz.prog 32 #[.string p, .string p2] w fun e w' => e = .returned (.string q) ∧ Below w.heap.size w w' := by
  go_enter Tryz.func32, Tryz.ntmps32
  go_wp2_with fail
  refine (C _).out.mono ?_
  rintro e w1 ⟨rfl, hb⟩
  have HB := Lib.hid hb
  clear hb
  go_wp2_with fail
  go_ret
  exact ⟨rfl, HB.out⟩
set_option maxHeartbeats 1000000 in
theorem ppSet_of (p q : ByteArray) (b : Bool) (C : ∀ w, Hid (Calls Tryz.prog 73 #[.string p] w fun e w' => e = .returned (.tuple #[.string q, .bool b]) ∧ Below w.heap.size w w')) (w : World) :
    Calls Tryz.prog 18 #[.string p] w fun e w' => e = .returned (.string q) ∧ Below w.heap.size w w' := by
  go_enter Tryz.func18, Tryz.ntmps18
  go_wp2_with fail
  refine (C _).out.mono ?_
  rintro e w1 ⟨rfl, hb⟩
  have HB := Lib.hid hb
  clear hb
  go_wp2_with fail
  go_ret
  exact ⟨rfl, HB.out⟩
end Go.Proofs.YthmghadepimcnaaGreat

namespace Go.Proofs.YthmghadepimcnaaGreat
open Go.RowKit

set_option maxHeartbeats 1000000 in
theorem ppFree_of (p p2 q : ByteArray) (b : Bool) (C : ∀ w, Hid (Calls Tryz.prog 29 #[.string p, .string p2] w fun e w' => e = .returned (.tuple #[.string q, .bool b]) ∧ Below w.heap.size w w')) (w : World) :
    Calls Tryz.prog 20 #[.string p, .string p2] w fun e w' => e = .returned (.string q) ∧ Below w.heap.size w w' := by
  go_enter Tryz.func20, Tryz.ntmps20
  go_wp2_with fail
  refine (C _).out.mono ?_
  rintro e w1 ⟨rfl, hb⟩
  have HB := Lib.hid hb
  clear hb
  go_wp2_with fail
  go_ret
  exact ⟨rfl, HB.out⟩
set_option maxHeartbeats 1000000 in
theorem ppPost_of (p p2 q : ByteArray) (b : Bool) (C : ∀ w, Hid (Calls Tryz.prog 58 #[.string p, .string p2] w fun e w' => e = .returned (.tuple #[.string q, .bool b]) ∧ Below w.heap.size w w')) (w : World) :
    Calls Tryz.prog 51 #[.string p, .string p2] w fun e w' => e = .returned (.string q) ∧ Below w.heap.size w w' := by
  go_enter Tryz.func51, Tryz.ntmps51
  go_wp2_with fail
  refine (C _).out.mono ?_
  rintro e w1 ⟨rfl, hb⟩
  have HB := Lib.hid hb
  clear hb
  go_wp2_with fail
  go_ret
  exact ⟨rfl, HB.out⟩
set_option maxHeartbeats 1000000 in
theorem ppFinals_of (p q : ByteArray) (x y z : Int) (lo bl b : Bool) (C : ∀ w, Hid (Calls Tryz.prog 109 #[.string p, .agg #[.int .i64 x, .int .i64 y, .int .i64 z]] w fun e w' => e = .returned (.tuple #[.agg #[.string q, .bool lo, .bool bl], .bool b]) ∧ Below w.heap.size w w')) (w : World) :
    Calls Tryz.prog 57 #[.string p, .agg #[.int .i64 x, .int .i64 y, .int .i64 z]] w fun e w' => e = .returned (.string q) ∧ Below w.heap.size w w' := by
  go_enter Tryz.func57, Tryz.ntmps57
  go_wp2_with fail
  refine (C _).out.mono ?_
  rintro e w1 ⟨rfl, hb⟩
  have HB := Lib.hid hb
  clear hb
  go_wp2_with fail
  go_ret
  have HK := bnext ((Below.refl _ w).alloc (Nat.le_refl _) _) HB.out
  exact ⟨rfl, HK.alloc HK.size _⟩
end Go.Proofs.YthmghadepimcnaaGreat

namespace Go.Proofs.YthmghadepimcnaaGreat
open Go.RowKit Tm

set_option maxHeartbeats 1000000 in
theorem implPredOf_yes (s : ByteArray) (w : World) {t : Tm} (ht : Ok false true t) (he : s.data.toList = t.ser) (hl : s.size ≤ 200) :
    Calls Tryz.prog 73 #[.string s] w fun e w' => e = .returned (.tuple #[.string (bs (tb (tst t))), .bool true]) ∧ Below w.heap.size w w' := by
  have HC := fun w => Lib.hid (read_yes true s w ht he hl)
  have HX := fun w => Lib.hid (implText (tst t) w)
  clear he
  go_enter Tryz.func73, Tryz.ntmps73
  go_wp2_with fail
  refine (HC _).out.mono ?_
  rintro e w1 ⟨xc, ya, yn, ym, rfl, hr, hb⟩
  have HB := Lib.hid (bput hb (.cells #[.int .u8 xc, .slice ya yn ym] 96))
  have HR := Lib.hid (hr.below ((Below.refl _ w1).alloc (Nat.le_refl _) (.cells #[.int .u8 xc, .slice ya yn ym] 96)))
  clear hb hr
  go_wp2_with fail
  refine (implStates t w.heap.size xc ya yn ym _ ht HR.out).mono ?_
  rintro e w2 ⟨rfl, hb⟩
  have HB2 := Lib.hid (bnext HB.out hb)
  clear hb
  go_wp2_with fail
  refine (HX _).out.mono ?_
  rintro e w3 ⟨rfl, hb⟩
  have HB3 := Lib.hid (bnext HB2.out hb)
  clear hb
  go_wp2_with fail
  go_ret2
  exact ⟨rfl, HB3.out⟩

set_option maxHeartbeats 1000000 in
theorem implPredOf_no (s : ByteArray) (w : World) (h : ¬ (Valid false true s.data.toList ∧ s.size ≤ 200)) :
    Calls Tryz.prog 73 #[.string s] w fun e w' => e = .returned (.tuple #[.string (bs []), .bool false]) ∧ Below w.heap.size w w' := by
  have HC := fun w => Lib.hid (read_no true s w h)
  clear h
  go_enter Tryz.func73, Tryz.ntmps73
  go_wp2_with fail
  refine (HC _).out.mono ?_
  rintro e w1 ⟨rfl, hb⟩
  have HB := Lib.hid (bput hb (.cells #[.int .u8 0, .slice none 0 0] 96))
  clear hb
  go_wp2_with fail
  go_ret2
  exact ⟨rfl, HB.out⟩

end Go.Proofs.YthmghadepimcnaaGreat

namespace Go.Proofs.YthmghadepimcnaaGreat
open Go.RowKit Tm

theorem ppAll (w : World) : Calls Tryz.prog 18 #[.string ⟨#[116]⟩] w fun e w' => e = .returned (.string (bs (tb fun _ => true))) ∧ Below w.heap.size w w' := by
  have h := ppSet_of ⟨#[116]⟩ _ true (fun w => Lib.hid (implPredOf_yes ⟨#[116]⟩ w (t := .leaf 116) (by rfl) rfl (by decide))) w
  rw [show bs (tb (tst (.leaf 116))) = bs (tb fun _ => true) from bs_ext fun i _ => rfl] at h
  exact h
end Go.Proofs.YthmghadepimcnaaGreat

namespace Go.Proofs.YthmghadepimcnaaGreat
open Go.RowKit Tm Go.Great Classical

theorem fin_any (M : Mdl) : ∀ (p : Pg) (i : Nat), ¬ Lps M p i → ¬ Stk M p i → ∃ j, Fin M p i j
  | .skip, i, _, _ => ⟨i, rfl⟩
  | .asg v e, i, _, _ => ⟨M.a v e i, rfl⟩
  | .seq p q, i, hL, hK => by
    obtain ⟨m, hm⟩ := fin_any M p i (fun h => hL (.inl h)) (fun h => hK (.inl h))
    obtain ⟨j, hj⟩ := fin_any M q m (fun h => hL (.inr ⟨m, hm, h⟩)) (fun h => hK (.inr ⟨m, hm, h⟩))
    exact ⟨j, m, hm, hj⟩
  | .ite t p q, i, hL, hK => by
    have hL' : ¬ (if M.t t i = true then Lps M p i else Lps M q i) := hL
    have hK' : ¬ (if M.t t i = true then Stk M p i else Stk M q i) := hK
    have e : ∀ j, Fin M (.ite t p q) i j ↔ if M.t t i = true then Fin M p i j else Fin M q i j := fun j => Iff.rfl
    by_cases h : M.t t i = true
    · rw [if_pos h] at hL' hK'
      obtain ⟨j, hj⟩ := fin_any M p i hL' hK'
      exact ⟨j, (e j).2 (by rw [if_pos h]; exact hj)⟩
    · rw [if_neg h] at hL' hK'
      obtain ⟨j, hj⟩ := fin_any M q i hL' hK'
      exact ⟨j, (e j).2 (by rw [if_neg h]; exact hj)⟩
  | .whl t p, i, hL, hK => by
    refine Classical.byContradiction fun hn => ?_
    have key : ∀ u, Star (fun u v => M.t t u = true ∧ Fin M p u v) i u → M.t t u = true := by
      intro u hu
      cases h : M.t t u
      · exact absurd ⟨u, hu, h⟩ hn
      · rfl
    refine hL ⟨i, .refl _, key i (.refl _), .inr ⟨Star (fun u v => M.t t u = true ∧ Fin M p u v) i, .refl _, fun u hu => ⟨key u hu, ?_⟩⟩⟩
    obtain ⟨v, hv⟩ := fin_any M p u (fun h => hL ⟨u, hu, key u hu, .inl h⟩) (fun h => hK ⟨u, hu, key u hu, h⟩)
    exact ⟨v, hv, hu.tail ⟨key u hu, hv⟩⟩
  | .cho p q, i, hL, hK => by
    obtain ⟨j, hj⟩ := fin_any M p i (fun h => hL (.inl h)) (fun h => hK (.inl h))
    exact ⟨j, .inl hj⟩
  | .asm t, i, hL, hK => by
    have hK' : ¬ M.t t i = false := hK
    exact ⟨i, by simpa using hK', rfl⟩

theorem hs_all (i : Nat) (hi : i < 27) : hs (bs (tb fun _ => true)).data.toList i = true := hs_bs _ i hi
theorem wF_all {p : Pg} {i : Nat} : wF p (fun _ => true) i = true := wF_iff.2 fun _ _ => rfl
theorem wT_congr {p : Pg} (hp : p.ok false) {F G : Nat → Bool} (h : ∀ i, i < 27 → F i = G i) {i : Nat} (hi : i < 27) : wT p F i = wT p G i := by
  unfold wT
  rw [wF_congr hp h hi]
theorem wT_all {p : Pg} {i : Nat} : wT p (fun _ => true) i = (!rL p i && !rK p i) := by
  unfold wT
  rw [wF_all, Bool.and_true]
theorem wT_none {p : Pg} {i : Nat} : wT p (fun _ => false) i = false := by
  unfold wT
  cases hL : rL p i
  · cases hK : rK p i
    · have h1 : ¬ Lps mdl p i := by unfold rL at hL; simpa using hL
      have h2 : ¬ Stk mdl p i := by unfold rK at hK; simpa using hK
      obtain ⟨j, hj⟩ := fin_any mdl p i h1 h2
      cases h : wF p (fun _ => false) i
      · rfl
      · have := wF_iff.1 h j hj
        cases this
    · rfl
  · rfl
theorem wtot_facts {p : Pg} (hp : p.ok false) (q : ByteArray) : ∃ (W S N Fr T E : ByteArray), Set27 S ∧ Set27 N ∧ Set27 Fr ∧ Set27 T ∧ Set27 E ∧ bs (tb (wT p (hs q.data.toList))) = W ∧ bs (tb (fun i => !rL p i && !rK p i)) = S ∧ bs (tb (fun _ => true)) = T ∧ bs (tb (fun i => !hs T.data.toList i)) = E ∧
    bs (tb (wT p (hs E.data.toList))) = N ∧ bs (tb (wT p (hs T.data.toList))) = S ∧ bs (tb (wF p (hs q.data.toList))) = Fr ∧ bs (tb (fun i => hs Fr.data.toList i && hs S.data.toList i)) = W ∧ cnt 27 (hs N.data.toList) = 0 := by
  refine ⟨_, _, _, _, _, _, set27_tb _, set27_tb _, set27_tb _, set27_tb _, set27_tb _, rfl, rfl, rfl, rfl, rfl, ?_, rfl, ?_, ?_⟩
  · exact bs_ext fun i hi => by rw [wT_congr hp (G := fun _ => true) hs_all hi, wT_all]
  · refine bs_ext fun i hi => ?_
    rw [hs_bs _ i hi, hs_bs _ i hi]
    unfold wT
    rw [Bool.and_comm]
  · rw [cnt_nil]
    intro i hi
    rw [hs_bs _ i hi, wT_congr hp (G := fun _ => false) (fun j hj => by rw [hs_bs _ j hj, hs_all j hj]; rfl) hi, wT_none]
end Go.Proofs.YthmghadepimcnaaGreat

namespace Go.Proofs.YthmghadepimcnaaGreat
open Go.RowKit Tm Go.Great Classical

theorem rT_i {p : Pg} {i j : Nat} : rT p i j = true ↔ Fin mdl p i j := by unfold rT; exact decide_eq_true_iff
theorem poS_iff {p : Pg} {S : Nat → Bool} {j : Nat} : poS p S j = true ↔ ∃ i, i < 27 ∧ S i = true ∧ Fin mdl p i j := by
  unfold poS
  rw [upto_iff]
  exact ⟨fun ⟨i, hi, h⟩ => by rw [Bool.and_eq_true, rT_i] at h; exact ⟨i, hi, h⟩, fun ⟨i, hi, h⟩ => ⟨i, hi, by rw [Bool.and_eq_true, rT_i]; exact h⟩⟩
/-- A set lies within the weakest one exactly if its final states lie within the other one. -/
theorem adj {p : Pg} (hp : p.ok false) (S F : Nat → Bool) : wi 27 S (wF p F) = wi 27 (poS p S) F := by
  rw [Bool.eq_iff_iff, wi_iff, wi_iff]
  constructor
  · intro h j _ hj
    obtain ⟨i, hi, h1, h2⟩ := poS_iff.1 hj
    exact wF_iff.1 (h i hi h1) j h2
  · intro h i hi h1
    exact wF_iff.2 fun j hj => h j (fin_lt hp hi hj) (poS_iff.2 ⟨i, hi, h1, hj⟩)
theorem free_one {p : Pg} (hp : p.ok false) (F : Nat → Bool) {i : Nat} (hi : i < 27) : wF p F i = wi 27 (rT p i) F := by
  rw [Bool.eq_iff_iff, wi_iff, wF_iff]
  exact ⟨fun h j _ hj => h j (rT_i.1 hj), fun h j hj => h j (fin_lt hp hi hj) (rT_i.2 hj)⟩
theorem poS_congr {p : Pg} {S S' : Nat → Bool} (h : ∀ i, i < 27 → S i = S' i) (j : Nat) : poS p S j = poS p S' j := by
  rw [Bool.eq_iff_iff, poS_iff, poS_iff]
  exact ⟨fun ⟨i, hi, h1, h2⟩ => ⟨i, hi, by rw [← h i hi]; exact h1, h2⟩, fun ⟨i, hi, h1, h2⟩ => ⟨i, hi, by rw [h i hi]; exact h1, h2⟩⟩
theorem poS_or {p : Pg} {S S' : Nat → Bool} (j : Nat) : poS p (fun i => S i || S' i) j = (poS p S j || poS p S' j) := by
  rw [Bool.eq_iff_iff, Bool.or_eq_true, poS_iff, poS_iff, poS_iff]
  constructor
  · rintro ⟨i, hi, h1, h2⟩
    rw [Bool.or_eq_true] at h1
    exact h1.elim (fun h => .inl ⟨i, hi, h, h2⟩) (fun h => .inr ⟨i, hi, h, h2⟩)
  · rintro (⟨i, hi, h1, h2⟩ | ⟨i, hi, h1, h2⟩)
    · exact ⟨i, hi, by rw [h1]; rfl, h2⟩
    · exact ⟨i, hi, by rw [h1, Bool.or_true], h2⟩
theorem wF_and {p : Pg} {F G : Nat → Bool} {i : Nat} : wF p (fun j => F j && G j) i = (wF p F i && wF p G i) := by
  rw [Bool.eq_iff_iff, Bool.and_eq_true, wF_iff, wF_iff, wF_iff]
  constructor
  · intro h
    exact ⟨fun j hj => ((Bool.and_eq_true _ _).mp (h j hj)).1, fun j hj => ((Bool.and_eq_true _ _).mp (h j hj)).2⟩
  · rintro ⟨h1, h2⟩ j hj
    rw [h1 j hj, h2 j hj]; rfl
/-- The weakest set of a loop is kept by it, and what leaves it is in the other set. -/
theorem whl_kept (t : Tm) (p : Pg) (F : Nat → Bool) : kpS t p (wF (.whl t p) F) = true := by
  unfold kpS
  rw [wi_iff]
  intro i hi h
  rw [Bool.and_eq_true] at h
  exact wF_iff.2 fun m hm => wF_iff.2 fun j hj => wF_iff.1 h.1 j ⟨.head ⟨h.2, hm⟩ hj.1, hj.2⟩
theorem whl_out {t : Tm} {p : Pg} {F : Nat → Bool} {i : Nat} (h : wF (.whl t p) F i = true) (ht : tst t i = false) : F i = true := wF_iff.1 h i ⟨.refl i, ht⟩
theorem kpS_congr {t : Tm} {p : Pg} (hp : p.ok false) {F G : Nat → Bool} (h : ∀ i, i < 27 → F i = G i) : kpS t p F = kpS t p G := by
  unfold kpS
  exact wi_congr (fun i hi => by rw [h i hi]) fun i hi => wF_congr hp h hi
theorem kpS_iff {t : Tm} {p : Pg} {F : Nat → Bool} : kpS t p F = true ↔ ∀ i, i < 27 → F i = true → tst t i = true → ∀ j, Fin mdl p i j → F j = true := by
  unfold kpS
  rw [wi_iff]
  exact ⟨fun h i hi h1 h2 => wF_iff.1 (h i hi (by rw [h1, h2]; rfl)), fun h i hi h1 => by rw [Bool.and_eq_true] at h1; exact wF_iff.2 (h i hi h1.1 h1.2)⟩
theorem kpS_star {t : Tm} {p : Pg} (_hp : p.ok false) {F : Nat → Bool} (h : kpS t p F = true) {i j : Nat} (hi : i < 27) (hF : F i = true) (hs : Star (HR (tst t) (rT p)) i j) : F j = true := by
  induction hs with
  | refl => exact hF
  | head hr _ ih => exact ih hr.2.1 (kpS_iff.1 h _ hr.1 hF hr.2.2.1 _ (rT_i.1 hr.2.2.2))
theorem kpS_heads {t : Tm} {p : Pg} (hp : p.ok false) {F : Nat → Bool} : kpS t p F = true ↔ ∀ i, i < 27 → F i = true → wi 27 (hdS (tst t) (rT p) i) F = true := by
  constructor
  · intro h i hi hF
    rw [wi_iff]
    exact fun j _ hj => kpS_star hp h hi hF (hdS_iff.1 hj)
  · intro h
    rw [kpS_iff]
    intro i hi hF ht j hj
    have h1 := h i hi hF
    rw [wi_iff] at h1
    have hj27 := fin_lt hp hi hj
    exact h1 j hj27 (hdS_iff.2 (Star.one ⟨hi, hj27, ht, rT_i.2 hj⟩))
theorem kpS_post {t : Tm} {p : Pg} (hp : p.ok false) (F : Nat → Bool) : kpS t p F = wi 27 (poS p (fun i => F i && tst t i)) F := adj hp _ _
theorem st_kept {t : Tm} {p : Pg} (hp : p.ok false) (S : Nat → Bool) : kpS t p (stS (tst t) (rT p) S) = true := by
  rw [kpS_iff]
  intro i hi h ht j hj
  obtain ⟨q, hq, h1, h2⟩ := stS_iff.1 h
  exact stS_iff.2 ⟨q, hq, h1, h2.tail ⟨hi, fin_lt hp hi hj, ht, rT_i.2 hj⟩⟩
theorem st_in {F : Nat → Bool} {B : Nat → Nat → Bool} {S : Nat → Bool} {j : Nat} (hj : j < 27) (h : S j = true) : stS F B S j = true := stS_iff.2 ⟨j, hj, h, .refl _⟩
theorem st_st {F : Nat → Bool} {B : Nat → Nat → Bool} {S : Nat → Bool} {j : Nat} : stS F B (stS F B S) j = stS F B S j := by
  rw [Bool.eq_iff_iff, stS_iff]
  constructor
  · rintro ⟨q, hq, h1, h2⟩
    obtain ⟨r, hr, h3, h4⟩ := stS_iff.1 h1
    exact stS_iff.2 ⟨r, hr, h3, h4.trans h2⟩
  · intro h
    obtain ⟨r, hr, h3, h4⟩ := stS_iff.1 h
    have hj : j < 27 := by
      clear h h3
      induction h4 with
      | refl => exact hr
      | head hr2 _ ih => exact ih hr2.2.1
    exact ⟨j, hj, h, .refl _⟩
theorem st_congr {F : Nat → Bool} {B : Nat → Nat → Bool} {S S' : Nat → Bool} (h : ∀ i, i < 27 → S i = S' i) (j : Nat) : stS F B S j = stS F B S' j := by
  rw [Bool.eq_iff_iff, stS_iff, stS_iff]
  exact ⟨fun ⟨q, hq, h1, h2⟩ => ⟨q, hq, by rw [← h q hq]; exact h1, h2⟩, fun ⟨q, hq, h1, h2⟩ => ⟨q, hq, by rw [h q hq]; exact h1, h2⟩⟩
/-- The strongest invariant lies within the weakest one exactly if the triple holds. -/
theorem st_weak {t : Tm} {p : Pg} (hp : p.ok false) (S F : Nat → Bool) : wi 27 S (wF (.whl t p) F) = wi 27 (stS (tst t) (rT p) S) (wF (.whl t p) F) := by
  rw [Bool.eq_iff_iff, wi_iff, wi_iff]
  constructor
  · intro h j hj hs
    obtain ⟨q, hq, h1, h2⟩ := stS_iff.1 hs
    exact kpS_star hp (whl_kept t p F) hq (h q hq h1) h2
  · exact fun h i hi hS => h i hi (st_in hi hS)
/-- A kept set lies between the strongest and the weakest invariant exactly if it proves the loop. -/
theorem inv_eq {t : Tm} {p : Pg} (hp : p.ok false) (S I F : Nat → Bool) : (kpS t p I && wi 27 S I && wi 27 (fun i => I i && !tst t i) F) = (wi 27 (stS (tst t) (rT p) S) I && wi 27 I (wF (.whl t p) F) && kpS t p I) := by
  cases hk : kpS t p I
  · simp
  · rw [Bool.true_and, Bool.and_true, Bool.eq_iff_iff, Bool.and_eq_true, Bool.and_eq_true, wi_iff, wi_iff, wi_iff, wi_iff]
    constructor
    · rintro ⟨h1, h2⟩
      refine ⟨fun j hj hs => ?_, fun i hi hI => ?_⟩
      · obtain ⟨q, hq, h3, h4⟩ := stS_iff.1 hs
        exact kpS_star hp hk hq (h1 q hq h3) h4
      · rw [wF_iff]
        rintro j ⟨hs, hj⟩
        have hs2 := (star_hr hp hi).2 hs
        have hIj := kpS_star hp hk hi hI hs2
        have hj27 : j < 27 := by
          clear hIj hs hj
          induction hs2 with
          | refl => exact hi
          | head hr2 _ ih => exact ih hr2.2.1 (kpS_iff.1 hk _ hr2.1 hI hr2.2.2.1 _ (rT_i.1 hr2.2.2.2))
        have hj' : tst t j = false := hj
        exact h2 j hj27 (by rw [hIj, hj']; rfl)
    · rintro ⟨h1, h2⟩
      refine ⟨fun i hi hS => h1 i hi (st_in hi hS), fun i hi h => ?_⟩
      rw [Bool.and_eq_true, Bool.not_eq_true'] at h
      exact whl_out (h2 i hi h.1) h.2
theorem wi_refl (n : Nat) (F : Nat → Bool) : wi n F F = true := by rw [wi_iff]; exact fun _ _ h => h
end Go.Proofs.YthmghadepimcnaaGreat

namespace Go.Proofs.YthmghadepimcnaaGreat
open Go.RowKit

theorem IsRow.kept {w w' : World} {a : Option Addr} {len cap : Nat} {zs : List Int} (h : IsRow w a len cap zs) (hb : Below w.heap.size w w') : IsRow w' a len cap zs := by
  rcases h with h | ⟨x, rfl, hl, hm, hz, hc, hw⟩
  · exact .inl h
  · exact .inr ⟨x, rfl, hl, hm, hz, fun i hi => by
      have h1 := hc i hi
      have hlt := World.block_lt_of_cell? w _ h1
      exact (hb.cell hlt).trans h1, hw⟩
set_option maxRecDepth 100000 in
set_option maxHeartbeats 4000000 in
theorem dPostOf {ar : Option Addr} {len cap : Nat} {zs : List Int} {w : World} (h : IsRow w ar len cap zs) :
    Calls Tryz.prog 28 #[.slice ar len cap] w fun e w' => ∃ t v : ByteArray, t.size ≤ 153 ∧ v.size ≤ 28 ∧ e = .returned (.tuple #[.string t, .string v]) ∧ Below w.heap.size w w' := by
  have HO := Lib.hid (open_any h)
  clear h
  go_enter Tryz.func28, Tryz.ntmps28
  go_wp2_with fail
  refine HO.out.mono ?_
  rintro e w1 ⟨rfl, hr, hb⟩
  have HW1 := Lib.hid hb
  have HR1 := Lib.hid hr
  have HK1 := Lib.hid (Kp.refl w.heap.size w1)
  clear hr hb HO
  have HC := Lib.hid (open3 HR1.out (by omega))
  go_wp2_with fail
  refine HC.out.mono ?_
  rintro e w2 ⟨t, q1, t1, t2, hq1, rfl, hr, hk⟩
  have HR2 := Lib.hid hr
  have HK2 := Lib.hid (HK1.out.trans hk)
  clear hr hk HC
  have HC := Lib.hid (open2_any HR2.out (by omega))
  go_wp2_with fail
  refine HC.out.mono ?_
  rintro e w3 ⟨v, q2, v1, v2, hq2, rfl, hr, hk⟩
  have HR3 := Lib.hid hr
  have HK3 := Lib.hid (HK2.out.trans hk)
  clear hr hk HC
  go_wp2_with fail
  go_ret2
  exact ⟨t, v, by omega, by omega, rfl, HW1.out.trans (HK3.out.below (Nat.le_refl _) HW1.out.size)⟩
set_option maxHeartbeats 1000000 in
theorem dWeakFree {ar : Option Addr} {len cap : Nat} {zs : List Int} {w : World} (h : IsRow w ar len cap zs) :
    Calls Tryz.prog 27 #[.slice ar len cap] w fun e w' => ∃ t v : ByteArray, t.size ≤ 153 ∧ v.size ≤ 28 ∧ e = .returned (.tuple #[.string t, .string v]) ∧ Below w.heap.size w w' := by
  have HO := Lib.hid (dPostOf h)
  clear h
  go_enter Tryz.func27, Tryz.ntmps27
  go_wp2_with fail
  refine HO.out.mono ?_
  rintro e w1 ⟨t, v, ht, hv, rfl, hb⟩
  have HW1 := Lib.hid hb
  clear hb HO
  go_wp2_with fail
  go_ret2
  exact ⟨t, v, ht, hv, rfl, HW1.out⟩
set_option maxHeartbeats 1000000 in
theorem dWeakTotal {ar : Option Addr} {len cap : Nat} {zs : List Int} {w : World} (h : IsRow w ar len cap zs) :
    Calls Tryz.prog 13 #[.slice ar len cap] w fun e w' => ∃ t v : ByteArray, t.size ≤ 153 ∧ v.size ≤ 28 ∧ e = .returned (.tuple #[.string t, .string v]) ∧ Below w.heap.size w w' := by
  have HO := Lib.hid (dPostOf h)
  clear h
  go_enter Tryz.func13, Tryz.ntmps13
  go_wp2_with fail
  refine HO.out.mono ?_
  rintro e w1 ⟨t, v, ht, hv, rfl, hb⟩
  have HW1 := Lib.hid hb
  clear hb HO
  go_wp2_with fail
  go_ret2
  exact ⟨t, v, ht, hv, rfl, HW1.out⟩
set_option maxRecDepth 100000 in
set_option maxHeartbeats 8000000 in
theorem body5 {a p : Nat} {w : World} (hr : Rd a p w) (hp : p ≤ 100000) :
    Calls Tryz.prog 87 #[.pointer (some ⟨a, 0, none⟩)] w fun e w' => ∃ (t b : ByteArray) (q : Nat), t.size ≤ 40 ∧ b.size ≤ 153 ∧ q ≤ p + 1000 ∧ e = .returned (.tuple #[.string t, .string b]) ∧ Rd a q w' ∧ Kp a w w' := by
  have HR0 := Lib.hid hr
  have HK0 := Lib.hid (Kp.refl a w)
  clear hr
  go_enter Tryz.func87, Tryz.ntmps87
  have HC := Lib.hid (dT_1 ⟨#[120, 121, 122]⟩ (by decide) (by decide) HR0.out (by omega))
  go_wp2_with fail
  refine HC.out.mono ?_
  rintro e w1 ⟨t0, q1, t1, t2, hq1, rfl, hr, hk⟩
  have HR1 := Lib.hid hr
  have HK1 := Lib.hid (HK0.out.trans hk)
  clear hr hk HC
  have HC := Lib.hid (bad_any t0 t1 (by omega) HR1.out (by omega))
  go_wp2_with fail
  refine HC.out.mono ?_
  rintro e w2 ⟨t, q2, u1, u2, hq2, rfl, hr, hk⟩
  have HR2 := Lib.hid hr
  have HK2 := Lib.hid (HK1.out.trans hk)
  clear hr hk HC
  have C := Lib.hid (pick_any 2 HR2.out (by omega) (by omega) (by omega))
  go_wp2_with fail
  refine C.out.mono ?_
  rintro e w3 ⟨k, k0, k1, rfl, hr, hk⟩
  have HR3 := Lib.hid hr
  have HK3 := Lib.hid (HK2.out.trans hk)
  clear hr hk C
  by_cases e0 : k = 0
  · subst e0
    have HC := Lib.hid (dP_1 ⟨#[120, 121, 122]⟩ (by decide) (by decide) true HR3.out (by omega))
    go_wp2_with fail
    refine HC.out.mono ?_
    rintro e w4 ⟨b0, q4, b1, b2, hq4, rfl, hr, hk⟩
    have HR4 := Lib.hid hr
    have HK4 := Lib.hid (HK3.out.trans hk)
    clear hr hk HC
    have HC := Lib.hid (bad3 b0 b1 (by omega) HR4.out (by omega))
    go_wp2_with fail
    refine HC.out.mono ?_
    rintro e w5 ⟨b, q5, c1, c2, hq5, rfl, hr, hk⟩
    have HR5 := Lib.hid hr
    have HK5 := Lib.hid (HK4.out.trans hk)
    clear hr hk HC
    go_wp2_with fail
    go_ret2
    exact ⟨t, b, q5, by omega, by omega, by omega, rfl, HR5.out, HK5.out⟩
  · have g0 : (k == 0) = false := by rw [beq_eq_false_iff_ne]; exact e0
    clear e0
    have C := Lib.hid (pick_any 2 HR3.out (by omega) (by omega) (by omega))
    go_wp2_with fail
    refine C.out.mono ?_
    rintro e w4 ⟨j, j0, j1, rfl, hr, hk⟩
    have HR4 := Lib.hid hr
    have HK4 := Lib.hid (HK3.out.trans hk)
    clear hr hk C
    have ew : IntKind.i64.wrap (1 + j) = 1 + j := IntWalk.i64_in _ (by omega)
    have HC := Lib.hid (dP_any ⟨#[120, 121, 122]⟩ (by decide) (by decide) false (1 + j) (by omega) (by omega) HR4.out (by omega))
    go_wp2_with fail
    refine HC.out.mono ?_
    rintro e w5 ⟨b0, q5, b1, b2, hq5, rfl, hr, hk⟩
    have HR5 := Lib.hid hr
    have HK5 := Lib.hid (HK4.out.trans hk)
    clear hr hk HC
    have HC := Lib.hid (bad3 b0 b1 (by omega) HR5.out (by omega))
    go_wp2_with fail
    refine HC.out.mono ?_
    rintro e w6 ⟨b, q6, c1, c2, hq6, rfl, hr, hk⟩
    have HR6 := Lib.hid hr
    have HK6 := Lib.hid (HK5.out.trans hk)
    clear hr hk HC
    go_wp2_with fail
    go_ret2
    exact ⟨t, b, q6, by omega, by omega, by omega, rfl, HR6.out, HK6.out⟩
set_option maxRecDepth 100000 in
set_option maxHeartbeats 4000000 in
theorem dWeakInv {ar : Option Addr} {len cap : Nat} {zs : List Int} {w : World} (h : IsRow w ar len cap zs) :
    Calls Tryz.prog 34 #[.slice ar len cap] w fun e w' => ∃ t b v : ByteArray, t.size ≤ 40 ∧ b.size ≤ 153 ∧ v.size ≤ 28 ∧ e = .returned (.tuple #[.string t, .string b, .string v]) ∧ Below w.heap.size w w' := by
  have HO := Lib.hid (open_any h)
  clear h
  go_enter Tryz.func34, Tryz.ntmps34
  go_wp2_with fail
  refine HO.out.mono ?_
  rintro e w1 ⟨rfl, hr, hb⟩
  have HW1 := Lib.hid hb
  have HR1 := Lib.hid hr
  have HK1 := Lib.hid (Kp.refl w.heap.size w1)
  clear hr hb HO
  have HC := Lib.hid (body5 HR1.out (by omega))
  go_wp2_with fail
  refine HC.out.mono ?_
  rintro e w2 ⟨t, b, q2, t1, b1, hq2, rfl, hr, hk⟩
  have HR2 := Lib.hid hr
  have HK2 := Lib.hid (HK1.out.trans hk)
  clear hr hk HC
  have HC := Lib.hid (open2_any HR2.out (by omega))
  go_wp2_with fail
  refine HC.out.mono ?_
  rintro e w3 ⟨v, q3, v1, v2, hq3, rfl, hr, hk⟩
  have HR3 := Lib.hid hr
  have HK3 := Lib.hid (HK2.out.trans hk)
  clear hr hk HC
  go_wp2_with fail
  go_ret3
  exact ⟨t, b, v, by omega, by omega, by omega, rfl, HW1.out.trans (HK3.out.below (Nat.le_refl _) HW1.out.size)⟩
set_option maxRecDepth 100000 in
set_option maxHeartbeats 4000000 in
theorem dStrong {ar : Option Addr} {len cap : Nat} {zs : List Int} {w : World} (h : IsRow w ar len cap zs) :
    Calls Tryz.prog 42 #[.slice ar len cap] w fun e w' => ∃ v t b : ByteArray, v.size ≤ 28 ∧ t.size ≤ 40 ∧ b.size ≤ 153 ∧ e = .returned (.tuple #[.string v, .string t, .string b]) ∧ Below w.heap.size w w' := by
  have HO := Lib.hid (open_any h)
  clear h
  go_enter Tryz.func42, Tryz.ntmps42
  go_wp2_with fail
  refine HO.out.mono ?_
  rintro e w1 ⟨rfl, hr, hb⟩
  have HW1 := Lib.hid hb
  have HR1 := Lib.hid hr
  have HK1 := Lib.hid (Kp.refl w.heap.size w1)
  clear hr hb HO
  have HC := Lib.hid (open2_any HR1.out (by omega))
  go_wp2_with fail
  refine HC.out.mono ?_
  rintro e w2 ⟨v, q1, v1, v2, hq1, rfl, hr, hk⟩
  have HR2 := Lib.hid hr
  have HK2 := Lib.hid (HK1.out.trans hk)
  clear hr hk HC
  have HC := Lib.hid (body5 HR2.out (by omega))
  go_wp2_with fail
  refine HC.out.mono ?_
  rintro e w3 ⟨t, b, q2, t1, b1, hq2, rfl, hr, hk⟩
  have HR3 := Lib.hid hr
  have HK3 := Lib.hid (HK2.out.trans hk)
  clear hr hk HC
  go_wp2_with fail
  go_ret3
  exact ⟨v, t, b, by omega, by omega, by omega, rfl, HW1.out.trans (HK3.out.below (Nat.le_refl _) HW1.out.size)⟩
theorem setle (F : Nat → Bool) : (bs (tb F)).size ≤ 28 := by
  rw [bs_size, show (tb F).length = 27 from tbn_length 27 F]; omega
set_option maxRecDepth 100000 in
set_option maxHeartbeats 4000000 in
theorem dKeeps {ar : Option Addr} {len cap : Nat} {zs : List Int} {w : World} (h : IsRow w ar len cap zs) :
    Calls Tryz.prog 47 #[.slice ar len cap] w fun e w' => ∃ t b v : ByteArray, t.size ≤ 40 ∧ b.size ≤ 153 ∧ v.size ≤ 28 ∧ e = .returned (.tuple #[.string t, .string b, .string v]) ∧ Below w.heap.size w w' := by
  have HO := Lib.hid (open_any h)
  clear h
  go_enter Tryz.func47, Tryz.ntmps47
  go_wp2_with fail
  refine HO.out.mono ?_
  rintro e w1 ⟨rfl, hr, hb⟩
  have HW1 := Lib.hid hb
  have HR1 := Lib.hid hr
  have HK1 := Lib.hid (Kp.refl w.heap.size w1)
  clear hr hb HO
  have HC := Lib.hid (body5 HR1.out (by omega))
  go_wp2_with fail
  refine HC.out.mono ?_
  rintro e w2 ⟨t, b, q2, t1, b1, hq2, rfl, hr, hk⟩
  have HR2 := Lib.hid hr
  have HK2 := Lib.hid (HK1.out.trans hk)
  clear hr hk HC
  have HC := Lib.hid (open2_any HR2.out (by omega))
  go_wp2_with fail
  refine HC.out.mono ?_
  rintro e w3 ⟨v, q3, v1, v2, hq3, rfl, hr, hk⟩
  have HR3 := Lib.hid hr
  have HK3 := Lib.hid (HK2.out.trans hk)
  clear hr hk HC
  have C := Lib.hid (pick_any 3 HR3.out (by omega) (by omega) (by omega))
  go_wp2_with fail
  refine C.out.mono ?_
  rintro e w4 ⟨k, k0, k1, rfl, hr, hk⟩
  have HR4 := Lib.hid hr
  have HK4 := Lib.hid (HK3.out.trans hk)
  clear hr hk C
  by_cases e0 : k = 0
  · subst e0
    by_cases h : (IsT t ∧ IsP b) ∧ Set27 v
    · obtain ⟨⟨⟨⟨tm, htm, hs0⟩, hl⟩, ⟨⟨pg, hpg, he⟩, hl2⟩⟩, hq⟩ := h
      obtain ⟨x, hz, HF⟩ : ∃ x : ByteArray, x.size ≤ 28 ∧ ∀ w, Hid (Calls Tryz.prog 43 #[.string v, .string t, .string b] w fun e w' => e = .returned (.tuple #[.string x, .bool true]) ∧ Below w.heap.size w w') := ⟨_, setle _, fun w => Lib.hid (specStrong_yes v t b htm hs0 hl hpg he hl2 hq w)⟩
      clear htm hs0 hl hpg he hl2 hq
      go_wp2_with fail
      refine (HF _).out.mono ?_
      rintro e w5 ⟨rfl, hb⟩
      have HR5 := Lib.hid (HR4.out.kept hb)
      have HK5 := Lib.hid (HK4.out.next hb)
      clear hb HF
      go_wp2_with fail
      go_ret3
      exact ⟨t, b, x, by omega, by omega, hz, rfl, HW1.out.trans (HK5.out.below (Nat.le_refl _) HW1.out.size)⟩
    · have HF := fun w => Lib.hid (specStrong_no v t b h (Nat.le_trans v2 (by decide)) w)
      clear h
      go_wp2_with fail
      refine (HF _).out.mono ?_
      rintro e w5 ⟨rfl, hb⟩
      have HR5 := Lib.hid (HR4.out.kept hb)
      have HK5 := Lib.hid (HK4.out.next hb)
      clear hb HF
      go_wp2_with fail
      go_ret3
      exact ⟨t, b, v, by omega, by omega, by omega, rfl, HW1.out.trans (HK5.out.below (Nat.le_refl _) HW1.out.size)⟩
  have g0 : (k == 0) = false := by rw [beq_eq_false_iff_ne]; exact e0
  clear e0
  by_cases e1 : k = 1
  · subst e1
    by_cases h : (IsT t ∧ IsP b) ∧ Set27 v
    · obtain ⟨⟨⟨⟨tm, htm, hs0⟩, hl⟩, ⟨⟨pg, hpg, he⟩, hl2⟩⟩, hq⟩ := h
      obtain ⟨x, hz, HF⟩ : ∃ x : ByteArray, x.size ≤ 28 ∧ ∀ w, Hid (Calls Tryz.prog 36 #[.string t, .string b, .string v] w fun e w' => e = .returned (.tuple #[.string x, .bool true]) ∧ Below w.heap.size w w') := ⟨_, setle _, fun w => Lib.hid (specWeak_yes v t b htm hs0 hl hpg he hl2 hq w)⟩
      clear htm hs0 hl hpg he hl2 hq
      go_wp2_with fail
      refine (HF _).out.mono ?_
      rintro e w5 ⟨rfl, hb⟩
      have HR5 := Lib.hid (HR4.out.kept hb)
      have HK5 := Lib.hid (HK4.out.next hb)
      clear hb HF
      go_wp2_with fail
      go_ret3
      exact ⟨t, b, x, by omega, by omega, hz, rfl, HW1.out.trans (HK5.out.below (Nat.le_refl _) HW1.out.size)⟩
    · have HF := fun w => Lib.hid (specWeak_no v t b h (Nat.le_trans v2 (by decide)) w)
      clear h
      go_wp2_with fail
      refine (HF _).out.mono ?_
      rintro e w5 ⟨rfl, hb⟩
      have HR5 := Lib.hid (HR4.out.kept hb)
      have HK5 := Lib.hid (HK4.out.next hb)
      clear hb HF
      go_wp2_with fail
      go_ret3
      exact ⟨t, b, v, by omega, by omega, by omega, rfl, HW1.out.trans (HK5.out.below (Nat.le_refl _) HW1.out.size)⟩
  have g1 : (k == 1) = false := by rw [beq_eq_false_iff_ne]; exact e1
  clear e1
  go_wp2_with fail
  go_ret3
  exact ⟨t, b, v, by omega, by omega, by omega, rfl, HW1.out.trans (HK4.out.below (Nat.le_refl _) HW1.out.size)⟩
theorem set27z (F : Nat → Bool) : (bs (tb F)).size = 27 := by
  rw [bs_size, show (tb F).length = 27 from tbn_length 27 F]
set_option maxRecDepth 100000 in
set_option maxHeartbeats 16000000 in
theorem case5 {a p : Nat} {w : World} (hr : Rd a p w) (hp : p ≤ 100000) :
    Calls Tryz.prog 77 #[.pointer (some ⟨a, 0, none⟩)] w fun e w' => ∃ (x y z : ByteArray) (q : Nat), x.size ≤ 28 ∧ y.size ≤ 153 ∧ z.size ≤ 28 ∧ q ≤ p + 1000 ∧ e = .returned (.tuple #[.string x, .string y, .string z]) ∧ Rd a q w' ∧ Kp a w w' := by
  have HR0 := Lib.hid hr
  have HK0 := Lib.hid (Kp.refl a w)
  clear hr
  go_enter Tryz.func77, Tryz.ntmps77
  have HC := Lib.hid (some_any HR0.out (by omega))
  go_wp2_with fail
  refine HC.out.mono ?_
  rintro e w1 ⟨a1, q1, x1, x2, hq1, ha, rfl, hr, hk⟩
  have HR1 := Lib.hid hr
  have HK1 := Lib.hid (HK0.out.trans hk)
  clear hr hk HC
  have HC := Lib.hid (some3 HR1.out (by omega))
  go_wp2_with fail
  refine HC.out.mono ?_
  rintro e w2 ⟨s, q2, y1, y2, hq2, rfl, hr, hk⟩
  have HR2 := Lib.hid hr
  have HK2 := Lib.hid (HK1.out.trans hk)
  clear hr hk HC
  have HC := Lib.hid (some_any HR2.out (by omega))
  go_wp2_with fail
  refine HC.out.mono ?_
  rintro e w3 ⟨c1, q3, z1, z2, hq3, hc, rfl, hr, hk⟩
  have HR3 := Lib.hid hr
  have HK3 := Lib.hid (HK2.out.trans hk)
  clear hr hk HC
  have C := Lib.hid (pick_any 4 HR3.out (by omega) (by omega) (by omega))
  go_wp2_with fail
  refine C.out.mono ?_
  rintro e w4 ⟨k, k0, k1, rfl, hr, hk⟩
  have HR4 := Lib.hid hr
  have HK4 := Lib.hid (HK3.out.trans hk)
  clear hr hk C
  have az : a1.size = 27 := by omega
  have cz : c1.size = 27 := by omega
  by_cases e0 : k = 0
  · subst e0
    by_cases h : IsP s
    · obtain ⟨⟨pg, hpg, he⟩, hl⟩ := h
      obtain ⟨x, xz, HF⟩ : ∃ x : ByteArray, x.size = 27 ∧ ∀ w, Hid (Calls Tryz.prog 59 #[.string s, .string a1] w fun e w' => e = .returned (.tuple #[.string x, .bool true]) ∧ Below w.heap.size w w') := ⟨_, set27z _, fun w => Lib.hid (specPostOf_yes s a1 hpg he hl ha w)⟩
      clear hpg he hl ha hc
      go_wp2_with fail
      refine (HF _).out.mono ?_
      rintro e w5 ⟨rfl, hb⟩
      have HR5 := Lib.hid (HR4.out.kept hb)
      have HK5 := Lib.hid (HK4.out.next hb)
      clear hb HF
      obtain ⟨o0, oz, HG⟩ : ∃ o : ByteArray, o.size = 27 ∧ ∀ w, Hid (Calls Tryz.prog 96 #[.string x, .string c1] w fun e w' => e = .returned (.string o) ∧ Below w.heap.size w w') := ⟨_, set27z _, fun w => Lib.hid (specOr0 x c1 27 w xz cz (by omega))⟩
      go_wp2_with fail
      refine (HG _).out.mono ?_
      rintro e w6 ⟨rfl, hb⟩
      have HR6 := Lib.hid (HR5.out.kept hb)
      have HK6 := Lib.hid (HK5.out.next hb)
      clear hb HG
      have HC := Lib.hid (bad2_any a1 az HR6.out (by omega))
      go_wp2_with fail
      refine HC.out.mono ?_
      rintro e w7 ⟨u, q5, u1, u2, hq5, rfl, hr, hk⟩
      have HR7 := Lib.hid hr
      have HK7 := Lib.hid (HK6.out.trans hk)
      clear hr hk HC
      have HC := Lib.hid (bad3 s y1 (by omega) HR7.out (by omega))
      go_wp2_with fail
      refine HC.out.mono ?_
      rintro e w8 ⟨v, q6, v1, v2, hq6, rfl, hr, hk⟩
      have HR8 := Lib.hid hr
      have HK8 := Lib.hid (HK7.out.trans hk)
      clear hr hk HC
      have HC := Lib.hid (bad2_any o0 oz HR8.out (by omega))
      go_wp2_with fail
      refine HC.out.mono ?_
      rintro e w9 ⟨o, q7, o1, o2, hq7, rfl, hr, hk⟩
      have HR9 := Lib.hid hr
      have HK9 := Lib.hid (HK8.out.trans hk)
      clear hr hk HC
      go_wp2_with fail
      go_ret3
      exact ⟨u, v, o, q7, by omega, by omega, by omega, by omega, rfl, HR9.out, HK9.out⟩
    · have HF := fun w => Lib.hid (specPostOf_no s a1 (Nat.le_trans x2 (by decide)) (fun k => h k.1) w)
      clear h ha hc
      go_wp2_with fail
      refine (HF _).out.mono ?_
      rintro e w5 ⟨rfl, hb⟩
      have HR5 := Lib.hid (HR4.out.kept hb)
      have HK5 := Lib.hid (HK4.out.next hb)
      clear hb HF
      have HC := Lib.hid (bad2_any a1 az HR5.out (by omega))
      go_wp2_with fail
      refine HC.out.mono ?_
      rintro e w6 ⟨u, q5, u1, u2, hq5, rfl, hr, hk⟩
      have HR6 := Lib.hid hr
      have HK6 := Lib.hid (HK5.out.trans hk)
      clear hr hk HC
      have HC := Lib.hid (bad3 s y1 (by omega) HR6.out (by omega))
      go_wp2_with fail
      refine HC.out.mono ?_
      rintro e w7 ⟨v, q6, v1, v2, hq6, rfl, hr, hk⟩
      have HR7 := Lib.hid hr
      have HK7 := Lib.hid (HK6.out.trans hk)
      clear hr hk HC
      have HC := Lib.hid (bad2_any c1 cz HR7.out (by omega))
      go_wp2_with fail
      refine HC.out.mono ?_
      rintro e w8 ⟨o, q7, o1, o2, hq7, rfl, hr, hk⟩
      have HR8 := Lib.hid hr
      have HK8 := Lib.hid (HK7.out.trans hk)
      clear hr hk HC
      go_wp2_with fail
      go_ret3
      exact ⟨u, v, o, q7, by omega, by omega, by omega, by omega, rfl, HR8.out, HK8.out⟩
  have g0 : (k == 0) = false := by rw [beq_eq_false_iff_ne]; exact e0
  clear e0
  by_cases e1 : k = 1
  · subst e1
    by_cases h : IsP s
    · obtain ⟨⟨pg, hpg, he⟩, hl⟩ := h
      obtain ⟨x, xz, HF⟩ : ∃ x : ByteArray, x.size = 27 ∧ ∀ w, Hid (Calls Tryz.prog 15 #[.string s, .string c1] w fun e w' => e = .returned (.tuple #[.string x, .bool true]) ∧ Below w.heap.size w w') := ⟨_, set27z _, fun w => Lib.hid (specTotal_yes s c1 hpg he hl hc (Nat.le_trans z2 (by decide)) w)⟩
      clear hpg he hl ha hc
      go_wp2_with fail
      refine (HF _).out.mono ?_
      rintro e w5 ⟨rfl, hb⟩
      have HR5 := Lib.hid (HR4.out.kept hb)
      have HK5 := Lib.hid (HK4.out.next hb)
      clear hb HF
      obtain ⟨o0, oz, HG⟩ : ∃ o : ByteArray, o.size = 27 ∧ ∀ w, Hid (Calls Tryz.prog 95 #[.string x, .string a1] w fun e w' => e = .returned (.string o) ∧ Below w.heap.size w w') := ⟨_, set27z _, fun w => Lib.hid (specAnd0 x a1 27 w xz az (by omega))⟩
      go_wp2_with fail
      refine (HG _).out.mono ?_
      rintro e w6 ⟨rfl, hb⟩
      have HR6 := Lib.hid (HR5.out.kept hb)
      have HK6 := Lib.hid (HK5.out.next hb)
      clear hb HG
      have HC := Lib.hid (bad2_any o0 oz HR6.out (by omega))
      go_wp2_with fail
      refine HC.out.mono ?_
      rintro e w7 ⟨u, q5, u1, u2, hq5, rfl, hr, hk⟩
      have HR7 := Lib.hid hr
      have HK7 := Lib.hid (HK6.out.trans hk)
      clear hr hk HC
      have HC := Lib.hid (bad3 s y1 (by omega) HR7.out (by omega))
      go_wp2_with fail
      refine HC.out.mono ?_
      rintro e w8 ⟨v, q6, v1, v2, hq6, rfl, hr, hk⟩
      have HR8 := Lib.hid hr
      have HK8 := Lib.hid (HK7.out.trans hk)
      clear hr hk HC
      have HC := Lib.hid (bad2_any c1 cz HR8.out (by omega))
      go_wp2_with fail
      refine HC.out.mono ?_
      rintro e w9 ⟨o, q7, o1, o2, hq7, rfl, hr, hk⟩
      have HR9 := Lib.hid hr
      have HK9 := Lib.hid (HK8.out.trans hk)
      clear hr hk HC
      go_wp2_with fail
      go_ret3
      exact ⟨u, v, o, q7, by omega, by omega, by omega, by omega, rfl, HR9.out, HK9.out⟩
    · have HF := fun w => Lib.hid (specTotal_no s c1 (Nat.le_trans z2 (by decide)) (fun k => h k.1) w)
      clear h ha hc
      go_wp2_with fail
      refine (HF _).out.mono ?_
      rintro e w5 ⟨rfl, hb⟩
      have HR5 := Lib.hid (HR4.out.kept hb)
      have HK5 := Lib.hid (HK4.out.next hb)
      clear hb HF
      have HC := Lib.hid (bad2_any a1 az HR5.out (by omega))
      go_wp2_with fail
      refine HC.out.mono ?_
      rintro e w6 ⟨u, q5, u1, u2, hq5, rfl, hr, hk⟩
      have HR6 := Lib.hid hr
      have HK6 := Lib.hid (HK5.out.trans hk)
      clear hr hk HC
      have HC := Lib.hid (bad3 s y1 (by omega) HR6.out (by omega))
      go_wp2_with fail
      refine HC.out.mono ?_
      rintro e w7 ⟨v, q6, v1, v2, hq6, rfl, hr, hk⟩
      have HR7 := Lib.hid hr
      have HK7 := Lib.hid (HK6.out.trans hk)
      clear hr hk HC
      have HC := Lib.hid (bad2_any c1 cz HR7.out (by omega))
      go_wp2_with fail
      refine HC.out.mono ?_
      rintro e w8 ⟨o, q7, o1, o2, hq7, rfl, hr, hk⟩
      have HR8 := Lib.hid hr
      have HK8 := Lib.hid (HK7.out.trans hk)
      clear hr hk HC
      go_wp2_with fail
      go_ret3
      exact ⟨u, v, o, q7, by omega, by omega, by omega, by omega, rfl, HR8.out, HK8.out⟩
  have g1 : (k == 1) = false := by rw [beq_eq_false_iff_ne]; exact e1
  clear e1 ha hc
  have HC := Lib.hid (bad2_any a1 az HR4.out (by omega))
  go_wp2_with fail
  refine HC.out.mono ?_
  rintro e w5 ⟨u, q5, u1, u2, hq5, rfl, hr, hk⟩
  have HR5 := Lib.hid hr
  have HK5 := Lib.hid (HK4.out.trans hk)
  clear hr hk HC
  have HC := Lib.hid (bad3 s y1 (by omega) HR5.out (by omega))
  go_wp2_with fail
  refine HC.out.mono ?_
  rintro e w6 ⟨v, q6, v1, v2, hq6, rfl, hr, hk⟩
  have HR6 := Lib.hid hr
  have HK6 := Lib.hid (HK5.out.trans hk)
  clear hr hk HC
  have HC := Lib.hid (bad2_any c1 cz HR6.out (by omega))
  go_wp2_with fail
  refine HC.out.mono ?_
  rintro e w7 ⟨o, q7, o1, o2, hq7, rfl, hr, hk⟩
  have HR7 := Lib.hid hr
  have HK7 := Lib.hid (HK6.out.trans hk)
  clear hr hk HC
  go_wp2_with fail
  go_ret3
  exact ⟨u, v, o, q7, by omega, by omega, by omega, by omega, rfl, HR7.out, HK7.out⟩
set_option maxRecDepth 100000 in
set_option maxHeartbeats 4000000 in
theorem dTriple {ar : Option Addr} {len cap : Nat} {zs : List Int} {w : World} (h : IsRow w ar len cap zs) :
    Calls Tryz.prog 52 #[.slice ar len cap] w fun e w' => ∃ x y z : ByteArray, x.size ≤ 28 ∧ y.size ≤ 153 ∧ z.size ≤ 28 ∧ e = .returned (.tuple #[.string x, .string y, .string z]) ∧ Below w.heap.size w w' := by
  have HO := Lib.hid (open_any h)
  clear h
  go_enter Tryz.func52, Tryz.ntmps52
  go_wp2_with fail
  refine HO.out.mono ?_
  rintro e w1 ⟨rfl, hr, hb⟩
  have HW1 := Lib.hid hb
  have HR1 := Lib.hid hr
  have HK1 := Lib.hid (Kp.refl w.heap.size w1)
  clear hr hb HO
  have HC := Lib.hid (case5 HR1.out (by omega))
  go_wp2_with fail
  refine HC.out.mono ?_
  rintro e w2 ⟨x, y, z, q2, x1, y1, z1, hq2, rfl, hr, hk⟩
  have HR2 := Lib.hid hr
  have HK2 := Lib.hid (HK1.out.trans hk)
  clear hr hk HC
  go_wp2_with fail
  go_ret3
  exact ⟨x, y, z, by omega, by omega, by omega, rfl, HW1.out.trans (HK2.out.below (Nat.le_refl _) HW1.out.size)⟩
set_option maxRecDepth 100000 in
set_option maxHeartbeats 4000000 in
theorem dTotal {ar : Option Addr} {len cap : Nat} {zs : List Int} {w : World} (h : IsRow w ar len cap zs) :
    Calls Tryz.prog 22 #[.slice ar len cap] w fun e w' => ∃ x y z : ByteArray, x.size ≤ 28 ∧ y.size ≤ 153 ∧ z.size ≤ 28 ∧ e = .returned (.tuple #[.string x, .string y, .string z]) ∧ Below w.heap.size w w' := by
  have HO := Lib.hid (open_any h)
  clear h
  go_enter Tryz.func22, Tryz.ntmps22
  go_wp2_with fail
  refine HO.out.mono ?_
  rintro e w1 ⟨rfl, hr, hb⟩
  have HW1 := Lib.hid hb
  have HR1 := Lib.hid hr
  have HK1 := Lib.hid (Kp.refl w.heap.size w1)
  clear hr hb HO
  have HC := Lib.hid (case5 HR1.out (by omega))
  go_wp2_with fail
  refine HC.out.mono ?_
  rintro e w2 ⟨x, y, z, q2, x1, y1, z1, hq2, rfl, hr, hk⟩
  have HR2 := Lib.hid hr
  have HK2 := Lib.hid (HK1.out.trans hk)
  clear hr hk HC
  go_wp2_with fail
  go_ret3
  exact ⟨x, y, z, by omega, by omega, by omega, rfl, HW1.out.trans (HK2.out.below (Nat.le_refl _) HW1.out.size)⟩
theorem results_tmp5 {fn : Func} {t u v x y : Tmp} (h : fn.results = #[.tmp t, .tmp u, .tmp v, .tmp x, .tmp y]) (tmps : Array Value) (P : Program) (w : World) :
    (results fn tmps).run P w = .ok (.tuple #[tmps.getD t undef, tmps.getD u undef, tmps.getD v undef, tmps.getD x undef, tmps.getD y undef]) w := by
  simp [results, h]
set_option maxRecDepth 100000 in
set_option maxHeartbeats 8000000 in
theorem dProves {ar : Option Addr} {len cap : Nat} {zs : List Int} {w : World} (h : IsRow w ar len cap zs) :
    Calls Tryz.prog 39 #[.slice ar len cap] w fun e w' => ∃ x t b v y : ByteArray, x.size ≤ 28 ∧ t.size ≤ 40 ∧ b.size ≤ 153 ∧ v.size ≤ 28 ∧ y.size ≤ 28 ∧ e = .returned (.tuple #[.string x, .string t, .string b, .string v, .string y]) ∧ Below w.heap.size w w' := by
  have HO := Lib.hid (open_any h)
  have HI := Lib.hid h
  clear h
  go_enter Tryz.func39, Tryz.ntmps39
  go_wp2_with fail
  refine HO.out.mono ?_
  rintro e w1 ⟨rfl, hr, hb⟩
  have HW1 := Lib.hid hb
  have HR1 := Lib.hid hr
  have HK1 := Lib.hid (Kp.refl w.heap.size w1)
  have HC := Lib.hid (dKeeps (HI.out.kept hb))
  clear hr hb HO HI
  go_wp2_with fail
  refine HC.out.mono ?_
  rintro e w2 ⟨t, b, v, t1, b1, v1, rfl, hb⟩
  have HR2 := Lib.hid (HR1.out.kept hb)
  have HK2 := Lib.hid (HK1.out.next hb)
  clear hb HC
  have HC := Lib.hid (open2_any HR2.out (by omega))
  go_wp2_with fail
  refine HC.out.mono ?_
  rintro e w3 ⟨x, q3, x1, x2, hq3, rfl, hr, hk⟩
  have HR3 := Lib.hid hr
  have HK3 := Lib.hid (HK2.out.trans hk)
  clear hr hk HC
  have HC := Lib.hid (open2_any HR3.out (by omega))
  go_wp2_with fail
  refine HC.out.mono ?_
  rintro e w4 ⟨y, q4, y1, y2, hq4, rfl, hr, hk⟩
  have HR4 := Lib.hid hr
  have HK4 := Lib.hid (HK3.out.trans hk)
  clear hr hk HC
  by_cases hx : x.size = v.size
  · have hf : ((x.size : Int) == (v.size : Int)) = true := by rw [beq_iff_eq, hx]
    have C := Lib.hid (pick_any 3 HR4.out (by omega) (by omega) (by omega))
    go_wp2_with fail
    refine C.out.mono ?_
    rintro e w5 ⟨j, j0, j1, rfl, hr, hk⟩
    have HR5 := Lib.hid hr
    have HK5 := Lib.hid (HK4.out.trans hk)
    clear hr hk C
    by_cases hj : (0 : Int) < j
    · obtain ⟨o1, oz1, HG⟩ : ∃ o : ByteArray, o.size ≤ 28 ∧ ∀ w, Hid (Calls Tryz.prog 95 #[.string x, .string v] w fun e w' => e = .returned (.string o) ∧ Below w.heap.size w w') := ⟨_, by rw [bs_size, tbn_length]; exact v1, fun w => Lib.hid (specAnd0 x v v.size w hx rfl (by omega))⟩
      go_wp2_with fail
      refine (HG _).out.mono ?_
      rintro e w6 ⟨rfl, hb⟩
      have HR6 := Lib.hid (HR5.out.kept hb)
      have HK6 := Lib.hid (HK5.out.next hb)
      clear hb HG
      by_cases hy : y.size = v.size
      · have hg : ((y.size : Int) == (v.size : Int)) = true := by rw [beq_iff_eq, hy]
        have C := Lib.hid (pick_any 3 HR6.out (by omega) (by omega) (by omega))
        go_wp2_with fail
        refine C.out.mono ?_
        rintro e w7 ⟨k, k0, k1, rfl, hr, hk⟩
        have HR7 := Lib.hid hr
        have HK7 := Lib.hid (HK6.out.trans hk)
        clear hr hk C
        by_cases h0 : (0 : Int) < k
        · obtain ⟨o2, oz2, HG⟩ : ∃ o : ByteArray, o.size ≤ 28 ∧ ∀ w, Hid (Calls Tryz.prog 96 #[.string y, .string v] w fun e w' => e = .returned (.string o) ∧ Below w.heap.size w w') := ⟨_, by rw [bs_size, tbn_length]; exact v1, fun w => Lib.hid (specOr0 y v v.size w hy rfl (by omega))⟩
          go_wp2_with fail
          refine (HG _).out.mono ?_
          rintro e w8 ⟨rfl, hb⟩
          have HR8 := Lib.hid (HR7.out.kept hb)
          have HK8 := Lib.hid (HK7.out.next hb)
          clear hb HG
          go_wp2_with fail
          try simp only [Exit.inBlock, Exit.then]
          refine bodyPost_ret (results_tmp5 rfl _ _ _) rfl ?_
          exact ⟨o1, t, b, v, o2, oz1, t1, b1, v1, oz2, rfl, HW1.out.trans (HK8.out.below (Nat.le_refl _) HW1.out.size)⟩
        · go_wp2_with fail
          try simp only [Exit.inBlock, Exit.then]
          refine bodyPost_ret (results_tmp5 rfl _ _ _) rfl ?_
          exact ⟨o1, t, b, v, y, oz1, t1, b1, v1, y2, rfl, HW1.out.trans (HK7.out.below (Nat.le_refl _) HW1.out.size)⟩
      · have hg : ((y.size : Int) == (v.size : Int)) = false := by rw [beq_eq_false_iff_ne]; omega
        go_wp2_with fail
        try simp only [Exit.inBlock, Exit.then]
        refine bodyPost_ret (results_tmp5 rfl _ _ _) rfl ?_
        exact ⟨o1, t, b, v, y, oz1, t1, b1, v1, y2, rfl, HW1.out.trans (HK6.out.below (Nat.le_refl _) HW1.out.size)⟩
    · by_cases hy : y.size = v.size
      · have hg : ((y.size : Int) == (v.size : Int)) = true := by rw [beq_iff_eq, hy]
        have C := Lib.hid (pick_any 3 HR5.out (by omega) (by omega) (by omega))
        go_wp2_with fail
        refine C.out.mono ?_
        rintro e w6 ⟨k, k0, k1, rfl, hr, hk⟩
        have HR6 := Lib.hid hr
        have HK6 := Lib.hid (HK5.out.trans hk)
        clear hr hk C
        by_cases h0 : (0 : Int) < k
        · obtain ⟨o2, oz2, HG⟩ : ∃ o : ByteArray, o.size ≤ 28 ∧ ∀ w, Hid (Calls Tryz.prog 96 #[.string y, .string v] w fun e w' => e = .returned (.string o) ∧ Below w.heap.size w w') := ⟨_, by rw [bs_size, tbn_length]; exact v1, fun w => Lib.hid (specOr0 y v v.size w hy rfl (by omega))⟩
          go_wp2_with fail
          refine (HG _).out.mono ?_
          rintro e w7 ⟨rfl, hb⟩
          have HR7 := Lib.hid (HR6.out.kept hb)
          have HK7 := Lib.hid (HK6.out.next hb)
          clear hb HG
          go_wp2_with fail
          try simp only [Exit.inBlock, Exit.then]
          refine bodyPost_ret (results_tmp5 rfl _ _ _) rfl ?_
          exact ⟨x, t, b, v, o2, x2, t1, b1, v1, oz2, rfl, HW1.out.trans (HK7.out.below (Nat.le_refl _) HW1.out.size)⟩
        · go_wp2_with fail
          try simp only [Exit.inBlock, Exit.then]
          refine bodyPost_ret (results_tmp5 rfl _ _ _) rfl ?_
          exact ⟨x, t, b, v, y, x2, t1, b1, v1, y2, rfl, HW1.out.trans (HK6.out.below (Nat.le_refl _) HW1.out.size)⟩
      · have hg : ((y.size : Int) == (v.size : Int)) = false := by rw [beq_eq_false_iff_ne]; omega
        go_wp2_with fail
        try simp only [Exit.inBlock, Exit.then]
        refine bodyPost_ret (results_tmp5 rfl _ _ _) rfl ?_
        exact ⟨x, t, b, v, y, x2, t1, b1, v1, y2, rfl, HW1.out.trans (HK5.out.below (Nat.le_refl _) HW1.out.size)⟩
  · have hf : ((x.size : Int) == (v.size : Int)) = false := by rw [beq_eq_false_iff_ne]; omega
    by_cases hy : y.size = v.size
    · have hg : ((y.size : Int) == (v.size : Int)) = true := by rw [beq_iff_eq, hy]
      have C := Lib.hid (pick_any 3 HR4.out (by omega) (by omega) (by omega))
      go_wp2_with fail
      refine C.out.mono ?_
      rintro e w5 ⟨k, k0, k1, rfl, hr, hk⟩
      have HR5 := Lib.hid hr
      have HK5 := Lib.hid (HK4.out.trans hk)
      clear hr hk C
      by_cases h0 : (0 : Int) < k
      · obtain ⟨o2, oz2, HG⟩ : ∃ o : ByteArray, o.size ≤ 28 ∧ ∀ w, Hid (Calls Tryz.prog 96 #[.string y, .string v] w fun e w' => e = .returned (.string o) ∧ Below w.heap.size w w') := ⟨_, by rw [bs_size, tbn_length]; exact v1, fun w => Lib.hid (specOr0 y v v.size w hy rfl (by omega))⟩
        go_wp2_with fail
        refine (HG _).out.mono ?_
        rintro e w6 ⟨rfl, hb⟩
        have HR6 := Lib.hid (HR5.out.kept hb)
        have HK6 := Lib.hid (HK5.out.next hb)
        clear hb HG
        go_wp2_with fail
        try simp only [Exit.inBlock, Exit.then]
        refine bodyPost_ret (results_tmp5 rfl _ _ _) rfl ?_
        exact ⟨x, t, b, v, o2, x2, t1, b1, v1, oz2, rfl, HW1.out.trans (HK6.out.below (Nat.le_refl _) HW1.out.size)⟩
      · go_wp2_with fail
        try simp only [Exit.inBlock, Exit.then]
        refine bodyPost_ret (results_tmp5 rfl _ _ _) rfl ?_
        exact ⟨x, t, b, v, y, x2, t1, b1, v1, y2, rfl, HW1.out.trans (HK5.out.below (Nat.le_refl _) HW1.out.size)⟩
    · have hg : ((y.size : Int) == (v.size : Int)) = false := by rw [beq_eq_false_iff_ne]; omega
      go_wp2_with fail
      try simp only [Exit.inBlock, Exit.then]
      refine bodyPost_ret (results_tmp5 rfl _ _ _) rfl ?_
      exact ⟨x, t, b, v, y, x2, t1, b1, v1, y2, rfl, HW1.out.trans (HK4.out.below (Nat.le_refl _) HW1.out.size)⟩
end Go.Proofs.YthmghadepimcnaaGreat

namespace Go.Proofs.YthmghadepimcnaaGreat
open Go.RowKit


end Go.Proofs.YthmghadepimcnaaGreat

namespace Go.Proofs.YthmghadepimcnaaGreat
open Go.RowKit

theorem StVs.cells {w : World} {B : Nat} : ∀ {ps : List Pg} {vs : List Value}, StVs w B ps vs → ∀ u ∈ vs, u.oneCell' = true := by
  intro ps
  induction ps with
  | nil => intro vs h u hu; rw [show vs = [] from h] at hu; simp at hu
  | cons p ps ih =>
    rintro vs ⟨T, u, vs', rfl, h1, h2⟩ x hx
    simp only [List.mem_cons] at hx
    rcases hx with rfl | hx
    · rfl
    · exact ih h2 x hx

theorem infoStmt : (Tryz.prog.info? 52).map (fun i => (i.zero, i.size, i.bytes)) = some (some .nilIface, 1, 16) := by kernel_rfl

def WinPost (w0 : World) (B : Nat) (ps : List Pg) (w : World) (e : Ending) (w' : World) : Prop := ∃ sl vs, e = .returned sl ∧ StVs w0 B ps vs ∧ Row w' w.heap.size 52 sl vs ∧ Below w.heap.size w w'

set_option maxRecDepth 100000 in
set_option maxHeartbeats 2000000 in
theorem win_none (w0 : World) (B : Nat) (p : Pg) (T : TypeId) (u : Array Value) (f : Nat) (rc : Value) (w : World) (hst : StV w0 B p (.iface T (.agg u)))
    (hm : ∀ w, (method 329 T (.agg u) "loop.example/productprograms/impl.parts").run Tryz.prog w = .ok (f, rc) w) (hcf : ∀ (a : Array Value) w, (callFunc f a).run Tryz.prog w = .ok (.enter f a) w)
    (hp : ∀ w, Calls Tryz.prog f #[rc] w (PartsPost [] w)) :
    Calls Tryz.prog 86 #[.iface T (.agg u)] w (WinPost w0 B [p] w) := by
  have HP := Lib.hid hp
  have HS := Lib.hid hst
  have hB := (Below.refl w.heap.size w).alloc (Nat.le_refl _) (.cells #[.iface T (.agg u)] 52)
  have HL := Lib.hid (Row.new w 52 [.iface T (.agg u)] (by simp))
  have HB := Lib.hid hB
  clear hp hst hB
  go_enter Tryz.func86, Tryz.ntmps86
  go_wp2_with fail
  refine (HP.out _).mono ?_
  rintro e w1 ⟨sl, rfl, hrow, hb⟩
  obtain ⟨g, cap, rfl⟩ := hrow.zero
  have HL1 := Lib.hid (HL.out.kept hb)
  have HB1 := Lib.hid (bnext HB.out hb)
  clear hb hrow
  go_wp2_with fail
  refine wp_loop_rounds 1 ?_
  rw [rounds_succ]
  go_wp2_with fail
  go_ret
  exact ⟨_, _, rfl, ⟨_, _, _, rfl, HS.out, rfl⟩, HL1.out, HB1.out⟩

set_option maxRecDepth 100000 in
set_option maxHeartbeats 2000000 in
theorem win_one (w0 : World) (B : Nat) (p q : Pg) (hq1 : q.all.length ≤ 1000) (T T1 : TypeId) (u u1 : Array Value) (f : Nat) (rc : Value) (w : World) (hst : StV w0 B p (.iface T (.agg u)))
    (hm : ∀ w, (method 329 T (.agg u) "loop.example/productprograms/impl.parts").run Tryz.prog w = .ok (f, rc) w) (hcf : ∀ (a : Array Value) w, (callFunc f a).run Tryz.prog w = .ok (.enter f a) w)
    (hp : ∀ w, Calls Tryz.prog f #[rc] w (PartsPost [.iface T1 (.agg u1)] w))
    (c1 : ∀ w', Below w.heap.size w w' → Calls Tryz.prog 86 #[.iface T1 (.agg u1)] w' (WinPost w0 B q.all w')) :
    Calls Tryz.prog 86 #[.iface T (.agg u)] w (WinPost w0 B (p :: q.all) w) := by
  have C1 := Lib.hid c1
  clear c1
  obtain ⟨i0, hi0, hz0, hz1, hz2⟩ := info_parts infoStmt
  have HP := Lib.hid hp
  have HS := Lib.hid hst
  have hB := (Below.refl w.heap.size w).alloc (Nat.le_refl _) (.cells #[.iface T (.agg u)] 52)
  have HL := Lib.hid (Row.new w 52 [.iface T (.agg u)] (by simp))
  have HB := Lib.hid hB
  clear hp hst hB
  go_enter Tryz.func86, Tryz.ntmps86
  go_wp2_with fail
  refine (HP.out _).mono ?_
  rintro e w1 ⟨sl, rfl, hrow, hb⟩
  obtain ⟨g, cap, rfl, hg, k1⟩ := hrow.one'
  have HL1 := Lib.hid (HL.out.kept hb)
  have HB1 := Lib.hid (bnext HB.out hb)
  clear hb hrow hg
  go_wp2_with fail
  refine wp_loop_rounds 2 ?_
  rw [rounds_succ]
  go_wp2_with fail
  refine (C1.out _ HB1.out).mono ?_
  rintro e w2 ⟨sl2, vs2, rfl, hvs, hrow2, hb⟩
  have hvl := hvs.len
  obtain ⟨g2, cap2, rfl, hg2, hg2l, hnews⟩ := hrow2.news (by rw [hvl]; exact q.all_pos)
  have HL2 := Lib.hid (HL1.out.kept hb)
  have HB2 := Lib.hid (bnext HB1.out hb)
  have HV := Lib.hid hvs
  have HN := Lib.hid hnews
  have HVL : Hid (0 < vs2.length ∧ vs2.length ≤ 1000) := by show _ ∧ _; rw [hvl]; exact ⟨q.all_pos, hq1⟩
  clear hb hvs hrow2 hvl hnews k1
  go_wp2_with (at_builtin; refine wpList_append_lies _ (by rfl) _ _ _ (by rfl) w.heap.size 52 i0 _ 1 16 Tryz.underlying86 hi0 hz0 hz1 hz2 rfl (by omega) _ _ _ (by rfl) HL2.out ⟨g2, 0, none⟩ vs2.length cap2 vs2 (by rfl) (by simp) HN.out HV.out.cells HVL.out.1 (by have := HVL.out.2; unfold maxLen; simp; omega) (by have := HVL.out.2; simp; omega) HB2.out.size w2.heap.size rfl ?_; intro g3 cap3 w3 hown hgrow hat hlt)
  obtain ⟨hr3, hb3⟩ := Row.after HB2.out HL2.out hown hgrow
  have HR3 := Lib.hid hr3
  have HB3 := Lib.hid hb3
  clear hown hgrow hat hlt hr3 hb3
  rw [rounds_succ]
  go_wp2_with fail
  go_ret
  exact ⟨_, _, rfl, ⟨_, _, _, rfl, HS.out, HV.out⟩, HR3.out, HB3.out⟩

set_option maxRecDepth 100000 in
set_option maxHeartbeats 2000000 in
theorem win_two (w0 : World) (B : Nat) (p q q2 : Pg) (hq1 : q.all.length ≤ 1000) (hq2 : q2.all.length ≤ 1000) (T T1 T2 : TypeId) (u u1 u2 : Array Value) (f : Nat) (rc : Value) (w : World) (hst : StV w0 B p (.iface T (.agg u)))
    (hm : ∀ w, (method 329 T (.agg u) "loop.example/productprograms/impl.parts").run Tryz.prog w = .ok (f, rc) w) (hcf : ∀ (a : Array Value) w, (callFunc f a).run Tryz.prog w = .ok (.enter f a) w)
    (hp : ∀ w, Calls Tryz.prog f #[rc] w (PartsPost [.iface T1 (.agg u1), .iface T2 (.agg u2)] w))
    (c1 : ∀ w', Below w.heap.size w w' → Calls Tryz.prog 86 #[.iface T1 (.agg u1)] w' (WinPost w0 B q.all w'))
    (c2 : ∀ w', Below w.heap.size w w' → Calls Tryz.prog 86 #[.iface T2 (.agg u2)] w' (WinPost w0 B q2.all w')) :
    Calls Tryz.prog 86 #[.iface T (.agg u)] w (WinPost w0 B (p :: (q.all ++ q2.all)) w) := by
  have C1 := Lib.hid c1
  have C2 := Lib.hid c2
  clear c1 c2
  obtain ⟨i0, hi0, hz0, hz1, hz2⟩ := info_parts infoStmt
  have HP := Lib.hid hp
  have HS := Lib.hid hst
  have hB := (Below.refl w.heap.size w).alloc (Nat.le_refl _) (.cells #[.iface T (.agg u)] 52)
  have HL := Lib.hid (Row.new w 52 [.iface T (.agg u)] (by simp))
  have HB := Lib.hid hB
  clear hp hst hB
  go_enter Tryz.func86, Tryz.ntmps86
  go_wp2_with fail
  refine (HP.out _).mono ?_
  rintro e w1 ⟨sl, rfl, hrow, hb⟩
  obtain ⟨g, cap, rfl, hg, k1, k2⟩ := hrow.two'
  have HL1 := Lib.hid (HL.out.kept hb)
  have HB1 := Lib.hid (bnext HB.out hb)
  simp at hg
  have HG := Lib.hid hg
  clear hb hrow hg
  go_wp2_with fail
  refine wp_loop_rounds 3 ?_
  rw [rounds_succ]
  go_wp2_with fail
  refine (C1.out _ HB1.out).mono ?_
  rintro e w2 ⟨sl2, vs2, rfl, hvs, hrow2, hb⟩
  have hvl := hvs.len
  obtain ⟨g2, cap2, rfl, hg2, hg2l, hnews⟩ := hrow2.news (by rw [hvl]; exact q.all_pos)
  have HL2 := Lib.hid (HL1.out.kept hb)
  have HB2 := Lib.hid (bnext HB1.out hb)
  have HK2 := Lib.hid (ckeep hb k2)
  have HV := Lib.hid hvs
  have HN := Lib.hid hnews
  have HVL : Hid (0 < vs2.length ∧ vs2.length ≤ 1000) := by show _ ∧ _; rw [hvl]; exact ⟨q.all_pos, hq1⟩
  clear hb hvs hrow2 hvl hnews k1 k2
  go_wp2_with (at_builtin; refine wpList_append_lies _ (by rfl) _ _ _ (by rfl) w.heap.size 52 i0 _ 1 16 Tryz.underlying86 hi0 hz0 hz1 hz2 rfl (by omega) _ _ _ (by rfl) HL2.out ⟨g2, 0, none⟩ vs2.length cap2 vs2 (by rfl) (by simp) HN.out HV.out.cells HVL.out.1 (by have := HVL.out.2; unfold maxLen; simp; omega) (by have := HVL.out.2; simp; omega) HB2.out.size w2.heap.size rfl ?_; intro g3 cap3 w3 hown hgrow hat hlt)
  obtain ⟨hr3, hb3⟩ := Row.after HB2.out HL2.out hown hgrow
  have k3 := hgrow.cell HK2.out (by have := HG.out; simp [Value.ownBlock]; omega)
  have hg3 : g3 ≠ g := by
    have h1 := HG.out
    have h2 := World.block_lt_of_cell? _ _ HK2.out
    simp at h2
    rcases hat with h | h
    · simp [Value.ownBlock] at h; omega
    · omega
  have HG3 := Lib.hid hg3
  have HR3 := Lib.hid hr3
  have HB3 := Lib.hid hb3
  clear hown hgrow hat hlt hr3 hb3 HK2 hg3
  rw [rounds_succ]
  go_wp2_with fail
  refine (C2.out _ HB3.out).mono ?_
  rintro e w4 ⟨sl4, vs4, rfl, hvs, hrow4, hb⟩
  have hvl := hvs.len
  obtain ⟨g4, cap4, rfl, hg4, hg4l, hnews⟩ := hrow4.news (by rw [hvl]; exact q2.all_pos)
  have HL4 := Lib.hid (HR3.out.kept hb)
  have HB4 := Lib.hid (bnext HB3.out hb)
  have HV4 := Lib.hid hvs
  have HN4 := Lib.hid hnews
  have HVL4 : Hid (0 < vs4.length ∧ vs4.length ≤ 1000) := by show _ ∧ _; rw [hvl]; exact ⟨q2.all_pos, hq2⟩
  clear hb hvs hrow4 hvl hnews k3
  have hln : ([Value.iface T (.agg u)] ++ vs2).length ≤ 1001 := by have := HVL.out.2; simp; omega
  go_wp2_with (at_builtin; refine wpList_append_lies _ (by rfl) _ _ _ (by rfl) w.heap.size 52 i0 _ 1 16 Tryz.underlying86 hi0 hz0 hz1 hz2 rfl (by omega) _ _ _ (by simp; rfl) HL4.out ⟨g4, 0, none⟩ vs4.length cap4 vs4 (by rfl) (by simp) HN4.out HV4.out.cells HVL4.out.1 (by have := HVL4.out.2; unfold maxLen; omega) (by have := HVL4.out.2; omega) HB4.out.size w4.heap.size rfl ?_; intro g5 cap5 w5 hown hgrow hat hlt)
  obtain ⟨hr5, hb5⟩ := Row.after HB4.out HL4.out hown hgrow
  have HR5 := Lib.hid hr5
  have HB5 := Lib.hid hb5
  clear hown hgrow hat hlt hr5 hb5
  rw [rounds_succ]
  go_wp2_with fail
  go_ret
  exact ⟨_, _, rfl, ⟨_, _, _, rfl, HS.out, HV.out.append HV4.out⟩, by simpa using HR5.out, HB5.out⟩

theorem win_any : ∀ (p : Pg), p.ser.length ≤ 1000 → ∀ (w0 : World) (B : Nat) (T : TypeId) (u : Array Value) (w : World), StV w0 B p (.iface T (.agg u)) → Below w0.heap.size w0 w →
    Calls Tryz.prog 86 #[.iface T (.agg u)] w (WinPost w0 B p.all w) := by
  intro p
  induction p with
  | skip => intro _ w0 B T u w h _; obtain ⟨f, rc, kv, hm, hcf, hkv, hc⟩ := inv_parts h; cases hkv; exact win_none w0 B .skip T u f rc w h hm hcf hc
  | asg v e => intro _ w0 B T u w h _; obtain ⟨f, rc, kv, hm, hcf, hkv, hc⟩ := inv_parts h; cases hkv; exact win_none w0 B (.asg v e) T u f rc w h hm hcf hc
  | asm t => intro _ w0 B T u w h _; obtain ⟨f, rc, kv, hm, hcf, hkv, hc⟩ := inv_parts h; cases hkv; exact win_none w0 B (.asm t) T u f rc w h hm hcf hc
  | whl t a ia =>
    intro hn w0 B T u w h hb
    obtain ⟨f, rc, kv, hm, hcf, ⟨T1, u1, kv', rfl, s1, hkv⟩, hc⟩ := inv_parts h
    cases hkv
    simp [Pg.ser] at hn
    exact win_one w0 B (.whl t a) a (by have := a.all_le; omega) T T1 u u1 f rc w h hm hcf hc (fun w' h => ia (by omega) w0 B _ _ w' s1 (bnext hb h))
  | seq a b ia ib =>
    intro hn w0 B T u w h hb
    obtain ⟨f, rc, kv, hm, hcf, ⟨T1, u1, kv', rfl, s1, T2, u2, kv'', rfl, s2, hkv⟩, hc⟩ := inv_parts h
    cases hkv
    simp [Pg.ser] at hn
    exact win_two w0 B (.seq a b) a b (by have := a.all_le; omega) (by have := b.all_le; omega) T T1 T2 u u1 u2 f rc w h hm hcf hc (fun w' h => ia (by omega) w0 B _ _ w' s1 (bnext hb h)) (fun w' h => ib (by omega) w0 B _ _ w' s2 (bnext hb h))
  | cho a b ia ib =>
    intro hn w0 B T u w h hb
    obtain ⟨f, rc, kv, hm, hcf, ⟨T1, u1, kv', rfl, s1, T2, u2, kv'', rfl, s2, hkv⟩, hc⟩ := inv_parts h
    cases hkv
    simp [Pg.ser] at hn
    exact win_two w0 B (.cho a b) a b (by have := a.all_le; omega) (by have := b.all_le; omega) T T1 T2 u u1 u2 f rc w h hm hcf hc (fun w' h => ia (by omega) w0 B _ _ w' s1 (bnext hb h)) (fun w' h => ib (by omega) w0 B _ _ w' s2 (bnext hb h))
  | ite t a b ia ib =>
    intro hn w0 B T u w h hb
    obtain ⟨f, rc, kv, hm, hcf, ⟨T1, u1, kv', rfl, s1, T2, u2, kv'', rfl, s2, hkv⟩, hc⟩ := inv_parts h
    cases hkv
    simp [Pg.ser] at hn
    exact win_two w0 B (.ite t a b) a b (by have := a.all_le; omega) (by have := b.all_le; omega) T T1 T2 u u1 u2 f rc w h hm hcf hc (fun w' h => ia (by omega) w0 B _ _ w' s1 (bnext hb h)) (fun w' h => ib (by omega) w0 B _ _ w' s2 (bnext hb h))
end Go.Proofs.YthmghadepimcnaaGreat

namespace Go.Proofs.YthmghadepimcnaaGreat
open Go.RowKit

def plainB (p : Pg) : Bool := decide (fnd (p.all.map Pg.letter) 47 < 0) && decide (fnd (p.all.map Pg.letter) 126 < 0)
def BoolPost (b : Bool) (w : World) (e : Ending) (w' : World) : Prop := e = .returned (.bool b) ∧ Below w.heap.size w w'
end Go.Proofs.YthmghadepimcnaaGreat

namespace Go.Proofs.YthmghadepimcnaaGreat
open Go.RowKit

/-- A row of statements, as the loops read it. -/
theorem stvs_ix {w0 w : World} {B B' : Nat} {T : TypeId} {v : Value} {ps : List Pg} {vs : List Value} (hv : StVs w0 B ps vs) (h : Row w B' T v vs) : ∃ a cap, v = .slice a ps.length cap ∧ ∀ (m : Nat) (hm : m < ps.length), ∃ g T u, a = some ⟨g, 0, none⟩ ∧ B' ≤ g ∧ w.cell? ⟨g, m, none⟩ = some (.iface T (.agg u)) ∧ StV w0 B ps[m] (.iface T (.agg u)) := by
  have hl := hv.len
  rcases h.cases with ⟨h1, h2⟩ | ⟨g, cap, h1, hb, _, h3⟩
  · have : ps = [] := by
      rw [h2] at hl
      exact List.eq_nil_of_length_eq_zero hl.symm
    subst this
    exact ⟨_, _, h1, fun m hm => by simp at hm⟩
  · rw [hl] at h1
    refine ⟨_, _, h1, fun m hm => ?_⟩
    obtain ⟨T, u, h4, h5⟩ := StVs.at m hm hv
    exact ⟨g, T, u, rfl, hb, h3 m _ h4, h5⟩

theorem cntB_le (c : UInt8) (l : List UInt8) : cntB c l ≤ l.length := List.countP_le_length
theorem cntB_snoc (c d : UInt8) (l : List UInt8) : cntB c (l ++ [d]) = cntB c l + if d == c then 1 else 0 := by
  unfold cntB
  rw [List.countP_append]
  by_cases h : d == c <;> simp [h]

theorem fnd_mem {l : List UInt8} {c : UInt8} : fnd l c < 0 ↔ c ∉ l := by
  unfold fnd
  cases h : l.findIdx? (· == c) with
  | none =>
    rw [List.findIdx?_eq_none_iff] at h
    simp
    intro hc; have := h c hc; simp at this
  | some i =>
    rw [List.findIdx?_eq_some_iff_getElem] at h
    obtain ⟨hi, h1, _⟩ := h
    simp at h1
    simp
    refine ⟨by omega, ?_⟩
    rw [← h1]; exact fun hn => absurd (List.getElem_mem hi) hn
def quietP (q : Pg) : Prop := q.letter ≠ 47 ∧ q.letter ≠ 126
theorem plainB_iff (p : Pg) : plainB p = true ↔ ∀ q ∈ p.all, quietP q := by
  unfold plainB quietP
  rw [Bool.and_eq_true, decide_eq_true_eq, decide_eq_true_eq, fnd_mem, fnd_mem]
  simp only [List.mem_map, not_exists, not_and]
  exact ⟨fun h q hq => ⟨h.1 q hq, h.2 q hq⟩, fun h => ⟨fun q hq => (h q hq).1, fun q hq => (h q hq).2⟩⟩

set_option maxRecDepth 100000 in
set_option maxHeartbeats 4000000 in
theorem implPlain_yes (s : ByteArray) (w : World) {p : Pg} (hp : p.ok false) (hs : s.data.toList = p.ser) (hl : s.size ≤ 200) :
    Calls Tryz.prog 33 #[.string s] w (BoolPost (plainB p) w) := by
  have hsz : p.ser.length ≤ 1000 := by have := congrArg List.length hs; simp at this; omega
  have HC := fun w => Lib.hid (prog_yes s w hp hs hl)
  have HW := Lib.hid (win_any p hsz)
  have hal : p.all.length ≤ 1000 := Nat.le_trans p.all_le hsz
  have HPI := Lib.hid (plainB_iff p)
  clear hs
  generalize hpb : plainB p = pb at *
  clear hpb
  go_enter Tryz.func33, Tryz.ntmps33
  go_wp2_with fail
  refine (HC _).out.mono ?_
  rintro e w1 ⟨T, u, rfl, hst, hb⟩
  have HB := Lib.hid hb
  have HST := Lib.hid hst
  clear hb hst
  go_wp2_with fail
  refine (HW.out w1 w.heap.size T u _ HST.out (Below.refl _ _)).mono ?_
  rintro e w2 ⟨sl, vs, rfl, hvs, hrow, hb⟩
  obtain ⟨a, cap, rfl, hat⟩ := stvs_ix hvs hrow
  have HA := Lib.hid hat
  have HB2 := Lib.hid (bnext HB.out hb)
  clear hb hat hrow hvs
  go_wp2_with fail
  generalize p.all = ps at *
  go_loopw [17] (fun v17 wr => ∃ m : Nat, m ≤ ps.length ∧ v17 = .int .i64 m ∧ Hid (∀ q ∈ ps.take m, quietP q) ∧ Hid (Below w2.heap.size w2 wr)) (fun v17 _ => ps.length - (intOf v17).toNat)
  case atStart => exact ⟨0, Nat.zero_le _, rfl, fun q hq => by simp at hq, Below.refl _ _⟩
  case round =>
    obtain ⟨m, hm, rfl, HQ, HB3⟩ := hrel
    by_cases hlt : m < ps.length
    · obtain ⟨g, T1, u1, rfl, _, hc, hst⟩ := HA.out m hlt
      have hc := ckeep HB3.out hc
      have hmem := List.getElem_mem hlt
      have HSN : Hid (quietP ps[m] → ∀ q ∈ ps.take (m + 1), quietP q) := by
        intro hq q hq2
        rw [List.take_succ_eq_append_getElem hlt, List.mem_append] at hq2
        rcases hq2 with h | h
        · exact HQ.out q h
        · simp at h; subst h; exact hq
      have HNO : Hid (¬ quietP ps[m] → pb = false) := by
        intro hq
        cases pb
        · rfl
        · exact absurd (HPI.out.1 rfl _ hmem) hq
      have h0 : (0 : Int) ≤ (m : Int) := by omega
      have h1 : (m : Int) < (ps.length : Int) := by omega
      clear hmem HQ
      generalize ps[m] = q at *
      cases q with
      | skip  =>
        cases hst
        clear HA
        have a1 := tas_cho_skip
        have a2 := tas_asm_skip
        go_wp2_with fail
        go_roundw
        case rel => exact ⟨m + 1, hlt, by go_num, HSN.out (by simp [quietP, Pg.letter]), HB3⟩
        case measure => simp [intOf]; omega
      | asg x y =>
        obtain ⟨va, vb, hst, h0⟩ := hst; cases hst; obtain ⟨pa, pn, pm, rfl, rfl⟩ := RepH.forms h0
        clear h0 HA
        have a1 := tas_cho_asg
        have a2 := tas_asm_asg
        go_wp2_with fail
        go_roundw
        case rel => exact ⟨m + 1, hlt, by go_num, HSN.out (by simp [quietP, Pg.letter]), HB3⟩
        case measure => simp [intOf]; omega
      | seq a b =>
        obtain ⟨va, vb, hst, h1, h2⟩ := hst; cases hst; obtain ⟨T1, u1, rfl⟩ := h1.forms; obtain ⟨T2, u2, rfl⟩ := h2.forms
        clear HA
        have a1 := tas_cho_seq
        have a2 := tas_asm_seq
        go_wp2_with fail
        go_roundw
        case rel => exact ⟨m + 1, hlt, by go_num, HSN.out (by simp [quietP, Pg.letter]), HB3⟩
        case measure => simp [intOf]; omega
      | ite t a b =>
        obtain ⟨vx, vy, va, vb, hst, h0, h1, h2⟩ := hst; cases hst; obtain ⟨pa, pn, pm, rfl, rfl⟩ := RepH.forms h0; obtain ⟨T1, u1, rfl⟩ := h1.forms; obtain ⟨T2, u2, rfl⟩ := h2.forms
        clear h0 HA
        have a1 := tas_cho_ite
        have a2 := tas_asm_ite
        go_wp2_with fail
        go_roundw
        case rel => exact ⟨m + 1, hlt, by go_num, HSN.out (by simp [quietP, Pg.letter]), HB3⟩
        case measure => simp [intOf]; omega
      | whl t a =>
        obtain ⟨vx, vy, va, hst, h0, h1⟩ := hst; cases hst; obtain ⟨pa, pn, pm, rfl, rfl⟩ := RepH.forms h0; obtain ⟨T1, u1, rfl⟩ := h1.forms
        clear h0 HA
        have a1 := tas_cho_whl
        have a2 := tas_asm_whl
        go_wp2_with fail
        go_roundw
        case rel => exact ⟨m + 1, hlt, by go_num, HSN.out (by simp [quietP, Pg.letter]), HB3⟩
        case measure => simp [intOf]; omega
      | cho a b =>
        obtain ⟨va, vb, hst, h1, h2⟩ := hst; cases hst; obtain ⟨T1, u1, rfl⟩ := h1.forms; obtain ⟨T2, u2, rfl⟩ := h2.forms
        clear HA
        have a1 := tas_cho_cho
        have a2 := tas_asm_cho
        go_wp2_with fail
        go_ret
        exact ⟨by rw [HNO.out (by simp [quietP, Pg.letter])]; rfl, bnext HB2.out HB3.out⟩
      | asm t =>
        obtain ⟨vx, vy, hst, h0⟩ := hst; cases hst; obtain ⟨pa, pn, pm, rfl, rfl⟩ := RepH.forms h0
        clear h0 HA
        have a1 := tas_cho_asm
        have a2 := tas_asm_asm
        go_wp2_with fail
        go_ret
        exact ⟨by rw [HNO.out (by simp [quietP, Pg.letter])]; rfl, bnext HB2.out HB3.out⟩
    · have hfin : Hid (pb = true) := by
        refine HPI.out.2 fun q hq => HQ.out q ?_
        rw [List.take_of_length_le (by omega)]; exact hq
      have h1 : ¬ (m : Int) < (ps.length : Int) := by omega
      go_wp2_with fail
      go_ret
      exact ⟨by rw [hfin.out]; rfl, bnext HB2.out HB3.out⟩
set_option maxHeartbeats 1000000 in
theorem implPlain_no (s : ByteArray) (w : World) (h : ¬ (PValid false s.data.toList ∧ s.size ≤ 200)) :
    Calls Tryz.prog 33 #[.string s] w (BoolPost false w) := by
  have HC := fun w => Lib.hid (prog_no s w h)
  clear h
  go_enter Tryz.func33, Tryz.ntmps33
  go_wp2_with fail
  refine (HC _).out.mono ?_
  rintro e w1 ⟨rfl, hb⟩
  have HB := Lib.hid hb
  clear hb
  go_wp2_with fail
  go_ret
  exact ⟨rfl, HB.out⟩
end Go.Proofs.YthmghadepimcnaaGreat

namespace Go.Proofs.YthmghadepimcnaaGreat
open Go.RowKit Tm Go.Great Classical

theorem star_det {α : Type} {R : α → α → Prop} (hd : ∀ u v w, R u v → R u w → v = w) {i j k : α} (h : Star R i j) (hj : ∀ v, ¬ R j v) (h' : Star R i k) (hk : ∀ v, ¬ R k v) : j = k := by
  induction h with
  | refl =>
    cases h' with
    | refl => rfl
    | head hr _ => exact absurd hr (hj _)
  | head hr _ ih =>
    cases h' with
    | refl => exact absurd hr (hk _)
    | head hr2 h2 =>
      rw [hd _ _ _ hr hr2] at ih
      exact ih hj h2
theorem fin_det (M : Mdl) : ∀ (p : Pg), (∀ q ∈ p.all, quietP q) → ∀ i j k, Fin M p i j → Fin M p i k → j = k := by
  intro p
  induction p with
  | skip => intro _ i j k h h'; rw [show j = i from h, show k = i from h']
  | asg v e => intro _ i j k h h'; rw [show j = M.a v e i from h, show k = M.a v e i from h']
  | seq a b iha ihb =>
    rintro hq i j k ⟨m, h1, h2⟩ ⟨n, h3, h4⟩
    have e := iha (fun q hm => hq q (by simp [Pg.all, hm])) i m n h1 h3
    rw [← e] at h4
    exact ihb (fun q hm => hq q (by simp [Pg.all, hm])) m j k h2 h4
  | ite t a b iha ihb =>
    intro hq i j k h h'
    have e : ∀ j, Fin M (.ite t a b) i j ↔ if M.t t i = true then Fin M a i j else Fin M b i j := fun j => Iff.rfl
    rw [e] at h h'
    by_cases ht : M.t t i = true
    · rw [if_pos ht] at h h'
      exact iha (fun q hm => hq q (by simp [Pg.all, hm])) i j k h h'
    · rw [if_neg ht] at h h'
      exact ihb (fun q hm => hq q (by simp [Pg.all, hm])) i j k h h'
  | whl t a iha =>
    rintro hq i j k ⟨h1, h2⟩ ⟨h3, h4⟩
    refine star_det (fun u v w hu hw => iha (fun q hm => hq q (by simp [Pg.all, hm])) u v w hu.2 hw.2) h1 (fun v hv => ?_) h3 (fun v hv => ?_)
    · rw [hv.1] at h2; cases h2
    · rw [hv.1] at h4; cases h4
  | cho a b _ _ =>
    intro hq
    have := (hq (.cho a b) (by simp [Pg.all])).1
    exact absurd rfl this
  | asm t =>
    intro hq
    have := (hq (.asm t) (by simp [Pg.all])).2
    exact absurd rfl this
theorem wF_or_sub {p : Pg} {F G : Nat → Bool} {i : Nat} (h : (wF p F i || wF p G i) = true) : wF p (fun j => F j || G j) i = true := by
  rw [Bool.or_eq_true, wF_iff, wF_iff] at h
  rw [wF_iff]
  intro j hj
  rw [Bool.or_eq_true]
  exact h.elim (fun h => .inl (h j hj)) (fun h => .inr (h j hj))
theorem wF_or {p : Pg} (hq : plainB p = true) {F G : Nat → Bool} {i : Nat} : wF p (fun j => F j || G j) i = (wF p F i || wF p G i) := by
  rw [Bool.eq_iff_iff]
  refine ⟨fun h => ?_, wF_or_sub⟩
  rw [wF_iff] at h
  rw [Bool.or_eq_true, wF_iff, wF_iff]
  by_cases hn : ∃ j, Fin mdl p i j
  · obtain ⟨j, hj⟩ := hn
    have hd := fin_det mdl p ((plainB_iff p).1 hq) i
    have := h j hj
    rw [Bool.or_eq_true] at this
    exact this.elim (fun h => .inl fun k hk => by rw [← hd j k hj hk]; exact h) (fun h => .inr fun k hk => by rw [← hd j k hj hk]; exact h)
  · exact .inl fun j hj => absurd ⟨j, hj⟩ hn
end Go.Proofs.YthmghadepimcnaaGreat

namespace Go.Proofs.YthmghadepimcnaaGreat
open Go.RowKit

theorem infoState : (Tryz.prog.info? 46).map (fun i => (i.zero, i.size, i.bytes)) = some (some (.agg #[.int .i64 0, .int .i64 0, .int .i64 0]), 3, 24) := by kernel_rfl

/-- The cells of the first k states. -/
def stC : Nat → List Value
  | 0 => []
  | k + 1 => stC k ++ [.int .i64 (ax k), .int .i64 (ay k), .int .i64 (az k)]
theorem stC_len (k : Nat) : (stC k).length = k * 3 := by
  induction k with
  | zero => rfl
  | succ k ih => unfold stC; rw [List.length_append, ih]; simp; omega
theorem stC_get (n k : Nat) (h : k < n) : (stC n)[k * 3]? = some (.int .i64 (ax k)) ∧ (stC n)[k * 3 + 1]? = some (.int .i64 (ay k)) ∧ (stC n)[k * 3 + 2]? = some (.int .i64 (az k)) := by
  induction n with
  | zero => omega
  | succ n ih =>
    unfold stC
    by_cases e : k = n
    · subst e
      refine ⟨?_, ?_, ?_⟩ <;> rw [List.getElem?_append_right (by rw [stC_len]; omega), stC_len]
      · rw [show k * 3 - k * 3 = 0 by omega]; rfl
      · rw [show k * 3 + 1 - k * 3 = 1 by omega]; rfl
      · rw [show k * 3 + 2 - k * 3 = 2 by omega]; rfl
    · obtain ⟨h1, h2, h3⟩ := ih (by omega)
      refine ⟨?_, ?_, ?_⟩ <;> rw [List.getElem?_append_left (by rw [stC_len]; omega)] <;> assumption

/-- The list of all states lies at block g. -/
def Sts (w : World) (g : Nat) : Prop := ∀ k, k < 27 → w.cell? ⟨g, k * 3, none⟩ = some (.int .i64 (ax k)) ∧ w.cell? ⟨g, k * 3 + 1, none⟩ = some (.int .i64 (ay k)) ∧ w.cell? ⟨g, k * 3 + 2, none⟩ = some (.int .i64 (az k))
theorem Sts.kept {w w' : World} {g : Nat} (h : Sts w g) (hb : Below w.heap.size w w') : Sts w' g := fun k hk => by
  obtain ⟨h1, h2, h3⟩ := h k hk
  exact ⟨ckeep hb h1, ckeep hb h2, ckeep hb h3⟩

set_option maxRecDepth 100000 in
set_option maxHeartbeats 4000000 in
theorem states_any (w : World) : Calls Tryz.prog 44 #[] w fun e w' => ∃ g cap, 27 ≤ cap ∧ g < w'.heap.size ∧ e = .returned (.slice (some ⟨g, 0, none⟩) 27 cap) ∧ Sts w' g ∧ Below w.heap.size w w' := by
  obtain ⟨i0, hi0, hz0, hz1, hz2⟩ := info_parts infoState
  have HB : Hid (Below w.heap.size w (w.alloc (.cells #[] 46))) := (Below.refl _ _).alloc (Nat.le_refl _) _
  have HR : Hid ((w.alloc (.cells #[] 46)).ownsRow w.heap.size 46 3 (.slice (some ⟨w.heap.size, 0, none⟩) 0 0) 0 (stC 0)) :=
    ⟨rfl, .inr ⟨w.heap.size, 0, #[], rfl, Nat.le_refl _, Blk.new w #[] 46, Nat.le_refl _, by unfold maxLen; omega, rfl, rfl⟩⟩
  go_enter Tryz.func44, Tryz.ntmps44
  go_wp2_with fail
  generalize w.alloc (.cells #[] 46) = w0 at *
  go_loopw [1, 2] (fun v i wr => ∃ k : Nat, k ≤ 27 ∧ i = .int .i64 k ∧ Hid (wr.ownsRow w.heap.size 46 3 v k (stC k)) ∧ Hid (Below w.heap.size w wr)) (fun _ i _ => 27 - (intOf i).toNat)
  case atStart => exact ⟨0, by omega, rfl, HR, HB⟩
  case round =>
    clear HR HB
    obtain ⟨k, hk, rfl, HR, HB⟩ := hrel
    by_cases hlt : k < 27
    · have hlt2 : (k : Int) < 27 := by omega
      go_wp2_with (at_builtin; refine wpList_append_lies _ (by rfl) _ _ _ (by rfl) w.heap.size 46 i0 _ 3 24 Tryz.underlying42 hi0 hz0 hz1 hz2 rfl (by omega) _ _ _ (by rfl) (World.ownsRow.alloc HR.out _) ⟨wr.heap.size, 0, none⟩ 1 1 [.int .i64 ((k : Int) % 3), .int .i64 ((k : Int) / 3 % 3), .int .i64 ((k : Int) / 9)] (by rfl) (by rfl) (World.news_of_block (cs := #[.int .i64 ((k : Int) % 3), .int .i64 ((k : Int) / 3 % 3), .int .i64 ((k : Int) / 9)]) (t := 46) (fr := (0, 0)) (heap_alloc_new wr _)) (by simp [Value.oneCell']) (by omega) (by unfold maxLen; omega) (by omega) (by have := HB.out.size; simp; omega) (wr.heap.size + 1) (by simp) ?_; intro g3 cap3 w3 hown hgrow hat hlt3)
      have hb3 := (HB.out.alloc HB.out.size _).grown hgrow (by have := HB.out.size; simp; omega) (fun k hk => (World.ownsRow.lt HR.out k hk).1)
      exact ⟨⟨k + 1, by omega, by go_num, hown, hb3⟩, by simp [intOf]; omega⟩
    · have hk2 : k = 27 := by omega
      subst hk2
      obtain ⟨g, cap, rfl, hg, hglt⟩ := HR.out.form (by omega)
      have hcap : 27 ≤ cap := by
        rcases HR.out.2 with ⟨h, _⟩ | ⟨g', cap', cur, h, _, _, hc, _⟩
        · simp at h
        · simp at h; omega
      have HS : Hid (Sts wr g) := fun k hk => by
        obtain ⟨h1, h2, h3⟩ := stC_get 27 k hk
        refine ⟨?_, ?_, ?_⟩
        · rw [← h1]; exact World.ownsRow.cellAt HR.out _ (by omega)
        · rw [← h2]; exact World.ownsRow.cellAt HR.out _ (by omega)
        · rw [← h3]; exact World.ownsRow.cellAt HR.out _ (by omega)
      clear HR
      go_wp2_with fail
      go_ret
      exact ⟨g, cap, hcap, hglt, rfl, HS.out, HB.out⟩
end Go.Proofs.YthmghadepimcnaaGreat

namespace Go.Proofs.YthmghadepimcnaaGreat
open Go.RowKit

theorem ixn_at {k : Nat} (hk : k < 27) : ixn (ax k) (ay k) (az k) = k := by
  unfold ixn ax ay az; omega
theorem has_at (p : ByteArray) (hp : Set27 p) (k : Nat) (hk : k < 27) (w : World) : Calls Tryz.prog 45 #[.string p, .agg #[.int .i64 (ax k), .int .i64 (ay k), .int .i64 (az k)]] w fun e w' => e = .returned (.bool (hs p.data.toList k)) ∧ Below w.heap.size w w' := by
  have h := implHasS_yes p (ax k) (ay k) (az k) w hp (at_st3 (i := (k : Int)) (by omega) (by omega))
  rwa [ixn_at hk] at h
end Go.Proofs.YthmghadepimcnaaGreat

namespace Go.Proofs.YthmghadepimcnaaGreat
open Go.RowKit Tm Go.Great

theorem ixh_at {k : Nat} (hk : k < 27) : ixh (ax k) (ay k) (az k) = k := by
  unfold ixh ax ay az; omega
theorem FlowOk.box {w w' : World} {B g : Nat} {sp : Value} {st : Nat} {G : List Stp} (h : FlowOk w B sp st G) (h0 : w.cell? ⟨g, 0, none⟩ = some (.slice none 0 0)) (hg : g < B)
    (hc : ∀ b o v, b ≠ g → w.cell? ⟨b, o, none⟩ = some v → w'.cell? ⟨b, o, none⟩ = some v) : FlowOk w' B sp st G where
  fl := by
    obtain ⟨rb, cap, h1, h2, h3⟩ := h.fl
    refine ⟨rb, cap, h1, h2, fun k s hs => ?_⟩
    obtain ⟨x, y, hx, hy, hS⟩ := h3 k s hs
    have hrb : rb ≠ g := by
      rintro rfl
      have hlt : 0 < G.length := Nat.lt_of_le_of_lt (Nat.zero_le _) h.lt
      obtain ⟨x0, y0, hx0, hy0, hS0⟩ := h3 0 _ (List.getElem?_eq_getElem hlt)
      rw [Nat.zero_mul, h0] at hx0
      obtain rfl : Value.slice none 0 0 = x0 := Option.some.inj hx0
      generalize G[0] = s0 at hS0
      obtain ⟨d, nx⟩ := s0
      cases d with
      | none => exact absurd hS0.1 (by simp)
      | some p => obtain ⟨T, u, e⟩ := StV.forms hS0.1; cases e
    refine ⟨x, y, hc _ _ _ hrb hx, hc _ _ _ hrb hy, ?_⟩
    obtain ⟨d, nx⟩ := s
    cases d with
    | none => exact hS
    | some p =>
      obtain ⟨q1, b, q2, q3⟩ := hS
      refine ⟨StV.keep (fun b o v hb => hc b o v (by omega)) (Nat.le_refl _) q1, b, q2, fun j n hj => ?_⟩
      refine hc _ _ _ ?_ (q3 j n hj)
      rintro rfl
      have hn : 0 < nx.length := by
        rcases Nat.eq_zero_or_pos nx.length with h | h
        · rw [List.length_eq_zero_iff] at h; rw [show (⟨some p, nx⟩ : Stp).nx = nx from rfl, h] at hj; cases hj
        · exact h
      have := q3 0 _ (List.getElem?_eq_getElem hn)
      rw [h0] at this
      cases this
  ok := h.ok
  top := h.top
  sm := h.sm
  lt := h.lt
  bd := h.bd
def StartPost (p : Pg) (i : Nat) (w : World) (e : Ending) (w' : World) : Prop := ∃ B rb cap, e = .returned (.tuple #[.agg #[.slice (some ⟨rb, 0, none⟩) (flG p).length cap, .int .i64 (flS p : Nat)], .int .i64 i, .bool true]) ∧ FlowOk w' B (.slice (some ⟨rb, 0, none⟩) (flG p).length cap) (flS p) (flG p) ∧ Below w.heap.size w w'
set_option maxRecDepth 100000 in
set_option maxHeartbeats 8000000 in
theorem readStart_yes (s : ByteArray) {p : Pg} (hp : p.ok false) (he : s.data.toList = p.ser) (hl : s.size ≤ 200) (x y z : Int) (hst : st3 x y z = true) (w : World) : Calls Tryz.prog 155 #[.string s, .agg #[.int .i64 x, .int .i64 y, .int .i64 z]] w (StartPost p (ixh x y z) w) := by
  have CR := fun w => Lib.hid (prog_yes s w hp he hl)
  have hal : p.all.length ≤ 900 := by have := p.all_le; have := ser_200 he hl; omega
  have CF := fun B v w hv => Lib.hid (flowOf_any p B v w hv hp hal)
  have hi := ixh_lt hst
  have V := fun w => Lib.hid (implStateValid x y z w)
  rw [hst] at V
  have I := fun w => Lib.hid (implIx_yes x y z w hst)
  rw [← hi.2] at I
  have P0 := Lib.hid ((Blk.new w #[.int .i64 x, .int .i64 y, .int .i64 z] 46).alloc (.cells #[.slice none 0 0, .int .i64 0] 59))
  have R0 := Lib.hid (Blk.new (w.alloc (.cells #[.int .i64 x, .int .i64 y, .int .i64 z] 46)) #[.slice none 0 0, .int .i64 0] 59)
  have ka := (Below.refl w.heap.size w).alloc (Nat.le_refl _) (.cells #[.int .i64 x, .int .i64 y, .int .i64 z] 46)
  have KB := Lib.hid (ka.alloc ka.size (.cells #[.slice none 0 0, .int .i64 0] 59))
  have hgz : (w.alloc (.cells #[.int .i64 x, .int .i64 y, .int .i64 z] 46)).heap.size = w.heap.size + 1 := by simp
  rw [hgz] at R0
  clear hp he hl hal hst hi ka hgz
  go_enter Tryz.func155, Tryz.ntmps155
  go_wp2_with fail
  have HZ := Lib.hid R0.out.lt
  generalize (w.alloc (.cells #[.int .i64 x, .int .i64 y, .int .i64 z] 46)).alloc (.cells #[.slice none 0 0, .int .i64 0] 59) = w0 at *
  refine (CR _).out.mono ?_
  rintro e w1 ⟨T, u, rfl, hst, hb⟩
  replace P0 := Lib.hid (P0.out.kept hb)
  replace R0 := Lib.hid (R0.out.kept hb)
  replace KB := Lib.hid (bnext KB.out hb)
  have HS := Lib.hid hst
  clear hb hst
  obtain ⟨p0, p1, p2⟩ := P0.out.c3
  go_wp2_with fail
  clear p0 p1 p2
  refine (V _).out.mono ?_
  rintro e w2 ⟨rfl, hb⟩
  replace P0 := Lib.hid (P0.out.kept hb)
  replace R0 := Lib.hid (R0.out.kept hb)
  replace HS := Lib.hid (StV.below hb HS.out)
  replace KB := Lib.hid (bnext KB.out hb)
  clear hb
  obtain ⟨p0, p1, p2⟩ := P0.out.c3
  go_wp2_with fail
  have CS := Lib.hid (fun w' (hb : Below w2.heap.size w2 w') => (CF _ _ w' (StV.below hb HS.out)).out)
  have r0 := R0.out.cell 0
  have r1 := R0.out.cell 1
  have f0 := R0.out.free 0
  have f1 := R0.out.free 1
  have hlt := R0.out.lt
  have hBz := (Below.refl w2.heap.size w2)
  have hB' := hBz.drew
  have HG : Hid (w.heap.size + 1 < w0.heap.size) := HZ
  clear CF HS P0 R0 V CR
  go_region_with (first
    | (go_at_call 61; (with_reducible refine (CS.out _ hB').mono ?_); rintro e w3 ⟨rb, cap, rfl, hF, hq⟩;
       have p0 := ckeep hq p0; have p1 := ckeep hq p1; have p2 := ckeep hq p2;
       have r0 := ckeep hq r0; have r1 := ckeep hq r1; have f0 := (hq.frozen (p := ⟨w.heap.size + 1, 0, none⟩) hlt).trans f0; have f1 := (hq.frozen (p := ⟨w.heap.size + 1, 1, none⟩) hlt).trans f1;
       have hlt2 := cell_lt r0; have hB2 := hB'.trans (hq.mono hB'.size))
    | (go_at_call 102; (with_reducible refine (I _).out.mono ?_); rintro e w4 ⟨rfl, hq2⟩;
       have h0 := r0;
       have r0 := ckeep hq2 r0; have r1 := ckeep hq2 r1; have f0 := (hq2.frozen (p := ⟨w.heap.size + 1, 0, none⟩) hlt2).trans f0; have f1 := (hq2.frozen (p := ⟨w.heap.size + 1, 1, none⟩) hlt2).trans f1;
       have hB3 := hB2.trans (hq2.mono hB2.size)))
  all_goals
    go_wp2_with fail
    simp only [Act.put]
    have a0 : ((w4.setCell ⟨w.heap.size + 1, 0, none⟩ (.slice (some ⟨rb, 0, none⟩) (flG p).length cap)).setCell ⟨w.heap.size + 1, 1, none⟩ (.int .i64 (flS p : Nat))).cell? ⟨w.heap.size + 1, 0, none⟩ = some (.slice (some ⟨rb, 0, none⟩) (flG p).length cap) := by simp [go_sem, r0]
    have a1 : ((w4.setCell ⟨w.heap.size + 1, 0, none⟩ (.slice (some ⟨rb, 0, none⟩) (flG p).length cap)).setCell ⟨w.heap.size + 1, 1, none⟩ (.int .i64 (flS p : Nat))).cell? ⟨w.heap.size + 1, 1, none⟩ = some (.int .i64 (flS p : Nat)) := by simp [go_sem, r1]
    have hF2 : FlowOk ((w4.setCell ⟨w.heap.size + 1, 0, none⟩ (.slice (some ⟨rb, 0, none⟩) (flG p).length cap)).setCell ⟨w.heap.size + 1, 1, none⟩ (.int .i64 (flS p : Nat))) w0.heap.size (.slice (some ⟨rb, 0, none⟩) (flG p).length cap) (flS p) (flG p) :=
      FlowOk.box hF h0 HG.out fun b o v hne hv => by
        have hv2 := ckeep hq2 hv
        have hne2 : ¬ w.heap.size + 1 = b := fun h => hne h.symm
        simp [go_sem, hv2]
    exact bodyPost_ret (v := .tuple #[.agg #[.slice (some ⟨rb, 0, none⟩) (flG p).length cap, .int .i64 (flS p : Nat)], .int .i64 (ixh x y z), .bool true]) (by simp [results, Tryz.results155, go_sem, a0, a1]) rfl
      ⟨_, rb, cap, rfl, hF2, ((bnext KB.out hB3).setCell (p := ⟨w.heap.size + 1, 0, none⟩) (Nat.le_succ _) _).setCell (p := ⟨w.heap.size + 1, 1, none⟩) (Nat.le_succ _) _⟩
def RunPost (p : Pg) (i : Nat) (w : World) (e : Ending) (w' : World) : Prop := e = .returned (.tuple #[.agg #[.string (bs (tb (rT p i))), .bool (rL p i), .bool (rK p i)], .bool true]) ∧ Below w.heap.size w w'
set_option maxRecDepth 100000 in
set_option maxHeartbeats 8000000 in
theorem implRunsFrom_yes (s : ByteArray) {p : Pg} (hp : p.ok false) (he : s.data.toList = p.ser) (hl : s.size ≤ 200) (x y z : Int) (hst : st3 x y z = true) (w : World) : Calls Tryz.prog 109 #[.string s, .agg #[.int .i64 x, .int .i64 y, .int .i64 z]] w (RunPost p (ixh x y z) w) := by
  have CR := fun w => Lib.hid (readStart_yes s hp he hl x y z hst w)
  have CO := fun {w1 : World} {B : Nat} {sp : Value} (hF : FlowOk w1 B sp (flS p) (flG p)) (w : World) (hb : Below w1.heap.size w1 w) => Lib.hid (outcome_p hF (ixh x y z) (ixh_lt hst).1 w hb)
  clear hp he hl hst
  have R0 := Lib.hid (Blk.new (w.alloc (.cells #[.int .i64 x, .int .i64 y, .int .i64 z] 46)) #[.string (bs []), .bool false, .bool false] 126)
  have ka := (Below.refl w.heap.size w).alloc (Nat.le_refl _) (.cells #[.int .i64 x, .int .i64 y, .int .i64 z] 46)
  have KB := Lib.hid (ka.alloc ka.size (.cells #[.string (bs []), .bool false, .bool false] 126))
  have hgz : (w.alloc (.cells #[.int .i64 x, .int .i64 y, .int .i64 z] 46)).heap.size = w.heap.size + 1 := by simp
  rw [hgz] at R0
  clear ka hgz
  go_enter Tryz.func109, Tryz.ntmps109
  go_wp2_with fail
  generalize hw0 : (w.alloc (.cells #[.int .i64 x, .int .i64 y, .int .i64 z] 46)).alloc (.cells #[.string ⟨#[]⟩, .bool false, .bool false] 126) = w0
  rw [show bs [] = ⟨#[]⟩ from rfl, hw0] at R0 KB
  clear hw0
  refine (CR _).out.mono ?_
  rintro e w1 ⟨B, rb, cap, rfl, hF, hb⟩
  replace R0 := Lib.hid (R0.out.kept hb)
  replace KB := Lib.hid (bnext KB.out hb)
  have HF := Lib.hid hF
  clear hb hF CR
  go_wp2_with fail
  have hax := (Below.refl w1.heap.size w1).alloc (Nat.le_refl _) (.cells #[.slice (some ⟨rb, 0, none⟩) (flG p).length cap, .int .i64 (flS p : Nat)] 59)
  replace R0 := Lib.hid (R0.out.kept hax)
  replace KB := Lib.hid (bnext KB.out hax)
  refine (CO HF.out _ hax).out.mono ?_
  rintro e w2 ⟨rfl, hb⟩
  replace R0 := Lib.hid (R0.out.kept hb)
  replace KB := Lib.hid (bnext KB.out hb)
  clear hb hax CO HF
  unfold outV
  obtain ⟨F, hF⟩ : ∃ F, rT p (ixh x y z) = F := ⟨_, rfl⟩
  obtain ⟨lo, hlo⟩ : ∃ lo, rL p (ixh x y z) = lo := ⟨_, rfl⟩
  obtain ⟨bl, hbl⟩ : ∃ bl, rK p (ixh x y z) = bl := ⟨_, rfl⟩
  rw [hF, hlo, hbl]
  have EF := Lib.hid hF
  have EL := Lib.hid hlo
  have EK := Lib.hid hbl
  clear hF hlo hbl
  have M0 := Lib.hid (Blk.new w2 #[.int .u32 (nb 27 F), .bool lo, .bool bl] 130)
  have hax := (Below.refl w2.heap.size w2).alloc (Nat.le_refl _) (.cells #[.int .u32 (nb 27 F), .bool lo, .bool bl] 130)
  replace R0 := Lib.hid (R0.out.kept hax)
  replace KB := Lib.hid (bnext KB.out hax)
  have CT := fun w => Lib.hid (implText F w)
  clear hax
  go_wp2_with fail
  generalize w2.alloc (.cells #[.int .u32 (nb 27 F), .bool lo, .bool bl] 130) = wx at *
  obtain ⟨g, hg⟩ : ∃ g, w2.heap.size = g := ⟨_, rfl⟩
  rw [hg] at M0 ⊢
  clear hg
  obtain ⟨m0, m1, m2⟩ := M0.out.c3
  obtain ⟨r0, r1, r2⟩ := R0.out.c3
  have f0 := R0.out.free 0
  have f1 := R0.out.free 1
  have f2 := R0.out.free 2
  have hlt := R0.out.lt
  have hB' := (Below.refl wx.heap.size wx).drew
  clear M0 R0
  go_region_with ((go_at_call 65; (with_reducible refine (CT _).out.mono ?_); rintro e w3 ⟨rfl, hq⟩; have m0 := ckeep hq m0; have m1 := ckeep hq m1; have m2 := ckeep hq m2; have r0 := ckeep hq r0; have r1 := ckeep hq r1; have r2 := ckeep hq r2; have f0 := (hq.frozen (p := ⟨w.heap.size + 1, 0, none⟩) hlt).trans f0; have f1 := (hq.frozen (p := ⟨w.heap.size + 1, 1, none⟩) hlt).trans f1; have f2 := (hq.frozen (p := ⟨w.heap.size + 1, 2, none⟩) hlt).trans f2; have hB3 := hB'.trans (hq.mono hB'.size)))
  all_goals
    go_wp2_with fail
    try simp only [Act.put]
    have a0 : (((w3.setCell ⟨w.heap.size + 1, 0, none⟩ (.string (bs (tb F)))).setCell ⟨w.heap.size + 1, 1, none⟩ (.bool lo)).setCell ⟨w.heap.size + 1, 2, none⟩ (.bool bl)).cell? ⟨w.heap.size + 1, 0, none⟩ = some (.string (bs (tb F))) := by simp [go_sem, r0]
    have a1 : (((w3.setCell ⟨w.heap.size + 1, 0, none⟩ (.string (bs (tb F)))).setCell ⟨w.heap.size + 1, 1, none⟩ (.bool lo)).setCell ⟨w.heap.size + 1, 2, none⟩ (.bool bl)).cell? ⟨w.heap.size + 1, 1, none⟩ = some (.bool lo) := by simp [go_sem, r1]
    have a2 : (((w3.setCell ⟨w.heap.size + 1, 0, none⟩ (.string (bs (tb F)))).setCell ⟨w.heap.size + 1, 1, none⟩ (.bool lo)).setCell ⟨w.heap.size + 1, 2, none⟩ (.bool bl)).cell? ⟨w.heap.size + 1, 2, none⟩ = some (.bool bl) := by simp [go_sem, r2]
    exact bodyPost_ret (v := .tuple #[.agg #[.string (bs (tb F)), .bool lo, .bool bl], .bool true]) (by simp [results, Tryz.results109, go_sem, a0, a1, a2]) rfl
      ⟨by rw [EF.out, EL.out, EK.out], (((bnext KB.out hB3).setCell (p := ⟨w.heap.size + 1, 0, none⟩) (Nat.le_succ _) _).setCell (p := ⟨w.heap.size + 1, 1, none⟩) (Nat.le_succ _) _).setCell (p := ⟨w.heap.size + 1, 2, none⟩) (Nat.le_succ _) _⟩
end Go.Proofs.YthmghadepimcnaaGreat

namespace Go.Proofs.YthmghadepimcnaaGreat
open Go.RowKit Tm

theorem head_at (s b : ByteArray) {t : Tm} {p : Pg} (ht : Ok false true t) (hs0 : s.data.toList = t.ser) (hl : s.size ≤ 200) (hp : p.ok false) (he : b.data.toList = p.ser) (hl2 : b.size ≤ 200) (k : Nat) (hk : k < 27) (w : World) : Calls Tryz.prog 46 #[.string s, .string b, .agg #[.int .i64 (ax k), .int .i64 (ay k), .int .i64 (az k)]] w fun e w' => e = .returned (.tuple #[.string (bs (tb (hdS (tst t) (rT p) k))), .bool true]) ∧ Below w.heap.size w w' := by
  have h := implHead_yes s b ht hs0 hl hp he hl2 (ax k) (ay k) (az k) (at_st3 (i := (k : Int)) (by omega) (by omega)) w
  rwa [ixh_at hk] at h
theorem finals_at (s : ByteArray) {p : Pg} (hp : p.ok false) (he : s.data.toList = p.ser) (hl : s.size ≤ 200) (k : Nat) (hk : k < 27) (w : World) : Calls Tryz.prog 57 #[.string s, .agg #[.int .i64 (ax k), .int .i64 (ay k), .int .i64 (az k)]] w fun e w' => e = .returned (.string (bs (tb (rT p k)))) ∧ Below w.heap.size w w' := by
  have h := fun w => Lib.hid (implRunsFrom_yes s hp he hl (ax k) (ay k) (az k) (at_st3 (i := (k : Int)) (by omega) (by omega)) w)
  rw [ixh_at hk] at h
  exact ppFinals_of s _ _ _ _ _ _ true h w
end Go.Proofs.YthmghadepimcnaaGreat
