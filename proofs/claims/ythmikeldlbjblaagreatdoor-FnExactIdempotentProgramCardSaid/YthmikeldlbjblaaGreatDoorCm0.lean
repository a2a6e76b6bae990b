/-
  IdempotentProgram and CommutePrograms: both sides.
-/
import Derived.Test.YthmikeldlbjblaaGreatDoorUn0
import Derived.Deep.RegionHeld
import Derived.Deep.MidRow
namespace Go.Proofs.YthmikeldlbjblaaGreatDoor
open Go.RowKit Tm Go.Great Go.ChangeMaps

theorem yields_row {ops : Array Oper} {S : World → Prop} {op : Oper} {a : Act} {x : Operand} {t : TypeId} {p : Addr} {v : Value} (hw : Region.wanted op (yielded ops a.tmps) = true) (ho : op.op = .load t x) (hx : a.eval x = .pointer (some p)) (hS : ∀ w, S w → (loadVar t p).run Tryz.prog w = .ok v w) : YieldsIf Tryz.prog ops S op v a :=
  .inl ⟨hw, fun w hw' => by
    unfold execOp
    simp only [ho, hx, Instr.loadAt, Instr.sureAddr, Sem.run_bind, Sem.run_pure, Result.andThen_ok, hS w hw']⟩
theorem load_all {w : World} {g : Nat} {cs : Array Value} (h : Blk w g cs 51) (hi : (Tryz.prog.info? 51).map (·.size) = some cs.size) : (loadVar 51 ⟨g, 0, none⟩).run Tryz.prog w = .ok (.agg cs) w := by
  have := run_loadVar_mid (P := Tryz.prog) w g 0 51 cs.toList _ (fun j v hv => by rw [Nat.zero_add, h.cell j]; simpa using hv) undAll rfl (by rw [Array.length_toList]; exact hi)
  rw [Array.toArray_toList] at this
  exact this
theorem comm_pure (p q : Pg) : allEq (sqT (rT p) (rT q)) (sqS (rT p) (rL q) (rL p)) (sqS (rT p) (rK q) (rK p)) (sqT (rT q) (rT p)) (sqS (rT q) (rL p) (rL q)) (sqS (rT q) (rK p) (rK q)) = allO eqO (thO (oc p) (oc q)) (thO (oc q) (oc p)) := by
  rw [allEq_O]; rfl

set_option maxRecDepth 1000000 in
set_option maxHeartbeats 8000000 in
theorem specIdem_yes (p : Pg) (w : World) (hp : p.ok false) (hl : p.ser.length ≤ 200) :
    Calls Tryz.prog 22 #[.string (bs p.ser)] w fun e w' => e = .returned (.bool (allO eqO (thO (oc p) (oc p)) (oc p))) ∧ Below w.heap.size w w' := by
  rw [← idem_pure]
  have V1 := fun w => Lib.hid ((PV.of hp hl).t w)
  have R1 := fun w => Lib.hid (run_any p hp hl w)
  have R3 := fun w => Lib.hid (specSeq (rT p) (rT p) (rL p) (rK p) (rL p) (rK p) w)
  have HE := run_eqAll (sqT (rT p) (rT p)) (sqS (rT p) (rL p) (rL p)) (sqS (rT p) (rK p) (rK p)) (rT p) (rL p) (rK p)
  unfold AllPost at R1 R3
  have z1 := infoAll' (rT p) (rL p) (rK p)
  have z2 : (allC noT noS noS).size = (allC (rT p) (rL p) (rK p)).size := by rw [allC_size, allC_size]
  have z3 := allC_one (rT p) (rL p) (rK p)
  generalize allC (sqT (rT p) (rT p)) (sqS (rT p) (rL p) (rL p)) (sqS (rT p) (rK p) (rK p)) = C3 at *
  generalize allC (rT p) (rL p) (rK p) = C1 at *
  generalize allEq (sqT (rT p) (rT p)) (sqS (rT p) (rL p) (rL p)) (sqS (rT p) (rK p) (rK p)) (rT p) (rL p) (rK p) = res at *
  generalize bs p.ser = s at *
  have z4 := Lib.hid z1
  have z5 := Lib.hid z2
  have z6 := Lib.hid z3
  clear z1 z2 z3
  go_enter Tryz.func22, Tryz.ntmps22
  go_wp2_with fail
  refine (V1 _).out.mono ?_
  rintro e w1 ⟨rfl, hb1⟩
  go_wp2_with fail
  refine (R1 _).out.mono ?_
  rintro e w3 ⟨rfl, hb3⟩
  have HB := Lib.hid (bnext hb1 hb3)
  clear hb1 hb3
  have K0 := Lib.hid (Blk.new w3 (allC noT noS noS) 51)
  have K1 := Lib.hid (K0.out.row C1)
  replace HB := Lib.hid (Below.setRow (HB.out.alloc HB.out.size (.cells (allC noT noS noS) 51)) (g := w3.heap.size) HB.out.size C1)
  go_wp2_with (first
    | (refine ar_alloc rfl rfl (some 3) rfl w3.heap.size rfl ?_)
    | (refine wpList_store_row rfl 51 _ _ rfl w3.heap.size C1 (by rfl) (by rfl) 51 (allC noT noS noS) K0.out z4.out z5.out z6.out ?_))
  clear K0 V1 R1
  generalize (w3.alloc (.cells (allC noT noS noS) 51)).setRow w3.heap.size C1 = wx at *
  have hbb := (Below.refl wx.heap.size wx).drew
  have RG : ∀ w', Below wx.heap.size wx w' → (fun w' => Below wx.heap.size wx w' ∧ (loadVar 51 ⟨w3.heap.size, 0, none⟩).run Tryz.prog w' = .ok (.agg C1) w') w' := fun w' h => ⟨h, load_all (K1.out.kept h) z4.out⟩
  have RG' := Lib.hid RG
  clear RG
  refine wp_region_held_drew (S := fun w' => Below wx.heap.size wx w' ∧ (loadVar 51 ⟨w3.heap.size, 0, none⟩).run Tryz.prog w' = .ok (.agg C1) w') (by kernel_rfl) (RG'.out _ hbb) (fun hHeld => ?_)
  refine wpAnyH_take (i := 0) (v := .agg C1) rfl (by kernel_rfl) (by kernel_rfl) (by kernel_rfl) (fun _ _ _ h => h) (yields_row (by rfl) rfl rfl fun w hSw => hSw.2) hHeld ?_
  simp only [Act.put]
  refine wpAnyH_take (i := 1) (v := .agg C1) rfl (by kernel_rfl) (by kernel_rfl) (by kernel_rfl) (fun _ _ _ h => h) (yields_row (by rfl) rfl rfl fun w hSw => hSw.2) hHeld ?_
  simp only [Act.put]
  refine wpAnyH_take (i := 3) (v := .agg C1) rfl (by kernel_rfl) (by kernel_rfl) (by kernel_rfl) (fun _ _ _ h => h) (yields_row (by rfl) rfl rfl fun w hSw => hSw.2) hHeld ?_
  simp only [Act.put]
  refine wpAnyH_ready (rs := [2]) (by kernel_rfl) (by simp) ?_
  refine AllReadyH.cons rfl (fun K hK => ?_) AllReadyH.nil
  go_simp
  (with_reducible refine (R3 _).out.mono ?_)
  rintro e w5 ⟨rfl, hq⟩
  go_wp2_with fail
  refine hK.out _ _ (RG'.out _ (bnext hHeld.1 hq)) (fun hHeld => ?_)
  clear hK K
  try simp only [Act.put]
  refine wpAnyH_take (i := 4) (oi := { dst := some 13, op := _, type := _, pos := _, after := _, guard := none }) (v := ?_) rfl (by kernel_rfl) (by kernel_rfl) (by kernel_rfl) (fun _ _ _ h => h) (Or.inl ⟨by rfl, ?_⟩) hHeld ?_
  rotate_left
  · intro w hSw
    (try dsimp only at hSw)
    go_simp
    first | done | with_reducible rfl
  simp only [Act.put]
  refine wpAnyH_take (i := 5) (oi := { dst := some 2, op := .assign (.tmp 13), type := _, pos := _, after := _, guard := none }) (v := ?_) rfl (by kernel_rfl) (by kernel_rfl) (by kernel_rfl) (fun _ _ _ h => h) (Or.inl ⟨by rfl, ?_⟩) hHeld ?_
  rotate_left
  · intro w hSw
    (try dsimp only at hSw)
    go_simp
    first | done | with_reducible rfl
  simp only [Act.put]
  refine wpAnyH_done (by kernel_rfl) ?_ _
  have HF := Lib.hid (bnext HB.out hHeld.1)
  go_wp2_with fail
  go_ret
  exact ⟨rfl, HF.out⟩
set_option maxHeartbeats 4000000 in
theorem specIdem_no (s : ByteArray) (w : World) (h : ¬ PV s) : Calls Tryz.prog 22 #[.string s] w fun e w' => e = .returned (.bool false) ∧ Below w.heap.size w w' := by
  have V1 := fun w => Lib.hid (PV.f h w)
  clear h
  go_enter Tryz.func22, Tryz.ntmps22
  go_wp2_with fail
  refine (V1 _).out.mono ?_
  rintro e w1 ⟨rfl, hb1⟩
  have HB := Lib.hid hb1
  clear hb1
  go_wp2_with fail
  go_ret
  exact ⟨rfl, HB.out⟩

set_option maxRecDepth 1000000 in
set_option maxHeartbeats 8000000 in
theorem specComm_yes (p q : Pg) (w : World) (hp : p.ok false) (hl : p.ser.length ≤ 200) (hq : q.ok false) (hm : q.ser.length ≤ 200) :
    Calls Tryz.prog 20 #[.string (bs p.ser), .string (bs q.ser)] w fun e w' => e = .returned (.bool (allO eqO (thO (oc p) (oc q)) (thO (oc q) (oc p)))) ∧ Below w.heap.size w w' := by
  rw [← comm_pure]
  have V1 := fun w => Lib.hid ((PV.of hp hl).t w)
  have V2 := fun w => Lib.hid ((PV.of hq hm).t w)
  have R1 := fun w => Lib.hid (run_any p hp hl w)
  have R2 := fun w => Lib.hid (run_any q hq hm w)
  have R3 := fun w => Lib.hid (specSeq (rT p) (rT q) (rL p) (rK p) (rL q) (rK q) w)
  have R4 := fun w => Lib.hid (specSeq (rT q) (rT p) (rL q) (rK q) (rL p) (rK p) w)
  have HE := run_eqAll (sqT (rT p) (rT q)) (sqS (rT p) (rL q) (rL p)) (sqS (rT p) (rK q) (rK p)) (sqT (rT q) (rT p)) (sqS (rT q) (rL p) (rL q)) (sqS (rT q) (rK p) (rK q))
  unfold AllPost at R1 R2 R3 R4
  have z4 := Lib.hid (infoAll' (rT p) (rL p) (rK p))
  have z5 : Hid ((allC noT noS noS).size = (allC (rT p) (rL p) (rK p)).size) := by show _ = _; rw [allC_size, allC_size]
  have z6 := Lib.hid (allC_one (rT p) (rL p) (rK p))
  have y4 := Lib.hid (infoAll' (rT q) (rL q) (rK q))
  have y5 : Hid ((allC noT noS noS).size = (allC (rT q) (rL q) (rK q)).size) := by show _ = _; rw [allC_size, allC_size]
  have y6 := Lib.hid (allC_one (rT q) (rL q) (rK q))
  generalize allEq (sqT (rT p) (rT q)) (sqS (rT p) (rL q) (rL p)) (sqS (rT p) (rK q) (rK p)) (sqT (rT q) (rT p)) (sqS (rT q) (rL p) (rL q)) (sqS (rT q) (rK p) (rK q)) = res at *
  generalize allC (sqT (rT p) (rT q)) (sqS (rT p) (rL q) (rL p)) (sqS (rT p) (rK q) (rK p)) = C3 at *
  generalize allC (sqT (rT q) (rT p)) (sqS (rT q) (rL p) (rL q)) (sqS (rT q) (rK p) (rK q)) = C4 at *
  generalize allC (rT p) (rL p) (rK p) = C1 at *
  generalize allC (rT q) (rL q) (rK q) = C2 at *
  generalize bs p.ser = s at *
  generalize bs q.ser = t at *
  go_enter Tryz.func20, Tryz.ntmps20
  go_wp2_with fail
  refine (V1 _).out.mono ?_
  rintro e w1 ⟨rfl, hb1⟩
  go_wp2_with fail
  refine (V2 _).out.mono ?_
  rintro e w2 ⟨rfl, hb2⟩
  go_wp2_with fail
  refine (R1 _).out.mono ?_
  rintro e w3 ⟨rfl, hb3⟩
  have HB := Lib.hid (bnext (bnext hb1 hb2) hb3)
  clear hb1 hb2 hb3
  have K0 := Lib.hid (Blk.new w3 (allC noT noS noS) 51)
  have K1 := Lib.hid (K0.out.row C1)
  replace HB := Lib.hid (Below.setRow (HB.out.alloc HB.out.size (.cells (allC noT noS noS) 51)) (g := w3.heap.size) HB.out.size C1)
  go_wp2_with (first
    | (refine ar_alloc rfl rfl (some 5) rfl w3.heap.size rfl ?_)
    | (refine wpList_store_row rfl 51 _ _ rfl w3.heap.size C1 (by rfl) (by rfl) 51 (allC noT noS noS) K0.out z4.out z5.out z6.out ?_))
  generalize (w3.alloc (.cells (allC noT noS noS) 51)).setRow w3.heap.size C1 = w4 at *
  refine (R2 _).out.mono ?_
  rintro e w5 ⟨rfl, hb5⟩
  have J0 := Lib.hid (Blk.new w5 (allC noT noS noS) 51)
  have J1 := Lib.hid (J0.out.row C2)
  have hlt5 := (K1.out.kept hb5).lt
  have K5 := Lib.hid ((((K1.out.kept hb5).alloc (.cells (allC noT noS noS) 51))).rowOther (g := w5.heap.size) (by omega) C2)
  replace HB := Lib.hid (bnext HB.out hb5)
  replace HB := Lib.hid (Below.setRow (HB.out.alloc HB.out.size (.cells (allC noT noS noS) 51)) (g := w5.heap.size) HB.out.size C2)
  clear hb5
  go_wp2_with (first
    | (refine ar_alloc rfl rfl (some 6) rfl w5.heap.size rfl ?_)
    | (refine wpList_store_row rfl 51 _ _ rfl w5.heap.size C2 (by rfl) (by rfl) 51 (allC noT noS noS) J0.out y4.out y5.out y6.out ?_))
  clear K0 K1 J0 V1 V2 R1 R2 hlt5
  generalize (w5.alloc (.cells (allC noT noS noS) 51)).setRow w5.heap.size C2 = wx at *
  generalize w3.heap.size = ga at *
  generalize w5.heap.size = gb at *
  have hbb := (Below.refl wx.heap.size wx).drew
  have RG : ∀ w', Below wx.heap.size wx w' → (fun w' => Below wx.heap.size wx w' ∧ (loadVar 51 ⟨ga, 0, none⟩).run Tryz.prog w' = .ok (.agg C1) w' ∧ (loadVar 51 ⟨gb, 0, none⟩).run Tryz.prog w' = .ok (.agg C2) w') w' := fun w' h => ⟨h, load_all (K5.out.kept h) z4.out, load_all (J1.out.kept h) y4.out⟩
  have RG' := Lib.hid RG
  clear RG
  refine wp_region_held_drew (S := fun w' => Below wx.heap.size wx w' ∧ (loadVar 51 ⟨ga, 0, none⟩).run Tryz.prog w' = .ok (.agg C1) w' ∧ (loadVar 51 ⟨gb, 0, none⟩).run Tryz.prog w' = .ok (.agg C2) w') (by kernel_rfl) (RG'.out _ hbb) (fun hHeld => ?_)
  refine wpAnyH_take (i := 0) (v := .agg C1) rfl (by kernel_rfl) (by kernel_rfl) (by kernel_rfl) (fun _ _ _ h => h) (yields_row (by rfl) rfl rfl fun w hSw => hSw.2.1) hHeld ?_
  simp only [Act.put]
  refine wpAnyH_take (i := 1) (v := .agg C2) rfl (by kernel_rfl) (by kernel_rfl) (by kernel_rfl) (fun _ _ _ h => h) (yields_row (by rfl) rfl rfl fun w hSw => hSw.2.2) hHeld ?_
  simp only [Act.put]
  refine wpAnyH_take (i := 3) (v := .agg C2) rfl (by kernel_rfl) (by kernel_rfl) (by kernel_rfl) (fun _ _ _ h => h) (yields_row (by rfl) rfl rfl fun w hSw => hSw.2.2) hHeld ?_
  simp only [Act.put]
  refine wpAnyH_take (i := 4) (v := .agg C1) rfl (by kernel_rfl) (by kernel_rfl) (by kernel_rfl) (fun _ _ _ h => h) (yields_row (by rfl) rfl rfl fun w hSw => hSw.2.1) hHeld ?_
  simp only [Act.put]
  refine wpAnyH_ready (rs := [2]) (by kernel_rfl) (by simp) ?_
  refine AllReadyH.cons rfl (fun K hK => ?_) AllReadyH.nil
  go_simp
  (with_reducible refine (R3 _).out.mono ?_)
  rintro e w5 ⟨rfl, hq⟩
  go_wp2_with fail
  refine hK.out _ _ (RG'.out _ (bnext hHeld.1 hq)) (fun hHeld => ?_)
  clear hK K
  try simp only [Act.put]
  refine wpAnyH_ready (rs := [5]) (by kernel_rfl) (by simp) ?_
  refine AllReadyH.cons rfl (fun K hK => ?_) AllReadyH.nil
  go_simp
  (with_reducible refine (R4 _).out.mono ?_)
  rintro e w5 ⟨rfl, hq⟩
  go_wp2_with fail
  refine hK.out _ _ (RG'.out _ (bnext hHeld.1 hq)) (fun hHeld => ?_)
  clear hK K
  try simp only [Act.put]
  refine wpAnyH_take (i := 6) (oi := { dst := some 25, op := _, type := _, pos := _, after := _, guard := none }) (v := ?_) rfl (by kernel_rfl) (by kernel_rfl) (by kernel_rfl) (fun _ _ _ h => h) (Or.inl ⟨by rfl, ?_⟩) hHeld ?_
  rotate_left
  · intro w hSw
    (try dsimp only at hSw)
    go_simp
    first | done | with_reducible rfl
  simp only [Act.put]
  refine wpAnyH_take (i := 7) (oi := { dst := some 4, op := .assign (.tmp 25), type := _, pos := _, after := _, guard := none }) (v := ?_) rfl (by kernel_rfl) (by kernel_rfl) (by kernel_rfl) (fun _ _ _ h => h) (Or.inl ⟨by rfl, ?_⟩) hHeld ?_
  rotate_left
  · intro w hSw
    (try dsimp only at hSw)
    go_simp
    first | done | with_reducible rfl
  simp only [Act.put]
  refine wpAnyH_done (by kernel_rfl) ?_ _
  have HF := Lib.hid (bnext HB.out hHeld.1)
  go_wp2_with fail
  go_ret
  exact ⟨rfl, HF.out⟩
set_option maxHeartbeats 4000000 in
theorem specComm_no (s t : ByteArray) (w : World) (h : ¬ (PV s ∧ PV t)) : Calls Tryz.prog 20 #[.string s, .string t] w fun e w' => e = .returned (.bool false) ∧ Below w.heap.size w w' := by
  by_cases h1 : PV s
  · have h2 : ¬ PV t := fun h2 => h ⟨h1, h2⟩
    have V1 := fun w => Lib.hid (h1.t w)
    have V2 := fun w => Lib.hid (PV.f h2 w)
    clear h h1 h2
    go_enter Tryz.func20, Tryz.ntmps20
    go_wp2_with fail
    refine (V1 _).out.mono ?_
    rintro e w1 ⟨rfl, hb1⟩
    go_wp2_with fail
    refine (V2 _).out.mono ?_
    rintro e w2 ⟨rfl, hb2⟩
    have HB := Lib.hid (bnext hb1 hb2)
    clear hb1 hb2
    go_wp2_with fail
    go_ret
    exact ⟨rfl, HB.out⟩
  · have V1 := fun w => Lib.hid (PV.f h1 w)
    clear h h1
    go_enter Tryz.func20, Tryz.ntmps20
    go_wp2_with fail
    refine (V1 _).out.mono ?_
    rintro e w1 ⟨rfl, hb1⟩
    have HB := Lib.hid hb1
    clear hb1
    go_wp2_with fail
    go_ret
    exact ⟨rfl, HB.out⟩

set_option maxRecDepth 100000 in
set_option maxHeartbeats 4000000 in
theorem implComm_yes (s t : ByteArray) (w : World) {p q : Pg} (hp : p.ok false) (hs : s.data.toList = p.ser) (hl : s.size ≤ 200) (hq : q.ok false) (ht : t.data.toList = q.ser) (hm : t.size ≤ 200) :
    Calls Tryz.prog 21 #[.string s, .string t] w fun e w' => e = .returned (.bool (allO eqO (thO (oc p) (oc q)) (thO (oc q) (oc p)))) ∧ Below w.heap.size w w' := by
  have C := fun w => Lib.hid (readOut_yes s t w hp hs hl hq ht hm)
  clear hs ht
  go_enter Tryz.func21, Tryz.ntmps21
  go_wp2_with fail
  refine (C _).out.mono ?_
  rintro e w2 ⟨r1, r2, B, B', rfl, h1, h2, hb⟩
  have HB := Lib.hid hb
  have C1 := Lib.hid (then_any _ _ B B' _ _ w2 h1 h2)
  have H1 := Lib.hid h1
  have H2 := Lib.hid h2
  obtain ⟨g1, c1, rfl, _, _⟩ := h1.form
  obtain ⟨g2, c2, rfl, _, _⟩ := h2.form
  clear h1 h2 hb C
  go_wp2_with fail
  refine C1.out.mono ?_
  rintro e w3 ⟨r3, rfl, h3, hb⟩
  have HB3 := Lib.hid (bnext HB.out hb)
  have H3 := Lib.hid h3
  have C2 := Lib.hid (then_any _ _ B' B _ _ w3 (H2.out.kept hb) (H1.out.kept hb))
  obtain ⟨g3, c3, rfl, _, _⟩ := h3.form
  clear hb h3 C1
  go_wp2_with fail
  refine C2.out.mono ?_
  rintro e w4 ⟨r4, rfl, h4, hb⟩
  have HB4 := Lib.hid (bnext HB3.out hb)
  have C3 := Lib.hid (same_any _ _ _ _ _ _ w4 (H3.out.kept hb) h4)
  obtain ⟨g4, c4, rfl, _, _⟩ := h4.form
  clear hb h4 C2 H3
  go_wp2_with fail
  refine C3.out.mono ?_
  rintro e w5 ⟨rfl, hb⟩
  have HB5 := Lib.hid (bnext HB4.out hb)
  clear hb
  go_wp2_with fail
  go_ret
  exact ⟨rfl, HB5.out⟩
set_option maxHeartbeats 2000000 in
theorem implComm_no (s t : ByteArray) (w : World) (h : ¬ ((PValid false s.data.toList ∧ s.size ≤ 200) ∧ PValid false t.data.toList ∧ t.size ≤ 200)) :
    Calls Tryz.prog 21 #[.string s, .string t] w fun e w' => e = .returned (.bool false) ∧ Below w.heap.size w w' := by
  have C := fun w => Lib.hid (readOut_no s t w h)
  clear h
  go_enter Tryz.func21, Tryz.ntmps21
  go_wp2_with fail
  refine (C _).out.mono ?_
  rintro e w2 ⟨rfl, hb⟩
  have HB := Lib.hid hb
  clear hb C
  go_wp2_with fail
  go_ret
  exact ⟨rfl, HB.out⟩
end Go.Proofs.YthmikeldlbjblaaGreatDoor
