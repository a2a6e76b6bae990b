import Derived.Test.YtgkoljphndgoeaaGreatDoorUn0
import Derived.Deep.RegionHeld
import Derived.Deep.MidRow
namespace Go.Proofs.YtgkoljphndgoeaaGreatDoor
open Go.RowKit Tm Go.Great Go.ChangeMaps
theorem load_all {w : World} {g : Nat} {cs : Array Value} (h : Blk w g cs 85) (hi : (Tryz.prog.info? 85).map (·.size) = some cs.size) : (loadVar 85 ⟨g, 0, none⟩).run Tryz.prog w = .ok (.agg cs) w := by
 have := run_loadVar_mid (P := Tryz.prog) w g 0 85 cs.toList _ (fun j v hv => by rw [Nat.zero_add, h.cell j]; simpa using hv) undAll rfl (by rw [Array.length_toList]; exact hi)
 rw [Array.toArray_toList] at this
 exact this
set_option maxRecDepth 1000000 in
set_option maxHeartbeats 8000000 in
theorem specIdem_yes (p : Pg) (w : World) (hp : p.ok false) (hl : p.ser.length ≤ 200) :
  Calls Tryz.prog 26 #[.string (bs p.ser)] w fun e w' => e = .returned (.bool (allO eqO (thO (oc p) (oc p)) (oc p))) ∧ Below w.heap.size w w' := by
 rw [← idem_pure]
 have V1 := fun w => Lib.hid ((PV.of hp hl).t w)
 have R1 := fun w => Lib.hid (run_any p hp hl w)
 have R3 := fun w => Lib.hid (specSeq (rT p) (rT p) (rL p) (rK p) (rL p) (rK p) w)
 have HE := run_eqAll (sqT (rT p) (rT p)) (sqS (rT p) (rL p) (rL p)) (sqS (rT p) (rK p) (rK p)) (rT p) (rL p) (rK p)
 unfold AllPost at R1 R3
 have z1 := infoAll' (rT p) (rL p) (rK p)
 have z2 : (allC noT noS noS).size = (allC (rT p) (rL p) (rK p)).size := by rw [allC_size, allC_size]
 have z3 := allC_one (rT p) (rL p) (rK p)
 generalize allC (sqT (rT p) (rT p)) (sqS (rT p) (rL p) (rL p)) (sqS (rT p) (rK p) (rK p)) = C3 at *
 generalize allC (rT p) (rL p) (rK p) = C1 at *
 generalize allEq (sqT (rT p) (rT p)) (sqS (rT p) (rL p) (rL p)) (sqS (rT p) (rK p) (rK p)) (rT p) (rL p) (rK p) = res at *
 generalize bs p.ser = s at *
 have z4 := Lib.hid z1
 have z5 := Lib.hid z2
 have z6 := Lib.hid z3
 clear z1 z2 z3
 go_enter Tryz.func26, Tryz.ntmps26
 go_wp2_with fail
 refine (V1 _).out.mono ?_
 rintro e w1 ⟨rfl, hb1⟩
 go_wp2_with fail
 refine (R1 _).out.mono ?_
 rintro e w3 ⟨rfl, hb3⟩
 have HB := Lib.hid (bnext hb1 hb3)
 clear hb1 hb3
 have K0 := Lib.hid (Blk.new w3 (allC noT noS noS) 85)
 have K1 := Lib.hid (K0.out.row C1)
 replace HB := Lib.hid (Below.setRow (HB.out.alloc HB.out.size (.cells (allC noT noS noS) 85)) (g := w3.heap.size) HB.out.size C1)
 go_wp2_with (first
  | (refine ar_alloc rfl rfl (some 3) rfl w3.heap.size rfl ?_)
  | (refine wpList_store_row rfl 85 _ _ rfl w3.heap.size C1 (by rfl) (by rfl) 85 (allC noT noS noS) K0.out z4.out z5.out z6.out ?_))
 clear K0 V1 R1
 generalize (w3.alloc (.cells (allC noT noS noS) 85)).setRow w3.heap.size C1 = wx at *
 have hbb := (Below.refl wx.heap.size wx).drew
 have RG : ∀ w', Below wx.heap.size wx w' → (fun w' => Below wx.heap.size wx w' ∧ (loadVar 85 ⟨w3.heap.size, 0, none⟩).run Tryz.prog w' = .ok (.agg C1) w') w' := fun w' h => ⟨h, load_all (K1.out.kept h) z4.out⟩
 have RG' := Lib.hid RG
 clear RG
 refine wp_region_held_drew (S := fun w' => Below wx.heap.size wx w' ∧ (loadVar 85 ⟨w3.heap.size, 0, none⟩).run Tryz.prog w' = .ok (.agg C1) w') (by kernel_rfl) (RG'.out _ hbb) (fun hHeld => ?_)
 refine wpAnyH_take (i := 0) (v := .agg C1) rfl (by kernel_rfl) (by kernel_rfl) (by kernel_rfl) (fun _ _ _ h => h) (yields_row (by rfl) rfl rfl fun w hSw => hSw.2) hHeld ?_
 simp only [Act.put]
 refine wpAnyH_take (i := 1) (v := .agg C1) rfl (by kernel_rfl) (by kernel_rfl) (by kernel_rfl) (fun _ _ _ h => h) (yields_row (by rfl) rfl rfl fun w hSw => hSw.2) hHeld ?_
 simp only [Act.put]
 refine wpAnyH_take (i := 3) (v := .agg C1) rfl (by kernel_rfl) (by kernel_rfl) (by kernel_rfl) (fun _ _ _ h => h) (yields_row (by rfl) rfl rfl fun w hSw => hSw.2) hHeld ?_
 simp only [Act.put]
 refine wpAnyH_ready (rs := [2]) (by kernel_rfl) (by simp) ?_
 refine AllReadyH.cons rfl (fun K hK => ?_) AllReadyH.nil
 go_simp
 (with_reducible refine (R3 _).out.mono ?_)
 rintro e w5 ⟨rfl, hq⟩
 go_wp2_with fail
 refine hK.out _ _ (RG'.out _ (bnext hHeld.1 hq)) (fun hHeld => ?_)
 clear hK K
 try simp only [Act.put]
 refine wpAnyH_take (i := 4) (oi := { dst := some 13, op := _, type := _, pos := _, after := _, guard := none }) (v := ?_) rfl (by kernel_rfl) (by kernel_rfl) (by kernel_rfl) (fun _ _ _ h => h) (Or.inl ⟨by rfl, ?_⟩) hHeld ?_
 rotate_left
 ·intro w hSw
  (try dsimp only at hSw)
  go_simp
  first | done | with_reducible rfl
 simp only [Act.put]
 refine wpAnyH_take (i := 5) (oi := { dst := some 2, op := .assign (.tmp 13), type := _, pos := _, after := _, guard := none }) (v := ?_) rfl (by kernel_rfl) (by kernel_rfl) (by kernel_rfl) (fun _ _ _ h => h) (Or.inl ⟨by rfl, ?_⟩) hHeld ?_
 rotate_left
 ·intro w hSw
  (try dsimp only at hSw)
  go_simp
  first | done | with_reducible rfl
 simp only [Act.put]
 refine wpAnyH_done (by kernel_rfl) ?_ _
 have HF := Lib.hid (bnext HB.out hHeld.1)
 go_wp2_with fail
 go_ret
 exact ⟨rfl, HF.out⟩
set_option maxHeartbeats 4000000 in
theorem specIdem_no (s : ByteArray) (w : World) (h : ¬ PV s) : Calls Tryz.prog 26 #[.string s] w fun e w' => e = .returned (.bool false) ∧ Below w.heap.size w w' := by
 have V1 := fun w => Lib.hid (PV.f h w)
 clear h
 go_enter Tryz.func26, Tryz.ntmps26
 go_wp2_with fail
 refine (V1 _).out.mono ?_
 rintro e w1 ⟨rfl, hb1⟩
 have HB := Lib.hid hb1
 clear hb1
 go_wp2_with fail
 go_ret
 exact ⟨rfl, HB.out⟩
end Go.Proofs.YtgkoljphndgoeaaGreatDoor
