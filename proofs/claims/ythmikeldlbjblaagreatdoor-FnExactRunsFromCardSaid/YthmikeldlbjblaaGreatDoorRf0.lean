/-
  RunsFrom of the model.
-/
import Derived.Test.YthmikeldlbjblaaGreatDoorEq
import Derived.Test.YthmikeldlbjblaaGreatDoorRe0
import Derived.Deep.RegionHeld
namespace Go.Proofs.YthmikeldlbjblaaGreatDoor
open Go.RowKit Tm Go.Great Go.ChangeMaps

def noC : Array Value := #[.string ⟨#[]⟩, .bool false, .bool false]
noncomputable def rfC (p : Pg) (i : Nat) : Array Value := #[.string (bs (tb (rT p i))), .bool (rL p i), .bool (rK p i)]
noncomputable def rfV (p : Pg) (i : Nat) : Value := .tuple #[.agg #[.string (bs (tb (rT p i))), .bool (rL p i), .bool (rK p i)], .bool true]
def rfNo : Value := .tuple #[.agg #[.string ⟨#[]⟩, .bool false, .bool false], .bool false]

set_option maxRecDepth 1000000 in
set_option maxHeartbeats 8000000 in
theorem specRf_yes (p : Pg) (x y z : Int) (i : Nat) (w : World) (hp : p.ok false) (hl : p.ser.length ≤ 200) (h : st3 x y z = true) (hi : (i : Int) = x + 3 * y + 9 * z) :
    Calls Tryz.prog 26 #[.string (bs p.ser), .agg #[.int .i64 x, .int .i64 y, .int .i64 z]] w fun e w' => e = .returned (rfV p i) ∧ Below w.heap.size w w' := by
  have hlt : i < 27 := by
    obtain ⟨hx0, hx1, hy0, hy1, hz0, hz1⟩ := st3_lt h
    omega
  have V1 := fun w => Lib.hid ((PV.of hp hl).t w)
  have V2 := fun w => Lib.hid (specStateValid x y z w)
  rw [h] at V2
  have R1 := fun w => Lib.hid (run_any p hp hl w)
  have I0 := fun w => Lib.hid (specIx0 x y z w h)
  rw [← hi] at I0
  have CT := fun w => Lib.hid (specTextS (rT p i) w)
  have C1 := fun w => Lib.hid (specInS (rL p) i hlt w)
  have C2 := fun w => Lib.hid (specInS (rK p) i hlt w)
  unfold AllPost at R1
  unfold rfV
  generalize rL p i = lb at *
  generalize rK p i = kb at *
  generalize hT : rT p = T at *
  generalize rL p = L at *
  generalize rK p = K at *
  generalize bs p.ser = s at *
  generalize bs (tb (T i)) = txt at *
  have G0 : Hid (Blk ((w.alloc (.cells #[.int .i64 x, .int .i64 y, .int .i64 z] 24)).alloc (.cells #[.string ⟨#[]⟩, .bool false, .bool false] 31)) (w.heap.size + 1) #[.string ⟨#[]⟩, .bool false, .bool false] 31) := by
    have := Blk.new (w.alloc (.cells #[.int .i64 x, .int .i64 y, .int .i64 z] 24)) #[.string ⟨#[]⟩, .bool false, .bool false] 31
    rwa [show (w.alloc (.cells #[.int .i64 x, .int .i64 y, .int .i64 z] 24)).heap.size = w.heap.size + 1 by simp] at this
  have S0 := Lib.hid ((Blk.new w #[.int .i64 x, .int .i64 y, .int .i64 z] 24).alloc (.cells #[.string ⟨#[]⟩, .bool false, .bool false] 31))
  have HB0 := Lib.hid (((Below.refl w.heap.size w).alloc (Nat.le_refl _) (.cells #[.int .i64 x, .int .i64 y, .int .i64 z] 24)).alloc (by simp) (.cells #[.string ⟨#[]⟩, .bool false, .bool false] 31))
  clear h hi hT hp hl
  go_enter Tryz.func26, Tryz.ntmps26
  go_wp2_with fail
  generalize (w.alloc (.cells #[.int .i64 x, .int .i64 y, .int .i64 z] 24)).alloc (.cells #[.string ⟨#[]⟩, .bool false, .bool false] 31) = w0 at *
  refine (V1 _).out.mono ?_
  rintro e w1 ⟨rfl, hb⟩
  replace G0 := Lib.hid (G0.out.kept hb)
  replace S0 := Lib.hid (S0.out.kept hb)
  replace HB0 := Lib.hid (bmore HB0.out HB0.out.size hb)
  clear hb
  obtain ⟨q0, q1, q2⟩ := S0.out.c3
  go_wp2_with fail
  clear q0 q1 q2
  refine (V2 _).out.mono ?_
  rintro e w2 ⟨rfl, hb⟩
  replace G0 := Lib.hid (G0.out.kept hb)
  replace S0 := Lib.hid (S0.out.kept hb)
  replace HB0 := Lib.hid (bmore HB0.out HB0.out.size hb)
  clear hb
  go_wp2_with fail
  refine (R1 _).out.mono ?_
  rintro e w3 ⟨rfl, hb⟩
  replace G0 := Lib.hid (G0.out.kept hb)
  replace S0 := Lib.hid (S0.out.kept hb)
  replace HB0 := Lib.hid (bmore HB0.out HB0.out.size hb)
  have gl3 := G0.out.lt
  have hgl := Lib.hid gl3
  have sl3 := S0.out.lt
  have K0 := Lib.hid (Blk.new w3 (allC noT noS noS) 51)
  have K1 := Lib.hid (K0.out.row (allC T L K))
  replace G0 := Lib.hid ((G0.out.alloc (.cells (allC noT noS noS) 51)).rowOther (g := w3.heap.size) (by omega) (allC T L K))
  replace S0 := Lib.hid ((S0.out.alloc (.cells (allC noT noS noS) 51)).rowOther (g := w3.heap.size) (by omega) (allC T L K))
  replace HB0 := Lib.hid (Below.setRow (HB0.out.alloc HB0.out.size (.cells (allC noT noS noS) 51)) (g := w3.heap.size) HB0.out.size (allC T L K))
  clear hb
  obtain ⟨q0, q1, q2⟩ := S0.out.c3
  go_wp2_with (first
    | (refine ar_alloc rfl rfl (some 6) rfl w3.heap.size rfl ?_)
    | (refine wpList_store_row rfl 51 _ _ rfl w3.heap.size (allC T L K) (by rfl) (by rfl) 51 (allC noT noS noS) K0.out (infoAll' _ _ _) (by rw [allC_size, allC_size]) (allC_one _ _ _) ?_))
  generalize (w3.alloc (.cells (allC noT noS noS) 51)).setRow w3.heap.size (allC T L K) = w4 at *
  clear q0 q1 q2 K0 V1 V2 R1
  refine (I0 _).out.mono ?_
  rintro e wx ⟨rfl, hb⟩
  replace G0 := Lib.hid (G0.out.kept hb)
  replace K1 := Lib.hid (K1.out.kept hb)
  replace HB0 := Lib.hid (bmore HB0.out HB0.out.size hb)
  clear hb S0 sl3 I0
  go_wp2_with fail
  have hne : w3.heap.size ≠ w.heap.size + 1 := by omega
  generalize w3.heap.size = ga at *
  have hlt2 : (i : Int) < 27 := by omega
  have hi0 : (0 : Int) ≤ i := by omega
  have x0 : wx.cell? ⟨ga, i, none⟩ = some (.int .i64 (nb 27 (T i))) := (K1.out.cell i).trans (allC_get _ _ _ hlt)
  have x1 : wx.cell? ⟨ga, 27, none⟩ = some (.int .i64 (nb 27 L)) := (K1.out.cell 27).trans (allC_L _ _ _)
  have x2 : wx.cell? ⟨ga, 28, none⟩ = some (.int .i64 (nb 27 K)) := (K1.out.cell 28).trans (allC_K _ _ _)
  have hbb := (Below.refl wx.heap.size wx).drew
  have RG : ∀ w', Below wx.heap.size wx w' → (fun w' => Below w.heap.size w w' ∧ w'.cell? ⟨ga, i, none⟩ = some (.int .i64 (nb 27 (T i))) ∧ w'.cell? ⟨ga, 27, none⟩ = some (.int .i64 (nb 27 L)) ∧ w'.cell? ⟨ga, 28, none⟩ = some (.int .i64 (nb 27 K))) w' := fun w' h => ⟨bmore HB0.out HB0.out.size h, ckeep h x0, ckeep h x1, ckeep h x2⟩
  have RG' := Lib.hid RG
  clear RG x0 x1 x2
  refine wp_region_held_drew (S := fun w' => Below w.heap.size w w' ∧ w'.cell? ⟨ga, i, none⟩ = some (.int .i64 (nb 27 (T i))) ∧ w'.cell? ⟨ga, 27, none⟩ = some (.int .i64 (nb 27 L)) ∧ w'.cell? ⟨ga, 28, none⟩ = some (.int .i64 (nb 27 K))) (by kernel_rfl) (RG'.out _ hbb) (fun hHeld => ?_)
  refine wpAnyH_take (i := 0) (oi := { dst := some 21, op := _, type := _, pos := _, after := _, guard := _ }) (v := ?_) rfl (by kernel_rfl) (by kernel_rfl) (by kernel_rfl) (fun _ _ _ h => h) (Or.inl ⟨by kernel_rfl, ?_⟩) hHeld ?_
  rotate_left
  · intro w hSw
    (try dsimp only at hSw)
    go_simp
    first | done | with_reducible rfl
  simp only [Act.put]
  refine wpAnyH_take (i := 1) (oi := { dst := some 22, op := _, type := _, pos := _, after := _, guard := _ }) (v := ?_) rfl (by kernel_rfl) (by kernel_rfl) (by kernel_rfl) (fun _ _ _ h => h) (Or.inl ⟨by kernel_rfl, ?_⟩) hHeld ?_
  rotate_left
  · intro w hSw
    (try dsimp only at hSw)
    go_simp
    first | done | with_reducible rfl
  simp only [Act.put]
  refine wpAnyH_take (i := 2) (oi := { dst := some 23, op := _, type := _, pos := _, after := _, guard := _ }) (v := ?_) rfl (by kernel_rfl) (by kernel_rfl) (by kernel_rfl) (fun _ _ _ h => h) (Or.inl ⟨by kernel_rfl, ?_⟩) hHeld ?_
  rotate_left
  · intro w hSw
    (try dsimp only at hSw)
    go_simp
    first | done | with_reducible rfl
  simp only [Act.put]
  refine wpAnyH_take (i := 3) (oi := { dst := some 24, op := _, type := _, pos := _, after := _, guard := _ }) (v := ?_) rfl (by kernel_rfl) (by kernel_rfl) (by kernel_rfl) (fun _ _ _ h => h) (Or.inl ⟨by kernel_rfl, ?_⟩) hHeld ?_
  rotate_left
  · intro w hSw
    (try dsimp only at hSw)
    go_simp
    first | done | with_reducible rfl
  simp only [Act.put]
  refine wpAnyH_take (i := 5) (oi := { dst := some 26, op := _, type := _, pos := _, after := _, guard := _ }) (v := ?_) rfl (by kernel_rfl) (by kernel_rfl) (by kernel_rfl) (fun _ _ _ h => h) (Or.inl ⟨by kernel_rfl, ?_⟩) hHeld ?_
  rotate_left
  · intro w hSw
    (try dsimp only at hSw)
    go_simp
    first | done | with_reducible rfl
  simp only [Act.put]
  refine wpAnyH_take (i := 6) (oi := { dst := some 27, op := _, type := _, pos := _, after := _, guard := _ }) (v := ?_) rfl (by kernel_rfl) (by kernel_rfl) (by kernel_rfl) (fun _ _ _ h => h) (Or.inl ⟨by kernel_rfl, ?_⟩) hHeld ?_
  rotate_left
  · intro w hSw
    (try dsimp only at hSw)
    go_simp
    first | done | with_reducible rfl
  simp only [Act.put]
  refine wpAnyH_take (i := 7) (oi := { dst := some 28, op := _, type := _, pos := _, after := _, guard := _ }) (v := ?_) rfl (by kernel_rfl) (by kernel_rfl) (by kernel_rfl) (fun _ _ _ h => h) (Or.inl ⟨by kernel_rfl, ?_⟩) hHeld ?_
  rotate_left
  · intro w hSw
    (try dsimp only at hSw)
    go_simp
    first | done | with_reducible rfl
  simp only [Act.put]
  refine wpAnyH_take (i := 9) (oi := { dst := some 30, op := _, type := _, pos := _, after := _, guard := _ }) (v := ?_) rfl (by kernel_rfl) (by kernel_rfl) (by kernel_rfl) (fun _ _ _ h => h) (Or.inl ⟨by kernel_rfl, ?_⟩) hHeld ?_
  rotate_left
  · intro w hSw
    (try dsimp only at hSw)
    go_simp
    first | done | with_reducible rfl
  simp only [Act.put]
  refine wpAnyH_take (i := 10) (oi := { dst := some 31, op := _, type := _, pos := _, after := _, guard := _ }) (v := ?_) rfl (by kernel_rfl) (by kernel_rfl) (by kernel_rfl) (fun _ _ _ h => h) (Or.inl ⟨by kernel_rfl, ?_⟩) hHeld ?_
  rotate_left
  · intro w hSw
    (try dsimp only at hSw)
    go_simp
    first | done | with_reducible rfl
  simp only [Act.put]
  refine wpAnyH_take (i := 11) (oi := { dst := some 32, op := _, type := _, pos := _, after := _, guard := _ }) (v := ?_) rfl (by kernel_rfl) (by kernel_rfl) (by kernel_rfl) (fun _ _ _ h => h) (Or.inl ⟨by kernel_rfl, ?_⟩) hHeld ?_
  rotate_left
  · intro w hSw
    (try dsimp only at hSw)
    go_simp
    first | done | with_reducible rfl
  simp only [Act.put]
  refine wpAnyH_ready (rs := [4]) (by kernel_rfl) (by simp) ?_
  refine AllReadyH.cons rfl (fun K hK => ?_) AllReadyH.nil
  go_simp
  (with_reducible refine (CT _).out.mono ?_)
  rintro e w5 ⟨rfl, hq⟩
  go_wp2_with fail
  have HQ := Lib.hid (bnext hbb hq)
  refine hK.out _ _ (RG'.out _ (bnext hbb hq)) (fun hHeld => ?_)
  clear hq
  clear hK K
  try simp only [Act.put]
  refine wpAnyH_ready (rs := [8]) (by kernel_rfl) (by simp) ?_
  refine AllReadyH.cons rfl (fun K hK => ?_) AllReadyH.nil
  go_simp
  (with_reducible refine (C1 _).out.mono ?_)
  rintro e w5 ⟨rfl, rfl⟩
  go_wp2_with fail
  refine hK.out _ _ hHeld (fun hHeld => ?_)
  clear hK K
  try simp only [Act.put]
  refine wpAnyH_ready (rs := [12]) (by kernel_rfl) (by simp) ?_
  refine AllReadyH.cons rfl (fun K hK => ?_) AllReadyH.nil
  go_simp
  (with_reducible refine (C2 _).out.mono ?_)
  rintro e w5 ⟨rfl, rfl⟩
  go_wp2_with fail
  refine hK.out _ _ hHeld (fun hHeld => ?_)
  clear hK K
  try simp only [Act.put]
  refine wpAnyH_take (i := 13) (oi := { dst := some 34, op := _, type := _, pos := _, after := _, guard := _ }) (v := ?_) rfl (by kernel_rfl) (by kernel_rfl) (by kernel_rfl) (fun _ _ _ h => h) (Or.inl ⟨by kernel_rfl, ?_⟩) hHeld ?_
  rotate_left
  · intro w hSw
    (try dsimp only at hSw)
    go_simp
    first | done | with_reducible rfl
  simp only [Act.put]
  have Z := Lib.hid (G0.out.kept HQ.out)
  obtain ⟨z0, z1, z2, u0, u1, u2⟩ := Z.out.a3
  have hg := Z.out.lt
  refine wpAnyH_ready (rs := [14]) (by kernel_rfl) (by simp) ?_
  refine AllReadyH.cons rfl (fun K hK => ?_) AllReadyH.nil
  go_simp
  have HZ := Lib.hid hHeld
  refine hK.out _ _ ⟨by (repeat refine Below.setCell ?_ (by simp) _); exact HZ.out.1, ?_, ?_, ?_⟩ (fun hHeld => ?_)
  · rw [World.cell?_setCell_far _ _ _ _ (fun e => hne e.symm), World.cell?_setCell_far _ _ _ _ (fun e => hne e.symm), World.cell?_setCell_far _ _ _ _ (fun e => hne e.symm)]; exact HZ.out.2.1
  · rw [World.cell?_setCell_far _ _ _ _ (fun e => hne e.symm), World.cell?_setCell_far _ _ _ _ (fun e => hne e.symm), World.cell?_setCell_far _ _ _ _ (fun e => hne e.symm)]; exact HZ.out.2.2.1
  · rw [World.cell?_setCell_far _ _ _ _ (fun e => hne e.symm), World.cell?_setCell_far _ _ _ _ (fun e => hne e.symm), World.cell?_setCell_far _ _ _ _ (fun e => hne e.symm)]; exact HZ.out.2.2.2
  clear hK K
  try simp only [Act.put]
  refine wpAnyH_take (i := 15) (oi := { dst := some 5, op := .assign (.const (.bool true)), type := _, pos := _, after := _, guard := _ }) (v := ?_) rfl (by kernel_rfl) (by kernel_rfl) (by kernel_rfl) (fun _ _ _ h => h) (Or.inl ⟨by kernel_rfl, ?_⟩) hHeld ?_
  rotate_left
  · intro w hSw
    (try dsimp only at hSw)
    go_simp
    first | done | with_reducible rfl
  simp only [Act.put]
  refine wpAnyH_done (by kernel_rfl) ?_ _
  have HF := Lib.hid hHeld.1
  go_wp2_with fail
  exact bodyPost_ret (v := .tuple #[.agg #[.string txt, .bool lb, .bool kb], .bool true]) (by simp [results, Tryz.results26, go_sem, z0, z1, z2]) rfl ⟨rfl, HF.out⟩

set_option maxHeartbeats 4000000 in
theorem specRf_noA (s : ByteArray) (x y z : Int) (w : World) (h : ¬ PV s) :
    Calls Tryz.prog 26 #[.string s, .agg #[.int .i64 x, .int .i64 y, .int .i64 z]] w fun e w' => e = .returned rfNo ∧ Below w.heap.size w w' := by
  have V1 := fun w => Lib.hid (PV.f h w)
  clear h
  have G0 : Hid (Blk ((w.alloc (.cells #[.int .i64 x, .int .i64 y, .int .i64 z] 24)).alloc (.cells #[.string ⟨#[]⟩, .bool false, .bool false] 31)) (w.heap.size + 1) #[.string ⟨#[]⟩, .bool false, .bool false] 31) := by
    have := Blk.new (w.alloc (.cells #[.int .i64 x, .int .i64 y, .int .i64 z] 24)) #[.string ⟨#[]⟩, .bool false, .bool false] 31
    rwa [show (w.alloc (.cells #[.int .i64 x, .int .i64 y, .int .i64 z] 24)).heap.size = w.heap.size + 1 by simp] at this
  have S0 := Lib.hid ((Blk.new w #[.int .i64 x, .int .i64 y, .int .i64 z] 24).alloc (.cells #[.string ⟨#[]⟩, .bool false, .bool false] 31))
  have HB0 := Lib.hid (((Below.refl w.heap.size w).alloc (Nat.le_refl _) (.cells #[.int .i64 x, .int .i64 y, .int .i64 z] 24)).alloc (by simp) (.cells #[.string ⟨#[]⟩, .bool false, .bool false] 31))
  go_enter Tryz.func26, Tryz.ntmps26
  go_wp2_with fail
  generalize (w.alloc (.cells #[.int .i64 x, .int .i64 y, .int .i64 z] 24)).alloc (.cells #[.string ⟨#[]⟩, .bool false, .bool false] 31) = w0 at *
  refine (V1 _).out.mono ?_
  rintro e w1 ⟨rfl, hb⟩
  replace G0 := Lib.hid (G0.out.kept hb)
  replace S0 := Lib.hid (S0.out.kept hb)
  replace HB0 := Lib.hid (bmore HB0.out HB0.out.size hb)
  clear hb
  obtain ⟨z0, z1, z2, u0, u1, u2⟩ := G0.out.a3
  go_wp2_with fail
  exact bodyPost_ret (v := .tuple #[.agg #[.string ⟨#[]⟩, .bool false, .bool false], .bool false]) (by simp [results, Tryz.results26, go_sem, z0, z1, z2]) rfl ⟨rfl, by (repeat refine Below.setCell ?_ (by simp) _); exact HB0.out⟩

set_option maxHeartbeats 4000000 in
theorem specRf_noB (s : ByteArray) (x y z : Int) (w : World) (h : PV s) (h2 : st3 x y z = false) :
    Calls Tryz.prog 26 #[.string s, .agg #[.int .i64 x, .int .i64 y, .int .i64 z]] w fun e w' => e = .returned rfNo ∧ Below w.heap.size w w' := by
  have V1 := fun w => Lib.hid (h.t w)
  have V2 := fun w => Lib.hid (specStateValid x y z w)
  rw [h2] at V2
  clear h h2
  have G0 : Hid (Blk ((w.alloc (.cells #[.int .i64 x, .int .i64 y, .int .i64 z] 24)).alloc (.cells #[.string ⟨#[]⟩, .bool false, .bool false] 31)) (w.heap.size + 1) #[.string ⟨#[]⟩, .bool false, .bool false] 31) := by
    have := Blk.new (w.alloc (.cells #[.int .i64 x, .int .i64 y, .int .i64 z] 24)) #[.string ⟨#[]⟩, .bool false, .bool false] 31
    rwa [show (w.alloc (.cells #[.int .i64 x, .int .i64 y, .int .i64 z] 24)).heap.size = w.heap.size + 1 by simp] at this
  have S0 := Lib.hid ((Blk.new w #[.int .i64 x, .int .i64 y, .int .i64 z] 24).alloc (.cells #[.string ⟨#[]⟩, .bool false, .bool false] 31))
  have HB0 := Lib.hid (((Below.refl w.heap.size w).alloc (Nat.le_refl _) (.cells #[.int .i64 x, .int .i64 y, .int .i64 z] 24)).alloc (by simp) (.cells #[.string ⟨#[]⟩, .bool false, .bool false] 31))
  go_enter Tryz.func26, Tryz.ntmps26
  go_wp2_with fail
  generalize (w.alloc (.cells #[.int .i64 x, .int .i64 y, .int .i64 z] 24)).alloc (.cells #[.string ⟨#[]⟩, .bool false, .bool false] 31) = w0 at *
  refine (V1 _).out.mono ?_
  rintro e w1 ⟨rfl, hb⟩
  replace G0 := Lib.hid (G0.out.kept hb)
  replace S0 := Lib.hid (S0.out.kept hb)
  replace HB0 := Lib.hid (bmore HB0.out HB0.out.size hb)
  clear hb
  obtain ⟨q0, q1, q2⟩ := S0.out.c3
  go_wp2_with fail
  clear q0 q1 q2
  refine (V2 _).out.mono ?_
  rintro e w2 ⟨rfl, hb⟩
  replace G0 := Lib.hid (G0.out.kept hb)
  replace HB0 := Lib.hid (bmore HB0.out HB0.out.size hb)
  clear hb
  obtain ⟨z0, z1, z2, u0, u1, u2⟩ := G0.out.a3
  go_wp2_with fail
  exact bodyPost_ret (v := .tuple #[.agg #[.string ⟨#[]⟩, .bool false, .bool false], .bool false]) (by simp [results, Tryz.results26, go_sem, z0, z1, z2]) rfl ⟨rfl, by (repeat refine Below.setCell ?_ (by simp) _); exact HB0.out⟩
end Go.Proofs.YthmikeldlbjblaaGreatDoor
