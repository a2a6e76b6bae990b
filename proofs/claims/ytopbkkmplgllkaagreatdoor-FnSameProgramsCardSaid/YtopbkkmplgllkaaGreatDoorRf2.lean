/-
  RunsFrom of the program, both cases.
-/
import Derived.Test.YtopbkkmplgllkaaGreatDoorRf1
namespace Go.Proofs.YtopbkkmplgllkaaGreatDoor
open Go.RowKit Tm Go.Great Go.ChangeMaps

def StartNo (w : World) (e : Ending) (w' : World) : Prop := e = .returned (.tuple #[.agg #[.slice none 0 0, .int .i64 0], .int .i64 0, .bool false]) ∧ Below w.heap.size w w'

set_option maxHeartbeats 4000000 in
theorem readStart_noA (s : ByteArray) (x y z : Int) (w : World) (h : ¬ (PValid false s.data.toList ∧ s.size ≤ 200)) :
    Calls Tryz.prog 33 #[.string s, .agg #[.int .i64 x, .int .i64 y, .int .i64 z]] w (StartNo w) := by
  have C1 := fun w => Lib.hid (prog_no s w h)
  clear h
  have G0 : Hid (Blk ((w.alloc (.cells #[.int .i64 x, .int .i64 y, .int .i64 z] 30)).alloc (.cells #[.slice none 0 0, .int .i64 0] 71)) (w.heap.size + 1) #[.slice none 0 0, .int .i64 0] 71) := by
    have := Blk.new (w.alloc (.cells #[.int .i64 x, .int .i64 y, .int .i64 z] 30)) #[.slice none 0 0, .int .i64 0] 71
    rwa [show (w.alloc (.cells #[.int .i64 x, .int .i64 y, .int .i64 z] 30)).heap.size = w.heap.size + 1 by simp] at this
  have S0 := Lib.hid ((Blk.new w #[.int .i64 x, .int .i64 y, .int .i64 z] 30).alloc (.cells #[.slice none 0 0, .int .i64 0] 71))
  have HB0 := Lib.hid (((Below.refl w.heap.size w).alloc (Nat.le_refl _) (.cells #[.int .i64 x, .int .i64 y, .int .i64 z] 30)).alloc (by simp) (.cells #[.slice none 0 0, .int .i64 0] 71))
  go_enter Tryz.func33, Tryz.ntmps33
  go_wp2_with fail
  generalize (w.alloc (.cells #[.int .i64 x, .int .i64 y, .int .i64 z] 30)).alloc (.cells #[.slice none 0 0, .int .i64 0] 71) = w0 at *
  refine (C1 _).out.mono ?_
  rintro e w1 ⟨rfl, hb⟩
  replace G0 := Lib.hid (G0.out.kept hb)
  replace HB0 := Lib.hid (bmore HB0.out HB0.out.size hb)
  clear hb C1 S0
  have z0 := G0.out.cell 0
  have z1 := G0.out.cell 1
  have u0 := G0.out.free 0
  have u1 := G0.out.free 1
  simp only [List.getElem?_toArray, List.getElem?_cons_zero, List.getElem?_cons_succ] at z0 z1
  go_wp2_with fail
  exact bodyPost_ret (v := .tuple #[.agg #[.slice none 0 0, .int .i64 0], .int .i64 0, .bool false]) (by simp [results, Tryz.results33, go_sem, z0, z1]) rfl ⟨rfl, by (repeat refine Below.setCell ?_ (by simp) _); exact HB0.out⟩
set_option maxHeartbeats 4000000 in
theorem readStart_noB (s : ByteArray) (x y z : Int) (w : World) {p : Pg} (hp : p.ok false) (hs : s.data.toList = p.ser) (hl : s.size ≤ 200) (h : st3 x y z = false) :
    Calls Tryz.prog 33 #[.string s, .agg #[.int .i64 x, .int .i64 y, .int .i64 z]] w (StartNo w) := by
  have C1 := fun w => Lib.hid (prog_yes s w hp hs hl)
  have C2 := fun w => Lib.hid (implStateValid x y z w)
  rw [h] at C2
  clear h hp hs hl
  have G0 : Hid (Blk ((w.alloc (.cells #[.int .i64 x, .int .i64 y, .int .i64 z] 30)).alloc (.cells #[.slice none 0 0, .int .i64 0] 71)) (w.heap.size + 1) #[.slice none 0 0, .int .i64 0] 71) := by
    have := Blk.new (w.alloc (.cells #[.int .i64 x, .int .i64 y, .int .i64 z] 30)) #[.slice none 0 0, .int .i64 0] 71
    rwa [show (w.alloc (.cells #[.int .i64 x, .int .i64 y, .int .i64 z] 30)).heap.size = w.heap.size + 1 by simp] at this
  have S0 := Lib.hid ((Blk.new w #[.int .i64 x, .int .i64 y, .int .i64 z] 30).alloc (.cells #[.slice none 0 0, .int .i64 0] 71))
  have HB0 := Lib.hid (((Below.refl w.heap.size w).alloc (Nat.le_refl _) (.cells #[.int .i64 x, .int .i64 y, .int .i64 z] 30)).alloc (by simp) (.cells #[.slice none 0 0, .int .i64 0] 71))
  go_enter Tryz.func33, Tryz.ntmps33
  go_wp2_with fail
  generalize (w.alloc (.cells #[.int .i64 x, .int .i64 y, .int .i64 z] 30)).alloc (.cells #[.slice none 0 0, .int .i64 0] 71) = w0 at *
  refine (C1 _).out.mono ?_
  rintro e w1 ⟨T, u, rfl, _, hb⟩
  replace G0 := Lib.hid (G0.out.kept hb)
  replace S0 := Lib.hid (S0.out.kept hb)
  replace HB0 := Lib.hid (bmore HB0.out HB0.out.size hb)
  clear hb C1
  obtain ⟨q0, q1, q2⟩ := S0.out.c3
  go_wp2_with fail
  clear q0 q1 q2
  refine (C2 _).out.mono ?_
  rintro e w2 ⟨rfl, hb⟩
  replace G0 := Lib.hid (G0.out.kept hb)
  replace HB0 := Lib.hid (bmore HB0.out HB0.out.size hb)
  clear hb C2 S0
  have z0 := G0.out.cell 0
  have z1 := G0.out.cell 1
  have u0 := G0.out.free 0
  have u1 := G0.out.free 1
  simp only [List.getElem?_toArray, List.getElem?_cons_zero, List.getElem?_cons_succ] at z0 z1
  go_wp2_with fail
  exact bodyPost_ret (v := .tuple #[.agg #[.slice none 0 0, .int .i64 0], .int .i64 0, .bool false]) (by simp [results, Tryz.results33, go_sem, z0, z1]) rfl ⟨rfl, by (repeat refine Below.setCell ?_ (by simp) _); exact HB0.out⟩

set_option maxHeartbeats 4000000 in
theorem implRf_no (s : ByteArray) (x y z : Int) (w : World) (c : ∀ w, Calls Tryz.prog 33 #[.string s, .agg #[.int .i64 x, .int .i64 y, .int .i64 z]] w (StartNo w)) :
    Calls Tryz.prog 16 #[.string s, .agg #[.int .i64 x, .int .i64 y, .int .i64 z]] w fun e w' => e = .returned rfNo ∧ Below w.heap.size w w' := by
  have C := fun w => Lib.hid (c w)
  clear c
  have G0 : Hid (Blk ((w.alloc (.cells #[.int .i64 x, .int .i64 y, .int .i64 z] 30)).alloc (.cells #[.string ⟨#[]⟩, .bool false, .bool false] 34)) (w.heap.size + 1) #[.string ⟨#[]⟩, .bool false, .bool false] 34) := by
    have := Blk.new (w.alloc (.cells #[.int .i64 x, .int .i64 y, .int .i64 z] 30)) #[.string ⟨#[]⟩, .bool false, .bool false] 34
    rwa [show (w.alloc (.cells #[.int .i64 x, .int .i64 y, .int .i64 z] 30)).heap.size = w.heap.size + 1 by simp] at this
  have S0 := Lib.hid ((Blk.new w #[.int .i64 x, .int .i64 y, .int .i64 z] 30).alloc (.cells #[.string ⟨#[]⟩, .bool false, .bool false] 34))
  have HB0 := Lib.hid (((Below.refl w.heap.size w).alloc (Nat.le_refl _) (.cells #[.int .i64 x, .int .i64 y, .int .i64 z] 30)).alloc (by simp) (.cells #[.string ⟨#[]⟩, .bool false, .bool false] 34))
  go_enter Tryz.func16, Tryz.ntmps16
  go_wp2_with fail
  generalize (w.alloc (.cells #[.int .i64 x, .int .i64 y, .int .i64 z] 30)).alloc (.cells #[.string ⟨#[]⟩, .bool false, .bool false] 34) = w0 at *
  refine (C _).out.mono ?_
  rintro e w1 ⟨rfl, hb⟩
  replace G0 := Lib.hid (G0.out.kept hb)
  replace HB0 := Lib.hid (bmore HB0.out HB0.out.size hb)
  have bx := (Below.refl w1.heap.size w1).alloc (Nat.le_refl _) (.cells #[.slice none 0 0, .int .i64 0] 71)
  replace G0 := Lib.hid (G0.out.kept bx)
  replace HB0 := Lib.hid (bmore HB0.out HB0.out.size bx)
  clear hb C S0 bx
  obtain ⟨z0, z1, z2, u0, u1, u2⟩ := G0.out.a3
  go_wp2_with fail
  exact bodyPost_ret (v := .tuple #[.agg #[.string ⟨#[]⟩, .bool false, .bool false], .bool false]) (by simp [results, Tryz.results16, go_sem, z0, z1, z2]) rfl ⟨rfl, by (repeat refine Below.setCell ?_ (by simp) _); exact HB0.out⟩

set_option maxRecDepth 1000000 in
set_option maxHeartbeats 8000000 in
theorem implRf_yes (s : ByteArray) (x y z : Int) (i : Nat) (w : World) {p : Pg} (hp : p.ok false) (hs : s.data.toList = p.ser) (hl : s.size ≤ 200) (h : st3 x y z = true) (hi : (i : Int) = x + 3 * y + 9 * z) :
    Calls Tryz.prog 16 #[.string s, .agg #[.int .i64 x, .int .i64 y, .int .i64 z]] w fun e w' => e = .returned (rfV p i) ∧ Below w.heap.size w w' := by
  have hlt : i < 27 := by
    obtain ⟨hx0, hx1, hy0, hy1, hz0, hz1⟩ := st3_lt h
    omega
  have C := fun w => Lib.hid (readStart_yes s x y z i w hp hs hl h hi)
  have CO := fun {w1 : World} {B : Nat} {sp : Value} (hF : FlowOk false w1 B sp (flS p) (flG p)) (w : World) (hb : Below w1.heap.size w1 w) => Lib.hid (outcome_p hF i hlt w hb)
  have CT := fun w => Lib.hid (implText (rT p i) w)
  unfold outV at CO
  unfold rfV
  generalize bs (tb (rT p i)) = txt at *
  generalize rT p i = T at *
  generalize rL p i = lb at *
  generalize rK p i = kb at *
  clear h hi hs hl hp
  have G0 : Hid (Blk ((w.alloc (.cells #[.int .i64 x, .int .i64 y, .int .i64 z] 30)).alloc (.cells #[.string ⟨#[]⟩, .bool false, .bool false] 34)) (w.heap.size + 1) #[.string ⟨#[]⟩, .bool false, .bool false] 34) := by
    have := Blk.new (w.alloc (.cells #[.int .i64 x, .int .i64 y, .int .i64 z] 30)) #[.string ⟨#[]⟩, .bool false, .bool false] 34
    rwa [show (w.alloc (.cells #[.int .i64 x, .int .i64 y, .int .i64 z] 30)).heap.size = w.heap.size + 1 by simp] at this
  have S0 := Lib.hid ((Blk.new w #[.int .i64 x, .int .i64 y, .int .i64 z] 30).alloc (.cells #[.string ⟨#[]⟩, .bool false, .bool false] 34))
  have HB0 := Lib.hid (((Below.refl w.heap.size w).alloc (Nat.le_refl _) (.cells #[.int .i64 x, .int .i64 y, .int .i64 z] 30)).alloc (by simp) (.cells #[.string ⟨#[]⟩, .bool false, .bool false] 34))
  go_enter Tryz.func16, Tryz.ntmps16
  go_wp2_with fail
  generalize (w.alloc (.cells #[.int .i64 x, .int .i64 y, .int .i64 z] 30)).alloc (.cells #[.string ⟨#[]⟩, .bool false, .bool false] 34) = w0 at *
  refine (C _).out.mono ?_
  rintro e w1 ⟨rb, cap, B, rfl, hF, hb⟩
  replace G0 := Lib.hid (G0.out.kept hb)
  replace HB0 := Lib.hid (bmore HB0.out HB0.out.size hb)
  have HF := Lib.hid hF
  have bx := (Below.refl w1.heap.size w1).alloc (Nat.le_refl _) (.cells #[.slice (some ⟨rb, 0, none⟩) (flG p).length cap, .int .i64 (flS p : Nat)] 71)
  have BX := Lib.hid bx
  replace G0 := Lib.hid (G0.out.kept bx)
  replace HB0 := Lib.hid (bmore HB0.out HB0.out.size bx)
  clear hb C S0 hF bx
  go_wp2_with fail
  refine (CO HF.out _ BX.out).out.mono ?_
  rintro e w2 ⟨rfl, hb⟩
  replace G0 := Lib.hid (G0.out.kept hb)
  replace HB0 := Lib.hid (bmore HB0.out HB0.out.size hb)
  clear hb CO HF BX
  have O0 := Blk.new w2 #[.int .u32 (nb 27 T : Nat), .bool lb, .bool kb] 68
  have bx := (Below.refl w2.heap.size w2).alloc (Nat.le_refl _) (.cells #[.int .u32 (nb 27 T : Nat), .bool lb, .bool kb] 68)
  have hgo := G0.out.lt
  replace G0 := Lib.hid (G0.out.kept bx)
  replace HB0 := Lib.hid (bmore HB0.out HB0.out.size bx)
  clear bx
  go_wp2_with fail
  generalize w2.alloc (.cells #[.int .u32 (nb 27 T : Nat), .bool lb, .bool kb] 68) = wx at *
  have hne : w2.heap.size ≠ w.heap.size + 1 := by omega
  generalize w2.heap.size = ga at *
  obtain ⟨q0, q1, q2⟩ := O0.c3
  have hbb := (Below.refl wx.heap.size wx).drew
  have RG : ∀ w', Below wx.heap.size wx w' → (fun w' => Below w.heap.size w w' ∧ w'.cell? ⟨ga, 0, none⟩ = some (.int .u32 (nb 27 T : Nat)) ∧ w'.cell? ⟨ga, 1, none⟩ = some (.bool lb) ∧ w'.cell? ⟨ga, 2, none⟩ = some (.bool kb)) w' := fun w' h => ⟨bmore HB0.out HB0.out.size h, ckeep h q0, ckeep h q1, ckeep h q2⟩
  have RG' := Lib.hid RG
  clear RG q0 q1 q2 O0
  refine wp_region_held_drew (S := fun w' => Below w.heap.size w w' ∧ w'.cell? ⟨ga, 0, none⟩ = some (.int .u32 (nb 27 T : Nat)) ∧ w'.cell? ⟨ga, 1, none⟩ = some (.bool lb) ∧ w'.cell? ⟨ga, 2, none⟩ = some (.bool kb)) (by kernel_rfl) (RG'.out _ hbb) (fun hHeld => ?_)
  refine wpAnyH_take (i := 0) (oi := { dst := some 23, op := _, type := _, pos := _, after := _, guard := _ }) (v := ?_) rfl (by kernel_rfl) (by kernel_rfl) (by kernel_rfl) (fun _ _ _ h => h) (Or.inl ⟨by kernel_rfl, ?_⟩) hHeld ?_
  rotate_left
  · intro w hSw
    (try dsimp only at hSw)
    go_simp
    first | done | with_reducible rfl
  simp only [Act.put]
  refine wpAnyH_take (i := 1) (oi := { dst := some 24, op := _, type := _, pos := _, after := _, guard := _ }) (v := ?_) rfl (by kernel_rfl) (by kernel_rfl) (by kernel_rfl) (fun _ _ _ h => h) (Or.inl ⟨by kernel_rfl, ?_⟩) hHeld ?_
  rotate_left
  · intro w hSw
    (try dsimp only at hSw)
    go_simp
    first | done | with_reducible rfl
  simp only [Act.put]
  refine wpAnyH_take (i := 3) (oi := { dst := some 26, op := _, type := _, pos := _, after := _, guard := _ }) (v := ?_) rfl (by kernel_rfl) (by kernel_rfl) (by kernel_rfl) (fun _ _ _ h => h) (Or.inl ⟨by kernel_rfl, ?_⟩) hHeld ?_
  rotate_left
  · intro w hSw
    (try dsimp only at hSw)
    go_simp
    first | done | with_reducible rfl
  simp only [Act.put]
  refine wpAnyH_take (i := 4) (oi := { dst := some 27, op := _, type := _, pos := _, after := _, guard := _ }) (v := ?_) rfl (by kernel_rfl) (by kernel_rfl) (by kernel_rfl) (fun _ _ _ h => h) (Or.inl ⟨by kernel_rfl, ?_⟩) hHeld ?_
  rotate_left
  · intro w hSw
    (try dsimp only at hSw)
    go_simp
    first | done | with_reducible rfl
  simp only [Act.put]
  refine wpAnyH_take (i := 5) (oi := { dst := some 28, op := _, type := _, pos := _, after := _, guard := _ }) (v := ?_) rfl (by kernel_rfl) (by kernel_rfl) (by kernel_rfl) (fun _ _ _ h => h) (Or.inl ⟨by kernel_rfl, ?_⟩) hHeld ?_
  rotate_left
  · intro w hSw
    (try dsimp only at hSw)
    go_simp
    first | done | with_reducible rfl
  simp only [Act.put]
  refine wpAnyH_take (i := 6) (oi := { dst := some 29, op := _, type := _, pos := _, after := _, guard := _ }) (v := ?_) rfl (by kernel_rfl) (by kernel_rfl) (by kernel_rfl) (fun _ _ _ h => h) (Or.inl ⟨by kernel_rfl, ?_⟩) hHeld ?_
  rotate_left
  · intro w hSw
    (try dsimp only at hSw)
    go_simp
    first | done | with_reducible rfl
  simp only [Act.put]
  refine wpAnyH_ready (rs := [2]) (by kernel_rfl) (by simp) ?_
  refine AllReadyH.cons rfl (fun K hK => ?_) AllReadyH.nil
  go_simp
  (with_reducible refine (CT _).out.mono ?_)
  rintro e w5 ⟨rfl, hq⟩
  go_wp2_with fail
  have HQ := Lib.hid (bnext hbb hq)
  refine hK.out _ _ (RG'.out _ (bnext hbb hq)) (fun hHeld => ?_)
  clear hq
  clear hK K
  try simp only [Act.put]
  refine wpAnyH_take (i := 7) (oi := { dst := some 30, op := _, type := _, pos := _, after := _, guard := _ }) (v := ?_) rfl (by kernel_rfl) (by kernel_rfl) (by kernel_rfl) (fun _ _ _ h => h) (Or.inl ⟨by kernel_rfl, ?_⟩) hHeld ?_
  rotate_left
  · intro w hSw
    (try dsimp only at hSw)
    go_simp
    first | done | with_reducible rfl
  simp only [Act.put]
  have Z := Lib.hid (G0.out.kept HQ.out)
  obtain ⟨z0, z1, z2, u0, u1, u2⟩ := Z.out.a3
  have hg := Z.out.lt
  refine wpAnyH_ready (rs := [8]) (by kernel_rfl) (by simp) ?_
  refine AllReadyH.cons rfl (fun K hK => ?_) AllReadyH.nil
  go_simp
  have HZ := Lib.hid hHeld
  refine hK.out _ _ ⟨by (repeat refine Below.setCell ?_ (by simp) _); exact HZ.out.1, ?_, ?_, ?_⟩ (fun hHeld => ?_)
  · rw [World.cell?_setCell_far _ _ _ _ (fun e => hne e.symm), World.cell?_setCell_far _ _ _ _ (fun e => hne e.symm), World.cell?_setCell_far _ _ _ _ (fun e => hne e.symm)]; exact HZ.out.2.1
  · rw [World.cell?_setCell_far _ _ _ _ (fun e => hne e.symm), World.cell?_setCell_far _ _ _ _ (fun e => hne e.symm), World.cell?_setCell_far _ _ _ _ (fun e => hne e.symm)]; exact HZ.out.2.2.1
  · rw [World.cell?_setCell_far _ _ _ _ (fun e => hne e.symm), World.cell?_setCell_far _ _ _ _ (fun e => hne e.symm), World.cell?_setCell_far _ _ _ _ (fun e => hne e.symm)]; exact HZ.out.2.2.2
  clear hK K
  try simp only [Act.put]
  refine wpAnyH_take (i := 9) (oi := { dst := some 5, op := .assign (.const (.bool true)), type := _, pos := _, after := _, guard := _ }) (v := ?_) rfl (by kernel_rfl) (by kernel_rfl) (by kernel_rfl) (fun _ _ _ h => h) (Or.inl ⟨by kernel_rfl, ?_⟩) hHeld ?_
  rotate_left
  · intro w hSw
    (try dsimp only at hSw)
    go_simp
    first | done | with_reducible rfl
  simp only [Act.put]
  refine wpAnyH_done (by kernel_rfl) ?_ _
  have HF := Lib.hid hHeld.1
  go_wp2_with fail
  exact bodyPost_ret (v := .tuple #[.agg #[.string txt, .bool lb, .bool kb], .bool true]) (by simp [results, Tryz.results16, go_sem, z0, z1, z2]) rfl ⟨rfl, HF.out⟩
end Go.Proofs.YtopbkkmplgllkaaGreatDoor
