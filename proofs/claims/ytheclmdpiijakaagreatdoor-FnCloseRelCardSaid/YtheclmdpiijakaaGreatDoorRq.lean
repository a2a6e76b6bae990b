/-
  IsEquivalence of the program and of the model.
-/
import Derived.Test.YtheclmdpiijakaaGreatDoorRd3
import Derived.Deep.MidRow
namespace Go.Proofs.YtheclmdpiijakaaGreatDoor
open Go.RowKit Go.Great

theorem yields_row {ops : Array Oper} {S : World → Prop} {op : Oper} {a : Act} {x : Operand} {t : TypeId} {p : Addr} {v : Value} (hw : Region.wanted op (yielded ops a.tmps) = true) (ho : op.op = .load t x) (hx : a.eval x = .pointer (some p)) (hS : ∀ w, S w → (loadVar t p).run Tryz.prog w = .ok v w) : YieldsIf Tryz.prog ops S op v a :=
  .inl ⟨hw, fun w hw' => by
    unfold execOp
    simp only [ho, hx, Instr.loadAt, Instr.sureAddr, Sem.run_bind, Sem.run_pure, Result.andThen_ok, hS w hw']⟩
set_option maxRecDepth 1000000 in
set_option maxHeartbeats 8000000 in
theorem implEquiv_yes (s : ByteArray) (hs : Rel729 s) (w : World) : Calls Tryz.prog 26 #[.string s] w (BoolIs (relEq (relS s.data.toList) (turnR (relS s.data.toList)) && relEq (relS s.data.toList) (cloR (relS s.data.toList))) w) := by
  have C1 := Lib.hid (readRel_yes s hs)
  clear hs
  generalize relS s.data.toList = A at *
  go_enter Tryz.func26, Tryz.ntmps26
  go_wp2_with fail
  refine (C1.out _).mono ?_
  rintro e w1 ⟨rfl, hb⟩
  have KB := Lib.hid hb
  clear hb
  obtain ⟨p0, pb⟩ := push_blk w1 (relC .u32 noR) (relC .u32 A) 56
  have P0 := Lib.hid p0
  replace KB := Lib.hid (bnext KB.out pb)
  have L0 := Lib.hid (one_blk w1 (relC .u32 noR) 56).1
  clear p0 pb
  go_wp2_with (first
    | (refine r_alloc rfl rfl (some 3) rfl w1.heap.size rfl ?_)
    | (refine wpList_store_row rfl 56 _ _ rfl w1.heap.size (relC .u32 A) (by rfl) (by rfl) 56 (relC .u32 noR) L0.out (infoR _) (by first | rw [relC_size, relC_size] | rw [relC_size]) (relC_one _ _) ?_))
  clear L0
  generalize hwx : (w1.alloc (.cells (relC .u32 noR) 56)).setRow w1.heap.size (relC .u32 A) = wx at *
  clear hwx
  obtain ⟨g, hg⟩ : ∃ g, w1.heap.size = g := ⟨_, rfl⟩
  rw [hg] at P0 ⊢
  clear hg
  have CT := fun w => Lib.hid (rel_turned A w)
  have CC := fun w => Lib.hid (closed_any A w)
  have HE1 := fun w => r_eq A (turnR A) w
  have HE2 := fun w => r_eq A (cloR A) w
  have HGd := r_guard
  cases hE1 : relEq A (turnR A) <;> rw [hE1] at HE1
  · have hbb := (Below.refl wx.heap.size wx).drew
    have RG : ∀ w', Below wx.heap.size wx w' → (fun w' => Below wx.heap.size wx w' ∧ (loadVar 56 ⟨g, 0, none⟩).run Tryz.prog w' = .ok (.agg (relC .u32 A)) w') w' := fun w' h => ⟨h, r_load (P0.out.kept h)⟩
    have RG' := Lib.hid RG
    clear RG
    refine wp_region_held_drew (S := fun w' => Below wx.heap.size wx w' ∧ (loadVar 56 ⟨g, 0, none⟩).run Tryz.prog w' = .ok (.agg (relC .u32 A)) w') (by kernel_rfl) (RG'.out _ hbb) (fun hHeld => ?_)
    refine wpAnyH_take (i := 0) (oi := { dst := some 10, op := _, type := _, pos := _, after := _, guard := _ }) (v := ?_) rfl (by kernel_rfl) (by kernel_rfl) (by kernel_rfl) (fun _ _ _ h => h) (Or.inl ⟨by kernel_rfl, ?_⟩) hHeld ?_
    rotate_left
    · intro w hSw
      (try dsimp only at hSw)
      go_simp
      first | done | with_reducible rfl
    simp only [Act.put]
    refine wpAnyH_take (i := 1) (oi := { dst := some 11, op := _, type := _, pos := _, after := _, guard := _ }) (v := ?_) rfl (by kernel_rfl) (by kernel_rfl) (by kernel_rfl) (fun _ _ _ h => h) (Or.inl ⟨by kernel_rfl, ?_⟩) hHeld ?_
    rotate_left
    · intro w hSw
      (try dsimp only at hSw)
      go_simp
      first | done | with_reducible rfl
    simp only [Act.put]
    refine wpAnyH_take (i := 2) (oi := { dst := some 12, op := _, type := _, pos := _, after := _, guard := _ }) (v := .agg (relC .u32 A)) rfl (by kernel_rfl) (by kernel_rfl) (by kernel_rfl) (fun _ _ _ h => h) (yields_row (by kernel_rfl) rfl rfl fun w hSw => hSw.2) hHeld ?_
    simp only [Act.put]
    refine wpAnyH_take (i := 3) (oi := { dst := some 13, op := _, type := _, pos := _, after := _, guard := _ }) (v := .agg (relC .u32 A)) rfl (by kernel_rfl) (by kernel_rfl) (by kernel_rfl) (fun _ _ _ h => h) (yields_row (by kernel_rfl) rfl rfl fun w hSw => hSw.2) hHeld ?_
    simp only [Act.put]
    refine wpAnyH_ready (rs := [4]) (by kernel_rfl) (by simp) ?_
    refine AllReadyH.cons rfl (fun K hK => ?_) AllReadyH.nil
    go_simp
    (with_reducible refine (CT _).out.mono ?_)
    rintro e w5 ⟨rfl, hq⟩
    go_wp2_with fail
    refine hK.out _ _ (RG'.out _ (bnext hHeld.1 hq)) (fun hHeld => ?_)
    clear hK K
    try simp only [Act.put]
    refine wpAnyH_take (i := 5) (oi := { dst := some 15, op := _, type := _, pos := _, after := _, guard := _ }) (v := ?_) rfl (by kernel_rfl) (by kernel_rfl) (by kernel_rfl) (fun _ _ _ h => h) (Or.inl ⟨by kernel_rfl, ?_⟩) hHeld ?_
    rotate_left
    · intro w hSw
      (try dsimp only at hSw)
      go_simp
      first | done | with_reducible rfl
    simp only [Act.put]
    refine wpAnyH_take (i := 6) (oi := { dst := some 16, op := _, type := _, pos := _, after := _, guard := _ }) (v := ?_) rfl (by kernel_rfl) (by kernel_rfl) (by kernel_rfl) (fun _ _ _ h => h) (Or.inl ⟨by kernel_rfl, ?_⟩) hHeld ?_
    rotate_left
    · intro w hSw
      (try dsimp only at hSw)
      go_simp
      first | done | with_reducible rfl
    simp only [Act.put]
    refine wpAnyH_take (i := 7) (oi := { dst := some 17, op := _, type := _, pos := _, after := _, guard := _ }) (v := ?_) rfl (by kernel_rfl) (by kernel_rfl) (by kernel_rfl) (fun _ _ _ h => h) (Or.inl ⟨by kernel_rfl, ?_⟩) hHeld ?_
    rotate_left
    · intro w hSw
      (try dsimp only at hSw)
      go_simp
      first | done | with_reducible rfl
    simp only [Act.put]
    refine wpAnyH_take (i := 8) (oi := { dst := some 18, op := _, type := _, pos := _, after := _, guard := _ }) rfl (by kernel_rfl) (by kernel_rfl) (by kernel_rfl) (fun _ _ _ h => h) (Or.inr ⟨by kernel_rfl, rfl⟩) hHeld ?_
    try simp only [Act.put]
    refine wpAnyH_take (i := 9) (oi := { dst := some 19, op := _, type := _, pos := _, after := _, guard := _ }) rfl (by kernel_rfl) (by kernel_rfl) (by kernel_rfl) (fun _ _ _ h => h) (Or.inr ⟨by kernel_rfl, rfl⟩) hHeld ?_
    try simp only [Act.put]
    refine wpAnyH_ready (rs := [10]) (by kernel_rfl) (by simp) ?_
    refine AllReadyH.cons (o := { dst := some 20, op := _, type := _, pos := _, after := _, guard := _ }) rfl (fun K hK => ?_) AllReadyH.nil
    refine Eq.mpr (if_neg (Bool.eq_false_iff.mp (by kernel_rfl))) ?_
    refine hK.out _ _ hHeld (fun hHeld => ?_)
    clear hK K
    simp only [Act.put, List.setIfInBounds_toArray, List.set_cons_zero, List.set_cons_succ]
    refine wpAnyH_take (i := 11) (oi := { dst := some 21, op := _, type := _, pos := _, after := _, guard := _ }) rfl (by kernel_rfl) (by kernel_rfl) (by kernel_rfl) (fun _ _ _ h => h) (Or.inr ⟨by kernel_rfl, rfl⟩) hHeld ?_
    try simp only [Act.put]
    refine wpAnyH_take (i := 12) (oi := { dst := some 22, op := _, type := _, pos := _, after := _, guard := _ }) (v := ?_) rfl (by kernel_rfl) (by kernel_rfl) (by kernel_rfl) (fun _ _ _ h => h) (Or.inl ⟨by kernel_rfl, ?_⟩) hHeld ?_
    rotate_left
    · intro w hSw
      (try dsimp only at hSw)
      go_simp
      first | done | with_reducible rfl
    simp only [Act.put]
    refine wpAnyH_take (i := 13) (oi := { dst := some 2, op := .assign (.tmp 22), type := _, pos := _, after := _, guard := none }) (v := ?_) rfl (by kernel_rfl) (by kernel_rfl) (by kernel_rfl) (fun _ _ _ h => h) (Or.inl ⟨by kernel_rfl, ?_⟩) hHeld ?_
    rotate_left
    · intro w hSw
      (try dsimp only at hSw)
      go_simp
      first | done | with_reducible rfl
    simp only [Act.put]
    refine wpAnyH_done (by kernel_rfl) ?_ _
    try simp only [List.setIfInBounds_toArray, List.set_cons_zero, List.set_cons_succ]
    have HF := Lib.hid (bnext KB.out hHeld.1)
    go_wp2_with fail
    go_ret
    exact ⟨by first | rfl | (rw [hE1, hE2]; first | rfl | (simp; done)) | (rw [hE1]; first | rfl | (simp; done)) | (rw [HA.out, hE1, hE2]; first | rfl | (simp; done)) | (rw [HA.out, hE1]; first | rfl | (simp; done)), HF.out⟩
  · cases hE2 : relEq A (cloR A) <;> rw [hE2] at HE2
    all_goals
      have hbb := (Below.refl wx.heap.size wx).drew
      have RG : ∀ w', Below wx.heap.size wx w' → (fun w' => Below wx.heap.size wx w' ∧ (loadVar 56 ⟨g, 0, none⟩).run Tryz.prog w' = .ok (.agg (relC .u32 A)) w') w' := fun w' h => ⟨h, r_load (P0.out.kept h)⟩
      have RG' := Lib.hid RG
      clear RG
      refine wp_region_held_drew (S := fun w' => Below wx.heap.size wx w' ∧ (loadVar 56 ⟨g, 0, none⟩).run Tryz.prog w' = .ok (.agg (relC .u32 A)) w') (by kernel_rfl) (RG'.out _ hbb) (fun hHeld => ?_)
      refine wpAnyH_take (i := 0) (oi := { dst := some 10, op := _, type := _, pos := _, after := _, guard := _ }) (v := ?_) rfl (by kernel_rfl) (by kernel_rfl) (by kernel_rfl) (fun _ _ _ h => h) (Or.inl ⟨by kernel_rfl, ?_⟩) hHeld ?_
      rotate_left
      · intro w hSw
        (try dsimp only at hSw)
        go_simp
        first | done | with_reducible rfl
      simp only [Act.put]
      refine wpAnyH_take (i := 1) (oi := { dst := some 11, op := _, type := _, pos := _, after := _, guard := _ }) (v := ?_) rfl (by kernel_rfl) (by kernel_rfl) (by kernel_rfl) (fun _ _ _ h => h) (Or.inl ⟨by kernel_rfl, ?_⟩) hHeld ?_
      rotate_left
      · intro w hSw
        (try dsimp only at hSw)
        go_simp
        first | done | with_reducible rfl
      simp only [Act.put]
      refine wpAnyH_take (i := 2) (oi := { dst := some 12, op := _, type := _, pos := _, after := _, guard := _ }) (v := .agg (relC .u32 A)) rfl (by kernel_rfl) (by kernel_rfl) (by kernel_rfl) (fun _ _ _ h => h) (yields_row (by kernel_rfl) rfl rfl fun w hSw => hSw.2) hHeld ?_
      simp only [Act.put]
      refine wpAnyH_take (i := 3) (oi := { dst := some 13, op := _, type := _, pos := _, after := _, guard := _ }) (v := .agg (relC .u32 A)) rfl (by kernel_rfl) (by kernel_rfl) (by kernel_rfl) (fun _ _ _ h => h) (yields_row (by kernel_rfl) rfl rfl fun w hSw => hSw.2) hHeld ?_
      simp only [Act.put]
      refine wpAnyH_ready (rs := [4]) (by kernel_rfl) (by simp) ?_
      refine AllReadyH.cons rfl (fun K hK => ?_) AllReadyH.nil
      go_simp
      (with_reducible refine (CT _).out.mono ?_)
      rintro e w5 ⟨rfl, hq⟩
      go_wp2_with fail
      refine hK.out _ _ (RG'.out _ (bnext hHeld.1 hq)) (fun hHeld => ?_)
      clear hK K
      try simp only [Act.put]
      refine wpAnyH_take (i := 5) (oi := { dst := some 15, op := _, type := _, pos := _, after := _, guard := _ }) (v := ?_) rfl (by kernel_rfl) (by kernel_rfl) (by kernel_rfl) (fun _ _ _ h => h) (Or.inl ⟨by kernel_rfl, ?_⟩) hHeld ?_
      rotate_left
      · intro w hSw
        (try dsimp only at hSw)
        go_simp
        first | done | with_reducible rfl
      simp only [Act.put]
      refine wpAnyH_take (i := 6) (oi := { dst := some 16, op := _, type := _, pos := _, after := _, guard := _ }) (v := ?_) rfl (by kernel_rfl) (by kernel_rfl) (by kernel_rfl) (fun _ _ _ h => h) (Or.inl ⟨by kernel_rfl, ?_⟩) hHeld ?_
      rotate_left
      · intro w hSw
        (try dsimp only at hSw)
        go_simp
        first | done | with_reducible rfl
      simp only [Act.put]
      refine wpAnyH_take (i := 7) (oi := { dst := some 17, op := _, type := _, pos := _, after := _, guard := _ }) (v := ?_) rfl (by kernel_rfl) (by kernel_rfl) (by kernel_rfl) (fun _ _ _ h => h) (Or.inl ⟨by kernel_rfl, ?_⟩) hHeld ?_
      rotate_left
      · intro w hSw
        (try dsimp only at hSw)
        go_simp
        first | done | with_reducible rfl
      simp only [Act.put]
      refine wpAnyH_take (i := 8) (oi := { dst := some 18, op := _, type := _, pos := _, after := _, guard := _ }) (v := .agg (relC .u32 A)) rfl (by kernel_rfl) (by kernel_rfl) (by kernel_rfl) (fun _ _ _ h => h) (yields_row (by kernel_rfl) rfl rfl fun w hSw => hSw.2) hHeld ?_
      simp only [Act.put]
      refine wpAnyH_take (i := 9) (oi := { dst := some 19, op := _, type := _, pos := _, after := _, guard := _ }) (v := .agg (relC .u32 A)) rfl (by kernel_rfl) (by kernel_rfl) (by kernel_rfl) (fun _ _ _ h => h) (yields_row (by kernel_rfl) rfl rfl fun w hSw => hSw.2) hHeld ?_
      simp only [Act.put]
      refine wpAnyH_ready (rs := [10]) (by kernel_rfl) (by simp) ?_
      refine AllReadyH.cons rfl (fun K hK => ?_) AllReadyH.nil
      go_simp
      (with_reducible refine (CC _).out.mono ?_)
      rintro e w5 ⟨rfl, hq⟩
      go_wp2_with fail
      refine hK.out _ _ (RG'.out _ (bnext hHeld.1 hq)) (fun hHeld => ?_)
      clear hK K
      try simp only [Act.put]
      refine wpAnyH_take (i := 11) (oi := { dst := some 21, op := _, type := _, pos := _, after := _, guard := _ }) (v := ?_) rfl (by kernel_rfl) (by kernel_rfl) (by kernel_rfl) (fun _ _ _ h => h) (Or.inl ⟨by kernel_rfl, ?_⟩) hHeld ?_
      rotate_left
      · intro w hSw
        (try dsimp only at hSw)
        go_simp
        first | done | with_reducible rfl
      simp only [Act.put]
      refine wpAnyH_take (i := 12) (oi := { dst := some 22, op := _, type := _, pos := _, after := _, guard := _ }) (v := ?_) rfl (by kernel_rfl) (by kernel_rfl) (by kernel_rfl) (fun _ _ _ h => h) (Or.inl ⟨by kernel_rfl, ?_⟩) hHeld ?_
      rotate_left
      · intro w hSw
        (try dsimp only at hSw)
        go_simp
        first | done | with_reducible rfl
      simp only [Act.put]
      refine wpAnyH_take (i := 13) (oi := { dst := some 2, op := .assign (.tmp 22), type := _, pos := _, after := _, guard := none }) (v := ?_) rfl (by kernel_rfl) (by kernel_rfl) (by kernel_rfl) (fun _ _ _ h => h) (Or.inl ⟨by kernel_rfl, ?_⟩) hHeld ?_
      rotate_left
      · intro w hSw
        (try dsimp only at hSw)
        go_simp
        first | done | with_reducible rfl
      simp only [Act.put]
      refine wpAnyH_done (by kernel_rfl) ?_ _
      try simp only [List.setIfInBounds_toArray, List.set_cons_zero, List.set_cons_succ]
      have HF := Lib.hid (bnext KB.out hHeld.1)
      go_wp2_with fail
      go_ret
      exact ⟨by first | rfl | (rw [hE1, hE2]; first | rfl | (simp; done)) | (rw [hE1]; first | rfl | (simp; done)) | (rw [HA.out, hE1, hE2]; first | rfl | (simp; done)) | (rw [HA.out, hE1]; first | rfl | (simp; done)), HF.out⟩
set_option maxRecDepth 1000000 in
set_option maxHeartbeats 8000000 in
theorem implEquiv_no (s : ByteArray) (hs : ¬ Rel729 s) (w : World) : Calls Tryz.prog 26 #[.string s] w (BoolIs false w) := by
  have C1 := Lib.hid (readRel_no s hs)
  clear hs
  go_enter Tryz.func26, Tryz.ntmps26
  go_wp2_with fail
  refine (C1.out _).mono ?_
  rintro e w1 ⟨rfl, hb⟩
  have KB := Lib.hid hb
  clear hb
  obtain ⟨p0, pb⟩ := push_blk w1 (relC .u32 noR) (relC .u32 noR) 56
  have P0 := Lib.hid p0
  replace KB := Lib.hid (bnext KB.out pb)
  have L0 := Lib.hid (one_blk w1 (relC .u32 noR) 56).1
  clear p0 pb
  go_wp2_with (first
    | (refine r_alloc rfl rfl (some 3) rfl w1.heap.size rfl ?_)
    | (refine wpList_store_row rfl 56 _ _ rfl w1.heap.size (relC .u32 noR) (by rfl) (by rfl) 56 (relC .u32 noR) L0.out (infoR _) (by first | rw [relC_size, relC_size] | rw [relC_size]) (relC_one _ _) ?_))
  clear L0
  generalize hwx : (w1.alloc (.cells (relC .u32 noR) 56)).setRow w1.heap.size (relC .u32 noR) = wx at *
  clear hwx
  obtain ⟨g, hg⟩ : ∃ g, w1.heap.size = g := ⟨_, rfl⟩
  rw [hg] at P0 ⊢
  clear hg
  have hbb := (Below.refl wx.heap.size wx).drew
  have RG : ∀ w', Below wx.heap.size wx w' → (fun w' => Below wx.heap.size wx w' ∧ (loadVar 56 ⟨g, 0, none⟩).run Tryz.prog w' = .ok (.agg (relC .u32 noR)) w') w' := fun w' h => ⟨h, r_load (P0.out.kept h)⟩
  have RG' := Lib.hid RG
  clear RG
  refine wp_region_held_drew (S := fun w' => Below wx.heap.size wx w' ∧ (loadVar 56 ⟨g, 0, none⟩).run Tryz.prog w' = .ok (.agg (relC .u32 noR)) w') (by kernel_rfl) (RG'.out _ hbb) (fun hHeld => ?_)
  refine wpAnyH_take (i := 0) (oi := { dst := some 10, op := _, type := _, pos := _, after := _, guard := _ }) (v := ?_) rfl (by kernel_rfl) (by kernel_rfl) (by kernel_rfl) (fun _ _ _ h => h) (Or.inl ⟨by kernel_rfl, ?_⟩) hHeld ?_
  rotate_left
  · intro w hSw
    (try dsimp only at hSw)
    go_simp
    first | done | with_reducible rfl
  simp only [Act.put]
  refine wpAnyH_take (i := 1) (oi := { dst := some 11, op := _, type := _, pos := _, after := _, guard := _ }) (v := ?_) rfl (by kernel_rfl) (by kernel_rfl) (by kernel_rfl) (fun _ _ _ h => h) (Or.inl ⟨by kernel_rfl, ?_⟩) hHeld ?_
  rotate_left
  · intro w hSw
    (try dsimp only at hSw)
    go_simp
    first | done | with_reducible rfl
  simp only [Act.put]
  refine wpAnyH_take (i := 2) (oi := { dst := some 12, op := _, type := _, pos := _, after := _, guard := _ }) rfl (by kernel_rfl) (by kernel_rfl) (by kernel_rfl) (fun _ _ _ h => h) (Or.inr ⟨by kernel_rfl, rfl⟩) hHeld ?_
  try simp only [Act.put]
  refine wpAnyH_take (i := 3) (oi := { dst := some 13, op := _, type := _, pos := _, after := _, guard := _ }) rfl (by kernel_rfl) (by kernel_rfl) (by kernel_rfl) (fun _ _ _ h => h) (Or.inr ⟨by kernel_rfl, rfl⟩) hHeld ?_
  try simp only [Act.put]
  refine wpAnyH_ready (rs := [4]) (by kernel_rfl) (by simp) ?_
  refine AllReadyH.cons (o := { dst := some 14, op := _, type := _, pos := _, after := _, guard := _ }) rfl (fun K hK => ?_) AllReadyH.nil
  refine Eq.mpr (if_neg (Bool.eq_false_iff.mp (by kernel_rfl))) ?_
  refine hK.out _ _ hHeld (fun hHeld => ?_)
  clear hK K
  simp only [Act.put, List.setIfInBounds_toArray, List.set_cons_zero, List.set_cons_succ]
  refine wpAnyH_take (i := 5) (oi := { dst := some 15, op := _, type := _, pos := _, after := _, guard := _ }) rfl (by kernel_rfl) (by kernel_rfl) (by kernel_rfl) (fun _ _ _ h => h) (Or.inr ⟨by kernel_rfl, rfl⟩) hHeld ?_
  try simp only [Act.put]
  refine wpAnyH_take (i := 6) (oi := { dst := some 16, op := _, type := _, pos := _, after := _, guard := _ }) (v := ?_) rfl (by kernel_rfl) (by kernel_rfl) (by kernel_rfl) (fun _ _ _ h => h) (Or.inl ⟨by kernel_rfl, ?_⟩) hHeld ?_
  rotate_left
  · intro w hSw
    (try dsimp only at hSw)
    go_simp
    first | done | with_reducible rfl
  simp only [Act.put]
  refine wpAnyH_take (i := 7) (oi := { dst := some 17, op := _, type := _, pos := _, after := _, guard := _ }) (v := ?_) rfl (by kernel_rfl) (by kernel_rfl) (by kernel_rfl) (fun _ _ _ h => h) (Or.inl ⟨by kernel_rfl, ?_⟩) hHeld ?_
  rotate_left
  · intro w hSw
    (try dsimp only at hSw)
    go_simp
    first | done | with_reducible rfl
  simp only [Act.put]
  refine wpAnyH_take (i := 8) (oi := { dst := some 18, op := _, type := _, pos := _, after := _, guard := _ }) rfl (by kernel_rfl) (by kernel_rfl) (by kernel_rfl) (fun _ _ _ h => h) (Or.inr ⟨by kernel_rfl, rfl⟩) hHeld ?_
  try simp only [Act.put]
  refine wpAnyH_take (i := 9) (oi := { dst := some 19, op := _, type := _, pos := _, after := _, guard := _ }) rfl (by kernel_rfl) (by kernel_rfl) (by kernel_rfl) (fun _ _ _ h => h) (Or.inr ⟨by kernel_rfl, rfl⟩) hHeld ?_
  try simp only [Act.put]
  refine wpAnyH_ready (rs := [10]) (by kernel_rfl) (by simp) ?_
  refine AllReadyH.cons (o := { dst := some 20, op := _, type := _, pos := _, after := _, guard := _ }) rfl (fun K hK => ?_) AllReadyH.nil
  refine Eq.mpr (if_neg (Bool.eq_false_iff.mp (by kernel_rfl))) ?_
  refine hK.out _ _ hHeld (fun hHeld => ?_)
  clear hK K
  simp only [Act.put, List.setIfInBounds_toArray, List.set_cons_zero, List.set_cons_succ]
  refine wpAnyH_take (i := 11) (oi := { dst := some 21, op := _, type := _, pos := _, after := _, guard := _ }) rfl (by kernel_rfl) (by kernel_rfl) (by kernel_rfl) (fun _ _ _ h => h) (Or.inr ⟨by kernel_rfl, rfl⟩) hHeld ?_
  try simp only [Act.put]
  refine wpAnyH_take (i := 12) (oi := { dst := some 22, op := _, type := _, pos := _, after := _, guard := _ }) (v := ?_) rfl (by kernel_rfl) (by kernel_rfl) (by kernel_rfl) (fun _ _ _ h => h) (Or.inl ⟨by kernel_rfl, ?_⟩) hHeld ?_
  rotate_left
  · intro w hSw
    (try dsimp only at hSw)
    go_simp
    first | done | with_reducible rfl
  simp only [Act.put]
  refine wpAnyH_take (i := 13) (oi := { dst := some 2, op := .assign (.tmp 22), type := _, pos := _, after := _, guard := none }) (v := ?_) rfl (by kernel_rfl) (by kernel_rfl) (by kernel_rfl) (fun _ _ _ h => h) (Or.inl ⟨by kernel_rfl, ?_⟩) hHeld ?_
  rotate_left
  · intro w hSw
    (try dsimp only at hSw)
    go_simp
    first | done | with_reducible rfl
  simp only [Act.put]
  refine wpAnyH_done (by kernel_rfl) ?_ _
  try simp only [List.setIfInBounds_toArray, List.set_cons_zero, List.set_cons_succ]
  have HF := Lib.hid (bnext KB.out hHeld.1)
  go_wp2_with fail
  go_ret
  exact ⟨by first | rfl | (rw [hE1, hE2]; first | rfl | (simp; done)) | (rw [hE1]; first | rfl | (simp; done)) | (rw [HA.out, hE1, hE2]; first | rfl | (simp; done)) | (rw [HA.out, hE1]; first | rfl | (simp; done)), HF.out⟩
end Go.Proofs.YtheclmdpiijakaaGreatDoor
