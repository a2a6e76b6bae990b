/-
  Outcomes compared.
-/
import Derived.Test.YtopbkkmplgllkaaGreatDoorOu
namespace Go.Proofs.YtopbkkmplgllkaaGreatDoor
open Go.RowKit Tm Go.Great Classical Go.ChangeMaps

theorem orO_bits (F G : Nat → Bool) : bits .or .u32 (nb 27 F : Nat) (nb 27 G : Nat) = (nb 27 (fun i => F i || G i) : Nat) := by
  have h := nb_lt27 F; have h' := nb_lt27 G
  rw [u32_or_nat _ _ (by omega) (by omega), nb_or2]
def ocV (o : Oc) : Value := .agg #[.int .u32 (nb 27 o.1 : Nat), .bool o.2.1, .bool o.2.2]
def eqO (a b : Oc) : Bool := (nb 27 a.1 == nb 27 b.1) && (a.2.1 == b.2.1) && (a.2.2 == b.2.2)
set_option maxRecDepth 100000 in
set_option maxHeartbeats 4000000 in
theorem isSame_any (a b : Oc) (w : World) : Calls Tryz.prog 29 #[ocV a, ocV b] w fun e w' => e = .returned (.bool (eqO a b)) ∧ Below w.heap.size w w' := by
  unfold ocV eqO
  generalize nb 27 a.1 = x0
  generalize a.2.1 = x1
  generalize a.2.2 = x2
  generalize nb 27 b.1 = y0
  generalize b.2.1 = y1
  generalize b.2.2 = y2
  by_cases h0 : y0 = x0
  · subst h0
    by_cases h1 : y1 = x1
    · subst h1
      by_cases h2 : y2 = x2
      · subst h2
        go_enter Tryz.func29, Tryz.ntmps29
        go_wp2_with fail
        go_ret
        exact ⟨by simp, ((Below.refl _ _).alloc (Nat.le_refl _) _).alloc (by simp) _⟩
      · have n2 : ¬ x2 = y2 := fun h => h2 h.symm
        have e2 : (x2 == y2) = false := beq_false_of_ne (fun h => h2 h.symm)
        go_enter Tryz.func29, Tryz.ntmps29
        go_wp2_with fail
        go_ret
        exact ⟨by simp [e2], ((Below.refl _ _).alloc (Nat.le_refl _) _).alloc (by simp) _⟩
    · have n1 : ¬ x1 = y1 := fun h => h1 h.symm
      have e1 : (x1 == y1) = false := beq_false_of_ne (fun h => h1 h.symm)
      go_enter Tryz.func29, Tryz.ntmps29
      go_wp2_with fail
      go_ret
      exact ⟨by simp [e1], ((Below.refl _ _).alloc (Nat.le_refl _) _).alloc (by simp) _⟩
  · have e0 : (x0 == y0) = false := beq_false_of_ne (fun h => h0 h.symm)
    have n0 : ¬ ((x0 : Nat) : Int) = (y0 : Nat) := by omega
    go_enter Tryz.func29, Tryz.ntmps29
    go_wp2_with fail
    go_ret
    exact ⟨by simp [e0], ((Below.refl _ _).alloc (Nat.le_refl _) _).alloc (by simp) _⟩
set_option maxRecDepth 100000 in
set_option maxHeartbeats 4000000 in
theorem or_any (a b : Oc) (w : World) : Calls Tryz.prog 56 #[ocV a, ocV b] w fun e w' => e = .returned (ocV (fun j => a.1 j || b.1 j, a.2.1 || b.2.1, a.2.2 || b.2.2)) ∧ Below w.heap.size w w' := by
  have hu := orO_bits a.1 b.1
  have K : ∀ (A B : Obj) (C : Array Value), Blk (((w.alloc A).alloc B).alloc (.cells C 68)) (w.heap.size + 1 + 1) C 68 := fun A B C => by
    have h := Blk.new ((w.alloc A).alloc B) C 68
    rwa [show ((w.alloc A).alloc B).heap.size = w.heap.size + 1 + 1 by simp] at h
  unfold ocV
  simp only
  generalize nb 27 (fun j => a.1 j || b.1 j) = z0 at *
  generalize nb 27 a.1 = x0 at *
  generalize a.2.1 = x1
  generalize a.2.2 = x2
  generalize nb 27 b.1 = y0 at *
  generalize b.2.1 = y1
  generalize b.2.2 = y2
  cases x1 <;> cases x2
  all_goals
    go_enter Tryz.func56, Tryz.ntmps56
    go_wp2_with fail
    exact bodyPost_ret (v := _) (results_cell_row rfl _ _ (w.heap.size + 1 + 1) 68 _ (0, 0) _ (by rfl) (K _ _ _) Tryz.underlying68 rfl (by kernel_rfl)) rfl ⟨rfl, (((Below.refl _ _).alloc (Nat.le_refl _) _).alloc (by simp) _).alloc (by simp; omega) _⟩

/-- A comparison of the program: a function value that answers f. -/
def Fits (fn : FuncId) (f : Oc → Oc → Bool) : Prop := (∀ (a b : Oc) (w : World), Calls Tryz.prog fn #[ocV a, ocV b] w fun e w' => e = .returned (.bool (f a b)) ∧ Below w.heap.size w w') ∧ ∀ (args : Array Value) (w : World), (callFunc fn args).run Tryz.prog w = .ok (.enter fn args) w
theorem fits_same : Fits 29 eqO := ⟨isSame_any, fun a w => by kernel_rfl⟩
def reO (a b : Oc) : Bool := eqO (fun j => a.1 j || b.1 j, a.2.1 || b.2.1, a.2.2 || b.2.2) b
set_option maxRecDepth 100000 in
set_option maxHeartbeats 4000000 in
theorem isRefined_any (a b : Oc) (w : World) : Calls Tryz.prog 27 #[ocV a, ocV b] w fun e w' => e = .returned (.bool (reO a b)) ∧ Below w.heap.size w w' := by
  have C := fun w => Lib.hid (or_any a b w)
  unfold reO eqO
  unfold ocV at *
  simp only at *
  generalize nb 27 (fun j => a.1 j || b.1 j) = z0 at *
  generalize (a.2.1 || b.2.1) = z1 at *
  generalize (a.2.2 || b.2.2) = z2 at *
  generalize nb 27 a.1 = x0 at *
  generalize a.2.1 = x1 at *
  generalize a.2.2 = x2 at *
  generalize nb 27 b.1 = y0 at *
  generalize b.2.1 = y1 at *
  generalize b.2.2 = y2 at *
  by_cases h0 : y0 = z0
  · subst h0
    by_cases h1 : y1 = z1
    · subst h1
      by_cases h2 : y2 = z2
      · subst h2
        have A1 := Lib.hid (Blk.new w #[.int .u32 x0, .bool x1, .bool x2] 68)
        have B1 := Lib.hid (Blk.new (w.alloc (.cells #[.int .u32 x0, .bool x1, .bool x2] 68)) #[.int .u32 y0, .bool y1, .bool y2] 68)
        rw [show (w.alloc (.cells #[.int .u32 x0, .bool x1, .bool x2] 68)).heap.size = w.heap.size + 1 by simp] at B1
        have A2 := Lib.hid (A1.out.alloc (.cells #[.int .u32 y0, .bool y1, .bool y2] 68))
        have HB := Lib.hid (((Below.refl w.heap.size w).alloc (Nat.le_refl _) (.cells #[.int .u32 x0, .bool x1, .bool x2] 68)).alloc (by simp) (.cells #[.int .u32 y0, .bool y1, .bool y2] 68))
        clear A1
        go_enter Tryz.func27, Tryz.ntmps27
        go_wp2_with fail
        generalize (w.alloc (.cells #[.int .u32 x0, .bool x1, .bool x2] 68)).alloc (.cells #[.int .u32 y0, .bool y1, .bool y2] 68) = w0 at *
        have p0 : w0.cell? ⟨w.heap.size, 0, none⟩ = some (.int .u32 x0) := A2.out.cell 0
        have p1 : w0.cell? ⟨w.heap.size, 1, none⟩ = some (.bool x1) := A2.out.cell 1
        have p2 : w0.cell? ⟨w.heap.size, 2, none⟩ = some (.bool x2) := A2.out.cell 2
        have q0 : w0.cell? ⟨w.heap.size + 1, 0, none⟩ = some (.int .u32 y0) := B1.out.cell 0
        have q1 : w0.cell? ⟨w.heap.size + 1, 1, none⟩ = some (.bool y1) := B1.out.cell 1
        have q2 : w0.cell? ⟨w.heap.size + 1, 2, none⟩ = some (.bool y2) := B1.out.cell 2
        have hbb := (Below.refl w0.heap.size w0).drew
        have RG : ∀ w', Below w0.heap.size w0 w' → Below w0.heap.size w0 w' ∧ w'.cell? ⟨w.heap.size, 0, none⟩ = some (.int .u32 x0) ∧ w'.cell? ⟨w.heap.size, 1, none⟩ = some (.bool x1) ∧ w'.cell? ⟨w.heap.size, 2, none⟩ = some (.bool x2) ∧ w'.cell? ⟨w.heap.size + 1, 0, none⟩ = some (.int .u32 y0) ∧ w'.cell? ⟨w.heap.size + 1, 1, none⟩ = some (.bool y1) ∧ w'.cell? ⟨w.heap.size + 1, 2, none⟩ = some (.bool y2) :=
          fun w' h => ⟨h, ckeep h p0, ckeep h p1, ckeep h p2, ckeep h q0, ckeep h q1, ckeep h q2⟩
        have RG' := Lib.hid RG
        clear RG
        go_region_held3 (fun w' => Below w0.heap.size w0 w' ∧ w'.cell? ⟨w.heap.size, 0, none⟩ = some (.int .u32 x0) ∧ w'.cell? ⟨w.heap.size, 1, none⟩ = some (.bool x1) ∧ w'.cell? ⟨w.heap.size, 2, none⟩ = some (.bool x2) ∧ w'.cell? ⟨w.heap.size + 1, 0, none⟩ = some (.int .u32 y0) ∧ w'.cell? ⟨w.heap.size + 1, 1, none⟩ = some (.bool y1) ∧ w'.cell? ⟨w.heap.size + 1, 2, none⟩ = some (.bool y2))
          ((first
            | exact RG'.out _ (by assumption)
            | (go_split_ands; exact RG'.out _ (by assumption))
            | (go_split_ands; exact RG'.out _ (bnext (by assumption) hq))))
          (first
            | (go_at_call 56; (with_reducible refine (C _).out.mono ?_); rintro e w5 ⟨rfl, hq⟩))
        all_goals
          go_split_ands
          have HF := Lib.hid (bnext HB.out (by assumption))
          go_wp2_with fail
          go_ret
          exact ⟨by simp, HF.out⟩
      · have n2 : ¬ z2 = y2 := fun h => h2 h.symm
        have e2 : (z2 == y2) = false := beq_false_of_ne (fun h => h2 h.symm)
        have A1 := Lib.hid (Blk.new w #[.int .u32 x0, .bool x1, .bool x2] 68)
        have B1 := Lib.hid (Blk.new (w.alloc (.cells #[.int .u32 x0, .bool x1, .bool x2] 68)) #[.int .u32 y0, .bool y1, .bool y2] 68)
        rw [show (w.alloc (.cells #[.int .u32 x0, .bool x1, .bool x2] 68)).heap.size = w.heap.size + 1 by simp] at B1
        have A2 := Lib.hid (A1.out.alloc (.cells #[.int .u32 y0, .bool y1, .bool y2] 68))
        have HB := Lib.hid (((Below.refl w.heap.size w).alloc (Nat.le_refl _) (.cells #[.int .u32 x0, .bool x1, .bool x2] 68)).alloc (by simp) (.cells #[.int .u32 y0, .bool y1, .bool y2] 68))
        clear A1
        go_enter Tryz.func27, Tryz.ntmps27
        go_wp2_with fail
        generalize (w.alloc (.cells #[.int .u32 x0, .bool x1, .bool x2] 68)).alloc (.cells #[.int .u32 y0, .bool y1, .bool y2] 68) = w0 at *
        have p0 : w0.cell? ⟨w.heap.size, 0, none⟩ = some (.int .u32 x0) := A2.out.cell 0
        have p1 : w0.cell? ⟨w.heap.size, 1, none⟩ = some (.bool x1) := A2.out.cell 1
        have p2 : w0.cell? ⟨w.heap.size, 2, none⟩ = some (.bool x2) := A2.out.cell 2
        have q0 : w0.cell? ⟨w.heap.size + 1, 0, none⟩ = some (.int .u32 y0) := B1.out.cell 0
        have q1 : w0.cell? ⟨w.heap.size + 1, 1, none⟩ = some (.bool y1) := B1.out.cell 1
        have q2 : w0.cell? ⟨w.heap.size + 1, 2, none⟩ = some (.bool y2) := B1.out.cell 2
        have hbb := (Below.refl w0.heap.size w0).drew
        have RG : ∀ w', Below w0.heap.size w0 w' → Below w0.heap.size w0 w' ∧ w'.cell? ⟨w.heap.size, 0, none⟩ = some (.int .u32 x0) ∧ w'.cell? ⟨w.heap.size, 1, none⟩ = some (.bool x1) ∧ w'.cell? ⟨w.heap.size, 2, none⟩ = some (.bool x2) ∧ w'.cell? ⟨w.heap.size + 1, 0, none⟩ = some (.int .u32 y0) ∧ w'.cell? ⟨w.heap.size + 1, 1, none⟩ = some (.bool y1) ∧ w'.cell? ⟨w.heap.size + 1, 2, none⟩ = some (.bool y2) :=
          fun w' h => ⟨h, ckeep h p0, ckeep h p1, ckeep h p2, ckeep h q0, ckeep h q1, ckeep h q2⟩
        have RG' := Lib.hid RG
        clear RG
        go_region_held3 (fun w' => Below w0.heap.size w0 w' ∧ w'.cell? ⟨w.heap.size, 0, none⟩ = some (.int .u32 x0) ∧ w'.cell? ⟨w.heap.size, 1, none⟩ = some (.bool x1) ∧ w'.cell? ⟨w.heap.size, 2, none⟩ = some (.bool x2) ∧ w'.cell? ⟨w.heap.size + 1, 0, none⟩ = some (.int .u32 y0) ∧ w'.cell? ⟨w.heap.size + 1, 1, none⟩ = some (.bool y1) ∧ w'.cell? ⟨w.heap.size + 1, 2, none⟩ = some (.bool y2))
          ((first
            | exact RG'.out _ (by assumption)
            | (go_split_ands; exact RG'.out _ (by assumption))
            | (go_split_ands; exact RG'.out _ (bnext (by assumption) hq))))
          (first
            | (go_at_call 56; (with_reducible refine (C _).out.mono ?_); rintro e w5 ⟨rfl, hq⟩))
        all_goals
          go_split_ands
          have HF := Lib.hid (bnext HB.out (by assumption))
          go_wp2_with fail
          go_ret
          exact ⟨by simp [e2], HF.out⟩
    · have n1 : ¬ z1 = y1 := fun h => h1 h.symm
      have e1 : (z1 == y1) = false := beq_false_of_ne (fun h => h1 h.symm)
      have A1 := Lib.hid (Blk.new w #[.int .u32 x0, .bool x1, .bool x2] 68)
      have B1 := Lib.hid (Blk.new (w.alloc (.cells #[.int .u32 x0, .bool x1, .bool x2] 68)) #[.int .u32 y0, .bool y1, .bool y2] 68)
      rw [show (w.alloc (.cells #[.int .u32 x0, .bool x1, .bool x2] 68)).heap.size = w.heap.size + 1 by simp] at B1
      have A2 := Lib.hid (A1.out.alloc (.cells #[.int .u32 y0, .bool y1, .bool y2] 68))
      have HB := Lib.hid (((Below.refl w.heap.size w).alloc (Nat.le_refl _) (.cells #[.int .u32 x0, .bool x1, .bool x2] 68)).alloc (by simp) (.cells #[.int .u32 y0, .bool y1, .bool y2] 68))
      clear A1
      go_enter Tryz.func27, Tryz.ntmps27
      go_wp2_with fail
      generalize (w.alloc (.cells #[.int .u32 x0, .bool x1, .bool x2] 68)).alloc (.cells #[.int .u32 y0, .bool y1, .bool y2] 68) = w0 at *
      have p0 : w0.cell? ⟨w.heap.size, 0, none⟩ = some (.int .u32 x0) := A2.out.cell 0
      have p1 : w0.cell? ⟨w.heap.size, 1, none⟩ = some (.bool x1) := A2.out.cell 1
      have p2 : w0.cell? ⟨w.heap.size, 2, none⟩ = some (.bool x2) := A2.out.cell 2
      have q0 : w0.cell? ⟨w.heap.size + 1, 0, none⟩ = some (.int .u32 y0) := B1.out.cell 0
      have q1 : w0.cell? ⟨w.heap.size + 1, 1, none⟩ = some (.bool y1) := B1.out.cell 1
      have q2 : w0.cell? ⟨w.heap.size + 1, 2, none⟩ = some (.bool y2) := B1.out.cell 2
      have hbb := (Below.refl w0.heap.size w0).drew
      have RG : ∀ w', Below w0.heap.size w0 w' → Below w0.heap.size w0 w' ∧ w'.cell? ⟨w.heap.size, 0, none⟩ = some (.int .u32 x0) ∧ w'.cell? ⟨w.heap.size, 1, none⟩ = some (.bool x1) ∧ w'.cell? ⟨w.heap.size, 2, none⟩ = some (.bool x2) ∧ w'.cell? ⟨w.heap.size + 1, 0, none⟩ = some (.int .u32 y0) ∧ w'.cell? ⟨w.heap.size + 1, 1, none⟩ = some (.bool y1) ∧ w'.cell? ⟨w.heap.size + 1, 2, none⟩ = some (.bool y2) :=
        fun w' h => ⟨h, ckeep h p0, ckeep h p1, ckeep h p2, ckeep h q0, ckeep h q1, ckeep h q2⟩
      have RG' := Lib.hid RG
      clear RG
      go_region_held3 (fun w' => Below w0.heap.size w0 w' ∧ w'.cell? ⟨w.heap.size, 0, none⟩ = some (.int .u32 x0) ∧ w'.cell? ⟨w.heap.size, 1, none⟩ = some (.bool x1) ∧ w'.cell? ⟨w.heap.size, 2, none⟩ = some (.bool x2) ∧ w'.cell? ⟨w.heap.size + 1, 0, none⟩ = some (.int .u32 y0) ∧ w'.cell? ⟨w.heap.size + 1, 1, none⟩ = some (.bool y1) ∧ w'.cell? ⟨w.heap.size + 1, 2, none⟩ = some (.bool y2))
        ((first
          | exact RG'.out _ (by assumption)
          | (go_split_ands; exact RG'.out _ (by assumption))
          | (go_split_ands; exact RG'.out _ (bnext (by assumption) hq))))
        (first
          | (go_at_call 56; (with_reducible refine (C _).out.mono ?_); rintro e w5 ⟨rfl, hq⟩))
      all_goals
        go_split_ands
        have HF := Lib.hid (bnext HB.out (by assumption))
        go_wp2_with fail
        go_ret
        exact ⟨by simp [e1], HF.out⟩
  · have e0 : (z0 == y0) = false := beq_false_of_ne (fun h => h0 h.symm)
    have n0 : ¬ ((z0 : Nat) : Int) = (y0 : Nat) := by omega
    have A1 := Lib.hid (Blk.new w #[.int .u32 x0, .bool x1, .bool x2] 68)
    have B1 := Lib.hid (Blk.new (w.alloc (.cells #[.int .u32 x0, .bool x1, .bool x2] 68)) #[.int .u32 y0, .bool y1, .bool y2] 68)
    rw [show (w.alloc (.cells #[.int .u32 x0, .bool x1, .bool x2] 68)).heap.size = w.heap.size + 1 by simp] at B1
    have A2 := Lib.hid (A1.out.alloc (.cells #[.int .u32 y0, .bool y1, .bool y2] 68))
    have HB := Lib.hid (((Below.refl w.heap.size w).alloc (Nat.le_refl _) (.cells #[.int .u32 x0, .bool x1, .bool x2] 68)).alloc (by simp) (.cells #[.int .u32 y0, .bool y1, .bool y2] 68))
    clear A1
    go_enter Tryz.func27, Tryz.ntmps27
    go_wp2_with fail
    generalize (w.alloc (.cells #[.int .u32 x0, .bool x1, .bool x2] 68)).alloc (.cells #[.int .u32 y0, .bool y1, .bool y2] 68) = w0 at *
    have p0 : w0.cell? ⟨w.heap.size, 0, none⟩ = some (.int .u32 x0) := A2.out.cell 0
    have p1 : w0.cell? ⟨w.heap.size, 1, none⟩ = some (.bool x1) := A2.out.cell 1
    have p2 : w0.cell? ⟨w.heap.size, 2, none⟩ = some (.bool x2) := A2.out.cell 2
    have q0 : w0.cell? ⟨w.heap.size + 1, 0, none⟩ = some (.int .u32 y0) := B1.out.cell 0
    have q1 : w0.cell? ⟨w.heap.size + 1, 1, none⟩ = some (.bool y1) := B1.out.cell 1
    have q2 : w0.cell? ⟨w.heap.size + 1, 2, none⟩ = some (.bool y2) := B1.out.cell 2
    have hbb := (Below.refl w0.heap.size w0).drew
    have RG : ∀ w', Below w0.heap.size w0 w' → Below w0.heap.size w0 w' ∧ w'.cell? ⟨w.heap.size, 0, none⟩ = some (.int .u32 x0) ∧ w'.cell? ⟨w.heap.size, 1, none⟩ = some (.bool x1) ∧ w'.cell? ⟨w.heap.size, 2, none⟩ = some (.bool x2) ∧ w'.cell? ⟨w.heap.size + 1, 0, none⟩ = some (.int .u32 y0) ∧ w'.cell? ⟨w.heap.size + 1, 1, none⟩ = some (.bool y1) ∧ w'.cell? ⟨w.heap.size + 1, 2, none⟩ = some (.bool y2) :=
      fun w' h => ⟨h, ckeep h p0, ckeep h p1, ckeep h p2, ckeep h q0, ckeep h q1, ckeep h q2⟩
    have RG' := Lib.hid RG
    clear RG
    go_region_held3 (fun w' => Below w0.heap.size w0 w' ∧ w'.cell? ⟨w.heap.size, 0, none⟩ = some (.int .u32 x0) ∧ w'.cell? ⟨w.heap.size, 1, none⟩ = some (.bool x1) ∧ w'.cell? ⟨w.heap.size, 2, none⟩ = some (.bool x2) ∧ w'.cell? ⟨w.heap.size + 1, 0, none⟩ = some (.int .u32 y0) ∧ w'.cell? ⟨w.heap.size + 1, 1, none⟩ = some (.bool y1) ∧ w'.cell? ⟨w.heap.size + 1, 2, none⟩ = some (.bool y2))
      ((first
        | exact RG'.out _ (by assumption)
        | (go_split_ands; exact RG'.out _ (by assumption))
        | (go_split_ands; exact RG'.out _ (bnext (by assumption) hq))))
      (first
        | (go_at_call 56; (with_reducible refine (C _).out.mono ?_); rintro e w5 ⟨rfl, hq⟩))
    all_goals
      go_split_ands
      have HF := Lib.hid (bnext HB.out (by assumption))
      go_wp2_with fail
      go_ret
      exact ⟨by simp [e0], HF.out⟩
end Go.Proofs.YtopbkkmplgllkaaGreatDoor
