/-
  One step and one test of a flow, over the number of a pair of states: impl.(assignment).step, impl.(guard).passes.
-/
import Derived.Test.YtinjmdjnkneidaaGreatDoorWn
import Derived.Test.YtinjmdjnkneidaaGreatDoorPa
import Derived.Test.YtinjmdjnkneidaaGreatDoorPn
import Derived.Test.YtinjmdjnkneidaaGreatDoorPth
import Derived.Test.YtinjmdjnkneidaaGreatDoorTopH
namespace Go.Proofs.YtinjmdjnkneidaaGreatDoor
open Go.RowKit Tm

theorem blk_keep {w0 w' : World} {b : Nat} {cs : Array Value} {t : TypeId} (h : Blk w0 b cs t) (hb : Below w0.heap.size w0 w') (i : Nat) : w'.cell? ⟨b, i, none⟩ = cs[i]? := (h.kept hb).cell i
/-- The pair with a number, as values of variables. -/
theorem pair_env (k : Nat) (hk : k < 729) (w : World) : Calls Tryz.prog 163 #[.int .i64 k] w fun e w' => e = .returned (.agg #[.int .i64 (wenv k 0), .int .i64 (wenv k 1), .int .i64 (wenv k 2), .int .i64 (wenv k 3), .int .i64 (wenv k 4), .int .i64 (wenv k 5)]) ∧ Below w.heap.size w w' := by
  have h := pair_at (k % 27) (k / 27) (by omega) (by omega) w
  rw [Nat.mod_add_div] at h
  exact h

set_option maxHeartbeats 2000000 in
theorem passes_any (t : Tm) (B : Nat) (xc : Int) (ya : Option Addr) (yn ym : Nat) (i : Nat) (hi : i < 729) (w : World) (ht : Ok true true t) (hr : RepT w B t (.int .u8 xc) (.slice ya yn ym)) :
    Calls Tryz.prog 238 #[.agg #[.int .u8 xc, .slice ya yn ym], .int .i64 i] w fun e w' => e = .returned (.bool (wtst t i)) ∧ Below w.heap.size w w' := by
  have HR := Lib.hid (hr.below ((Below.refl _ w).alloc (Nat.le_refl _) (.cells #[.int .u8 xc, .slice ya yn ym] 199)))
  have P := fun w => Lib.hid (pair_env i hi w)
  have D := fun w h => Lib.hid (holds_any (wenv i) (wenv_bd hi) t B (.int .u8 xc) (.slice ya yn ym) w ht h)
  rw [show tru (wenv i) t = wtst t i from rfl] at D
  have HB := Lib.hid ((Below.refl w.heap.size w).alloc (Nat.le_refl _) (.cells #[.int .u8 xc, .slice ya yn ym] 199))
  have HK := Lib.hid (Blk.new w #[.int .u8 xc, .slice ya yn ym] 199)
  clear hr
  go_enter Tryz.func238, Tryz.ntmps238
  go_wp2_with fail
  generalize w.alloc (.cells #[.int .u8 xc, .slice ya yn ym] 199) = w0 at *
  have q0 : w0.cell? ⟨w.heap.size, 0, none⟩ = some (.int .u8 xc) := HK.out.cell 0
  have q1 : w0.cell? ⟨w.heap.size, 1, none⟩ = some (.slice ya yn ym) := HK.out.cell 1
  have hbb := (Below.refl w0.heap.size w0).drew
  have RG : ∀ w', Below w0.heap.size w0 w' → Below w0.heap.size w0 w' ∧ w'.cell? ⟨w.heap.size, 0, none⟩ = some (.int .u8 xc) ∧ w'.cell? ⟨w.heap.size, 1, none⟩ = some (.slice ya yn ym) := fun w' h => ⟨h, ckeep h q0, ckeep h q1⟩
  have RG' := Lib.hid RG
  clear RG
  go_region_held3 (fun w' => Below w0.heap.size w0 w' ∧ w'.cell? ⟨w.heap.size, 0, none⟩ = some (.int .u8 xc) ∧ w'.cell? ⟨w.heap.size, 1, none⟩ = some (.slice ya yn ym))
    ((first
      | exact RG'.out _ (by assumption)
      | (go_split_ands; exact RG'.out _ (by assumption))
      | (go_split_ands; exact RG'.out _ (bnext (by assumption) hq))))
    (first
      | (go_at_call 163; (with_reducible refine (P _).out.mono ?_); rintro e w5 ⟨rfl, hq⟩)
      | (go_at_call 162; (with_reducible refine (D _ (HR.out.below (by go_split_ands; assumption))).out.mono ?_); rintro e w5 ⟨rfl, hq⟩))
  all_goals
    go_split_ands
    have HF := Lib.hid (bnext HB.out (by assumption))
    go_wp2_with fail
    go_ret
    exact ⟨rfl, HF.out⟩

set_option maxRecDepth 100000 in
set_option maxHeartbeats 4000000 in
theorem step_of (c : UInt8) (i : Nat) (hi : i < 729) (t : Tm) (B : Nat) (xc : Int) (ya : Option Addr) (yn ym : Nat) (p0 p1 p2 q0 q1 q2 : Int) (w : World) (ht : Ok true false t) (hr : RepT w B t (.int .u8 xc) (.slice ya yn ym))
    (hs : st3 p0 p1 p2 = true) (hs' : st3 q0 q1 q2 = true)
    (D : ∀ w, Calls Tryz.prog 189 #[.agg #[.int .i64 (wenv i 0), .int .i64 (wenv i 1), .int .i64 (wenv i 2), .int .i64 (wenv i 3), .int .i64 (wenv i 4), .int .i64 (wenv i 5)], .string (bs [c]), .int .i64 (val (wenv i) t)] w fun e w' => e = .returned (.agg #[.int .i64 p0, .int .i64 p1, .int .i64 p2, .int .i64 q0, .int .i64 q1, .int .i64 q2]) ∧ Below w.heap.size w w') :
    Calls Tryz.prog 161 #[.agg #[.string (bs [c]), .int .u8 xc, .slice ya yn ym], .int .i64 i] w fun e w' => e = .returned (.int .i64 ((ixx p0 p1 p2 + 27 * ixx q0 q1 q2 : Nat) : Int)) ∧ Below w.heap.size w w' := by
  have D' := fun w => Lib.hid (D w)
  have P := fun w => Lib.hid (pair_env i hi w)
  have V := fun w h => Lib.hid (value_any (wenv i) (wenv_bd hi) t B (.int .u8 xc) (.slice ya yn ym) w ht h)
  have I := fun w => Lib.hid (pair_num p0 p1 p2 q0 q1 q2 hs hs' w)
  have HR := Lib.hid (hr.below ((Below.refl _ w).alloc (Nat.le_refl _) (.cells #[.string (bs [c]), .int .u8 xc, .slice ya yn ym] 178)))
  have HB := Lib.hid ((Below.refl w.heap.size w).alloc (Nat.le_refl _) (.cells #[.string (bs [c]), .int .u8 xc, .slice ya yn ym] 178))
  have HK := Lib.hid (Blk.new w #[.string (bs [c]), .int .u8 xc, .slice ya yn ym] 178)
  clear D hr hs hs'
  generalize wenv i 0 = e0 at *
  generalize wenv i 1 = e1 at *
  generalize wenv i 2 = e2 at *
  generalize wenv i 3 = e3 at *
  generalize wenv i 4 = e4 at *
  generalize wenv i 5 = e5 at *
  generalize val (wenv i) t = vv at *
  generalize ((ixx p0 p1 p2 + 27 * ixx q0 q1 q2 : Nat) : Int) = res at *
  go_enter Tryz.func161, Tryz.ntmps161
  go_wp2_with fail
  generalize w.alloc (.cells #[.string (bs [c]), .int .u8 xc, .slice ya yn ym] 178) = wa at *
  refine (P _).out.mono ?_
  rintro e w1 ⟨rfl, hb⟩
  have HB1 := Lib.hid (bnext HB.out hb)
  have HK1 := Lib.hid (HK.out.kept hb)
  have HR1 := Lib.hid (HR.out.below hb)
  clear hb HK HR HB
  have HA1 := Lib.hid (Blk.new w1 #[.int .i64 e0, .int .i64 e1, .int .i64 e2, .int .i64 e3, .int .i64 e4, .int .i64 e5] 74)
  have hbx := (Below.refl _ w1).alloc (Nat.le_refl _) (.cells #[.int .i64 e0, .int .i64 e1, .int .i64 e2, .int .i64 e3, .int .i64 e4, .int .i64 e5] 74)
  have HBx := Lib.hid (bnext HB1.out hbx)
  have HRx := Lib.hid (HR1.out.below hbx)
  have HKx := Lib.hid (HK1.out.kept hbx)
  clear hbx HB1 HR1 HK1
  go_wp2_with fail
  generalize w1.alloc (.cells #[.int .i64 e0, .int .i64 e1, .int .i64 e2, .int .i64 e3, .int .i64 e4, .int .i64 e5] 74) = w0 at *
  have q0 : w0.cell? ⟨w.heap.size, 0, none⟩ = some (.string (bs [c])) := HKx.out.cell 0
  have q1 : w0.cell? ⟨w.heap.size, 1, none⟩ = some (.int .u8 xc) := HKx.out.cell 1
  have q2 : w0.cell? ⟨w.heap.size, 2, none⟩ = some (.slice ya yn ym) := HKx.out.cell 2
  have r0 : w0.cell? ⟨w1.heap.size, 0, none⟩ = some (.int .i64 e0) := HA1.out.cell 0
  have r1 : w0.cell? ⟨w1.heap.size, 1, none⟩ = some (.int .i64 e1) := HA1.out.cell 1
  have r2 : w0.cell? ⟨w1.heap.size, 2, none⟩ = some (.int .i64 e2) := HA1.out.cell 2
  have r3 : w0.cell? ⟨w1.heap.size, 3, none⟩ = some (.int .i64 e3) := HA1.out.cell 3
  have r4 : w0.cell? ⟨w1.heap.size, 4, none⟩ = some (.int .i64 e4) := HA1.out.cell 4
  have r5 : w0.cell? ⟨w1.heap.size, 5, none⟩ = some (.int .i64 e5) := HA1.out.cell 5
  have hbb := (Below.refl w0.heap.size w0).drew
  have RG : ∀ w', Below w0.heap.size w0 w' → Below w0.heap.size w0 w' ∧ w'.cell? ⟨w.heap.size, 0, none⟩ = some (.string (bs [c])) ∧ w'.cell? ⟨w.heap.size, 1, none⟩ = some (.int .u8 xc) ∧ w'.cell? ⟨w.heap.size, 2, none⟩ = some (.slice ya yn ym) ∧
      w'.cell? ⟨w1.heap.size, 0, none⟩ = some (.int .i64 e0) ∧ w'.cell? ⟨w1.heap.size, 1, none⟩ = some (.int .i64 e1) ∧ w'.cell? ⟨w1.heap.size, 2, none⟩ = some (.int .i64 e2) ∧ w'.cell? ⟨w1.heap.size, 3, none⟩ = some (.int .i64 e3) ∧ w'.cell? ⟨w1.heap.size, 4, none⟩ = some (.int .i64 e4) ∧ w'.cell? ⟨w1.heap.size, 5, none⟩ = some (.int .i64 e5) :=
    fun w' h => ⟨h, ckeep h q0, ckeep h q1, ckeep h q2, ckeep h r0, ckeep h r1, ckeep h r2, ckeep h r3, ckeep h r4, ckeep h r5⟩
  have RG' := Lib.hid RG
  clear RG
  go_region_held3 (fun w' => Below w0.heap.size w0 w' ∧ w'.cell? ⟨w.heap.size, 0, none⟩ = some (.string (bs [c])) ∧ w'.cell? ⟨w.heap.size, 1, none⟩ = some (.int .u8 xc) ∧ w'.cell? ⟨w.heap.size, 2, none⟩ = some (.slice ya yn ym) ∧
      w'.cell? ⟨w1.heap.size, 0, none⟩ = some (.int .i64 e0) ∧ w'.cell? ⟨w1.heap.size, 1, none⟩ = some (.int .i64 e1) ∧ w'.cell? ⟨w1.heap.size, 2, none⟩ = some (.int .i64 e2) ∧ w'.cell? ⟨w1.heap.size, 3, none⟩ = some (.int .i64 e3) ∧ w'.cell? ⟨w1.heap.size, 4, none⟩ = some (.int .i64 e4) ∧ w'.cell? ⟨w1.heap.size, 5, none⟩ = some (.int .i64 e5))
    ((first
      | exact RG'.out _ (by assumption)
      | (go_split_ands; exact RG'.out _ (by assumption))
      | (go_split_ands; exact RG'.out _ (bnext (by assumption) hq))))
    (first
      | (go_at_call 190; (with_reducible refine (V _ (HRx.out.below (by go_split_ands; assumption))).out.mono ?_); rintro e w5 ⟨rfl, hq⟩)
      | (go_at_call 189; (with_reducible refine (D' _).out.mono ?_); rintro e w5 ⟨rfl, hq⟩)
      | (go_at_call 63; (with_reducible refine (I _).out.mono ?_); rintro e w5 ⟨rfl, hq⟩))
  all_goals
    go_split_ands
    have HF := Lib.hid (bnext HBx.out (by assumption))
    go_wp2_with fail
    go_ret
    exact ⟨rfl, HF.out⟩

theorem wst3 {k : Nat} (hk : k < 729) : (val3 (wenv k 0) = true ∧ val3 (wenv k 1) = true ∧ val3 (wenv k 2) = true) ∧ val3 (wenv k 3) = true ∧ val3 (wenv k 4) = true ∧ val3 (wenv k 5) = true := by
  have h := wenv_bd hk
  exact ⟨⟨val3_t (h 0).1 (by have := (h 0).2; omega), val3_t (h 1).1 (by have := (h 1).2; omega), val3_t (h 2).1 (by have := (h 2).2; omega)⟩, val3_t (h 3).1 (by have := (h 3).2; omega), val3_t (h 4).1 (by have := (h 4).2; omega), val3_t (h 5).1 (by have := (h 5).2; omega)⟩
theorem ixx_env0 {k : Nat} : ixx (wenv k 0) (wenv k 1) (wenv k 2) = k % 27 := by
  show ixx (ax _) (ay _) (az _) = _
  unfold ixx
  rw [at_ix]; omega
theorem ixx_env3 {k : Nat} : ixx (wenv k 3) (wenv k 4) (wenv k 5) = k / 27 := by
  show ixx (ax _) (ay _) (az _) = _
  unfold ixx
  rw [at_ix]; omega
theorem step_any (c : UInt8) (hc : c = 120 ∨ c = 121 ∨ c = 122 ∨ c = 88 ∨ c = 89 ∨ c = 90) (i : Nat) (t : Tm) (B : Nat) (xc : Int) (ya : Option Addr) (yn ym : Nat) (w : World) (hi : i < 729) (ht : Ok true false t) (hr : RepT w B t (.int .u8 xc) (.slice ya yn ym)) :
    Calls Tryz.prog 161 #[.agg #[.string (bs [c]), .int .u8 xc, .slice ya yn ym], .int .i64 i] w fun e w' => e = .returned (.int .i64 (wasg c t i : Nat)) ∧ Below w.heap.size w w' := by
  obtain ⟨⟨h0, h1, h2⟩, h3, h4, h5⟩ := wst3 hi
  have hv := wval ht hi
  have a := st3_of h0 h1 h2
  have b := st3_of h3 h4 h5
  unfold wasg wset
  rcases hc with rfl | rfl | rfl | rfl | rfl | rfl
  · rw [if_neg (by decide), ← ixx_env3 (k := i)]
    exact step_of 120 i hi t B xc ya yn ym _ _ _ _ _ _ w ht hr (st3_of hv h1 h2) b (fun w => pair_with_0 _ _ _ _ _ _ _ w)
  · rw [if_neg (by decide), ← ixx_env3 (k := i)]
    exact step_of 121 i hi t B xc ya yn ym _ _ _ _ _ _ w ht hr (st3_of h0 hv h2) b (fun w => pair_with_1 _ _ _ _ _ _ _ w)
  · rw [if_neg (by decide), ← ixx_env3 (k := i)]
    exact step_of 122 i hi t B xc ya yn ym _ _ _ _ _ _ w ht hr (st3_of h0 h1 hv) b (fun w => pair_with_2 _ _ _ _ _ _ _ w)
  · rw [if_pos (by decide), ← ixx_env0 (k := i)]
    exact step_of 88 i hi t B xc ya yn ym _ _ _ _ _ _ w ht hr a (st3_of hv h4 h5) (fun w => pair_with_3 _ _ _ _ _ _ _ w)
  · rw [if_pos (by decide), ← ixx_env0 (k := i)]
    exact step_of 89 i hi t B xc ya yn ym _ _ _ _ _ _ w ht hr a (st3_of h3 hv h5) (fun w => pair_with_4 _ _ _ _ _ _ _ w)
  · rw [if_pos (by decide), ← ixx_env0 (k := i)]
    exact step_of 90 i hi t B xc ya yn ym _ _ _ _ _ _ w ht hr a (st3_of h3 h4 hv) (fun w => pair_with_5 _ _ _ _ _ _ _ w)
end Go.Proofs.YtinjmdjnkneidaaGreatDoor
