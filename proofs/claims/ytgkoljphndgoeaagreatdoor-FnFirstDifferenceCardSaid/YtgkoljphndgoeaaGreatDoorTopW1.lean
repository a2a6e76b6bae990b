import Derived.Test.YtgkoljphndgoeaaGreatDoorTopH
import Derived.Test.YtgkoljphndgoeaaGreatDoorTopY
import Derived.Test.YtgkoljphndgoeaaGreatDoorTopV
import Derived.Test.YtgkoljphndgoeaaGreatDoorTopB
import Derived.Deep.RegionHeld3
import Derived.Deep.MidRow
namespace Go.Proofs.YtgkoljphndgoeaaGreatDoor
open Go.RowKit Tm
def mdl : Mdl := ⟨asg, tst⟩
def env2 (i j : Nat) : Nat → Int := fun k => if k < 3 then env i k else env j (k - 3)
def wdR (t : Tm) : Nat → Nat → Bool := fun i j => tru (env2 i j) t
theorem env2_bd {i j : Nat} (hi : i < 27) (hj : j < 27) : ∀ k, 0 ≤ env2 i j k ∧ env2 i j k ≤ 2 := by
 intro k
 unfold env2
 split
 ·exact one_bd (at_st3 (i := (i : Int)) (by omega) (by omega)) k
 ·exact one_bd (at_st3 (i := (j : Int)) (by omega) (by omega)) (k - 3)
def wenv (k : Nat) : Nat → Int := env2 (k % 27) (k / 27)
def wtst (t : Tm) (k : Nat) : Bool := tru (wenv k) t
def wset (c : UInt8) (n : Int) (k : Nat) : Nat := if c = 88 ∨ c = 89 ∨ c = 90 then k % 27 + 27 * setN (c + 32) n (k / 27) else setN c n (k % 27) + 27 * (k / 27)
def wasg (c : UInt8) (t : Tm) (k : Nat) : Nat := wset c (val (wenv k) t) k
def mdlW : Mdl := ⟨wasg, wtst⟩
theorem wenv_bd {k : Nat} (hk : k < 729) : ∀ i, 0 ≤ wenv k i ∧ wenv k i ≤ 2 := env2_bd (by omega) (by omega)
theorem wval {t : Tm} (ht : Ok true false t) {k : Nat} (hk : k < 729) : val3 (val (wenv k) t) = true := by
 have h := val_bd (wenv_bd hk) ht
 exact val3_t h.1 (by have := h.2; omega)
theorem varW_cases {wide : Bool} {v : UInt8} (h : isVarB wide v = true) : v = 120 ∨ v = 121 ∨ v = 122 ∨ v = 88 ∨ v = 89 ∨ v = 90 := by
 cases wide
 ·have h' : v = 120 ∨ v = 121 ∨ v = 122 := by simpa [isVarB, or_assoc] using h
  rcases h' with h | h | h
  ·exact .inl h
  ·exact .inr (.inl h)
  ·exact .inr (.inr (.inl h))
 ·simpa [isVarB, or_assoc] using h
theorem ok_any {wide k : Bool} {t : Tm} (h : Ok wide k t) : Ok true k t := by
 cases wide
 ·exact ok_wide h
 ·exact h
theorem varB_cases {v : UInt8} (h : isVarB false v = true) : v = 120 ∨ v = 121 ∨ v = 122 := by
 simpa [isVarB, or_assoc] using h
theorem wenv_nar {k : Nat} (hk : k < 27) : wenv k = env k := by
 funext i
 unfold wenv env2
 rw [show k % 27 = k by omega, show k / 27 = 0 by omega]
 split
 ·rfl
 ·rename_i h
  obtain ⟨n, rfl⟩ : ∃ n, i = n + 3 := ⟨i - 3, by omega⟩
  have h0 : ∀ n, env 0 n = 0 := fun n => by
   match n with
   | 0 => rfl
   | 1 => rfl
   | 2 => rfl
   | n + 3 => rfl
  rw [h0]
  rfl
theorem mdlW_t (t : Tm) {i : Nat} (hi : i < 27) : mdlW.t t i = mdl.t t i := by
 show tru (wenv i) t = tru (env i) t
 rw [wenv_nar hi]
theorem mdlW_a {v : UInt8} {e : Tm} (hv : v = 120 ∨ v = 121 ∨ v = 122) {i : Nat} (hi : i < 27) : mdlW.a v e i = mdl.a v e i := by
 show wasg v e i = asg v e i
 unfold wasg wset asg
 rw [if_neg (by rcases hv with rfl | rfl | rfl <;> decide), wenv_nar hi, show i % 27 = i by omega, show i / 27 = 0 by omega]
 rfl
end Go.Proofs.YtgkoljphndgoeaaGreatDoor
namespace Go.Proofs.YtgkoljphndgoeaaGreatDoor
open Go.RowKit
set_option maxRecDepth 100000 in
set_option maxHeartbeats 4000000 in
theorem pair_at (i j : Nat) (hi : i < 27) (hj : j < 27) (w : World) : Calls Tryz.prog 221 #[.int .i64 (i + 27 * j : Nat)] w fun e w' => e = .returned (.agg #[.int .i64 (ax i), .int .i64 (ay i), .int .i64 (az i), .int .i64 (ax j), .int .i64 (ay j), .int .i64 (az j)]) ∧ Below w.heap.size w w' := by
 have A1 := fun w => Lib.hid (implAt_yes i w (by omega) (by omega))
 have A2 := fun w => Lib.hid (implAt_yes j w (by omega) (by omega))
 obtain ⟨n, hn⟩ : ∃ n : Nat, n = i + 27 * j := ⟨_, rfl⟩
 have hr : ((n : Int)).tmod 27 = (i : Int) := by rw [Int.tmod_eq_emod_of_nonneg (by omega)]; omega
 have hq : ((n : Int)).tdiv 27 = (j : Int) := by rw [Int.tdiv_eq_ediv_of_nonneg (by omega)]; omega
 have hr' : ((n : Int)) % 27 = (i : Int) := by omega
 have hq' : ((n : Int)) / 27 = (j : Int) := by omega
 have hn0 : (0 : Int) ≤ (n : Int) := by omega
 rw [← hn]
 clear hn
 generalize ax i = a0 at *
 generalize ay i = a1 at *
 generalize az i = a2 at *
 generalize ax j = b0 at *
 generalize ay j = b1 at *
 generalize az j = b2 at *
 go_enter Tryz.func221, Tryz.ntmps221
 go_wp2_with fail
 refine (A1 _).out.mono ?_
 rintro e w1 ⟨rfl, hb⟩
 have z0 := (Blk.new w #[.int .i64 0, .int .i64 0, .int .i64 0, .int .i64 0, .int .i64 0, .int .i64 0] 242).kept hb
 have KB := bnext ((Below.refl w.heap.size w).alloc (Nat.le_refl _) (.cells #[.int .i64 0, .int .i64 0, .int .i64 0, .int .i64 0, .int .i64 0, .int .i64 0] 242)) hb
 have b1 := Blk.new w1 #[.int .i64 a0, .int .i64 a1, .int .i64 a2] 43
 replace z0 := z0.alloc (.cells #[.int .i64 a0, .int .i64 a1, .int .i64 a2] 43)
 replace KB := KB.alloc KB.size (.cells #[.int .i64 a0, .int .i64 a1, .int .i64 a2] 43)
 have Z0 := Lib.hid z0
 have B1 := Lib.hid b1
 have HB := Lib.hid KB
 clear hb z0 b1 KB
 go_wp2_with fail
 generalize w1.alloc (.cells #[.int .i64 a0, .int .i64 a1, .int .i64 a2] 43) = w2 at *
 refine (A2 _).out.mono ?_
 rintro e w3 ⟨rfl, hb⟩
 obtain ⟨q0, q1, q2⟩ := ((B1.out.kept hb).alloc (.cells #[.int .i64 b0, .int .i64 b1, .int .i64 b2] 43)).c3
 obtain ⟨q3, q4, q5⟩ := (Blk.new w3 #[.int .i64 b0, .int .i64 b1, .int .i64 b2] 43).c3
 have z0 := (Z0.out.kept hb).alloc (.cells #[.int .i64 b0, .int .i64 b1, .int .i64 b2] 43)
 have zi := z0.cell
 have i0 := zi 0; have i1 := zi 1; have i2 := zi 2; have i3 := zi 3; have i4 := zi 4; have i5 := zi 5
 have f0 := z0.free 0; have f1 := z0.free 1; have f2 := z0.free 2; have f3 := z0.free 3; have f4 := z0.free 4; have f5 := z0.free 5
 have KB := bnext HB.out hb
 have HB2 := Lib.hid (KB.alloc KB.size (.cells #[.int .i64 b0, .int .i64 b1, .int .i64 b2] 43))
 replace Z0 := Lib.hid z0
 clear hb z0 zi KB B1
 go_wp2_with fail
 exact bodyPost_ret (v := .agg #[.int .i64 a0, .int .i64 a1, .int .i64 a2, .int .i64 b0, .int .i64 b1, .int .i64 b2]) (results_cell_row rfl _ _ w.heap.size 242 _ (0, 0) _ (by rfl) ((((((Z0.out.set 0 (.int .i64 a0)).set 1 (.int .i64 a1)).set 2 (.int .i64 a2)).set 3 (.int .i64 b0)).set 4 (.int .i64 b1)).set 5 (.int .i64 b2)) Tryz.underlying242 rfl (by kernel_rfl)) rfl
  ⟨rfl, (((((HB2.out.setCell (p := ⟨w.heap.size, 0, none⟩) (Nat.le_refl _) _).setCell (p := ⟨w.heap.size, 1, none⟩) (Nat.le_refl _) _).setCell (p := ⟨w.heap.size, 2, none⟩) (Nat.le_refl _) _).setCell (p := ⟨w.heap.size, 3, none⟩) (Nat.le_refl _) _).setCell (p := ⟨w.heap.size, 4, none⟩) (Nat.le_refl _) _).setCell (p := ⟨w.heap.size, 5, none⟩) (Nat.le_refl _) _⟩
theorem oneB (w : World) (A : Array Value) (t : TypeId) : Blk (w.alloc (.cells A t)) w.heap.size A t ∧ Below w.heap.size w (w.alloc (.cells A t)) ∧ (w.alloc (.cells A t)).heap.size = w.heap.size + 1 :=
 ⟨Blk.new _ _ _, (Below.refl _ _).alloc (Nat.le_refl _) _, by simp⟩
set_option maxRecDepth 100000 in
set_option maxHeartbeats 4000000 in
theorem pair_num (x y z x' y' z' : Int) (h : st3 x y z = true) (h' : st3 x' y' z' = true) (w : World) : Calls Tryz.prog 248 #[.agg #[.int .i64 x, .int .i64 y, .int .i64 z, .int .i64 x', .int .i64 y', .int .i64 z']] w fun e w' => e = .returned (.int .i64 ((ixx x y z + 27 * ixx x' y' z' : Nat) : Int)) ∧ Below w.heap.size w w' := by
 have hi := ixx_lt h
 have hi' := ixx_lt h'
 have I := fun w => Lib.hid (implIx_yes x y z w h)
 rw [← hi.2] at I
 have I' := fun w => Lib.hid (implIx_yes x' y' z' w h')
 rw [← hi'.2] at I'
 have l1 := hi.1
 have l2 := hi'.1
 clear hi hi' h h'
 generalize ixx x y z = i at *
 generalize ixx x' y' z' = j at *
 have ew1 : IntKind.i64.wrap (27 * (j : Int)) = 27 * (j : Int) := IntWalk.i64_in _ (by omega)
 have ew2 : IntKind.i64.wrap ((i : Int) + 27 * (j : Int)) = ((i + 27 * j : Nat) : Int) := (IntWalk.i64_in _ (by omega)).trans (by omega)
 obtain ⟨k0, kb, kz⟩ := oneB w #[.int .i64 x, .int .i64 y, .int .i64 z, .int .i64 x', .int .i64 y', .int .i64 z'] 242
 have K0 := Lib.hid k0
 have KB := Lib.hid kb
 clear k0 kb kz l1 l2
 go_enter Tryz.func248, Tryz.ntmps248
 go_wp2_with fail
 generalize w.alloc (.cells #[.int .i64 x, .int .i64 y, .int .i64 z, .int .i64 x', .int .i64 y', .int .i64 z'] 242) = wx at *
 have q0 := K0.out.cell 0
 have q1 := K0.out.cell 1
 have q2 := K0.out.cell 2
 have q3 := K0.out.cell 3
 have q4 := K0.out.cell 4
 have q5 := K0.out.cell 5
 simp at q0 q1 q2 q3 q4 q5
 have hbb := (Below.refl wx.heap.size wx).drew
 have RG : ∀ w', Below wx.heap.size wx w' → Below wx.heap.size wx w' ∧ w'.cell? ⟨w.heap.size, 0, none⟩ = some (.int .i64 x) ∧ w'.cell? ⟨w.heap.size, 1, none⟩ = some (.int .i64 y) ∧ w'.cell? ⟨w.heap.size, 2, none⟩ = some (.int .i64 z) ∧ w'.cell? ⟨w.heap.size, 3, none⟩ = some (.int .i64 x') ∧ w'.cell? ⟨w.heap.size, 4, none⟩ = some (.int .i64 y') ∧ w'.cell? ⟨w.heap.size, 5, none⟩ = some (.int .i64 z') := fun w' h => ⟨h, ckeep h q0, ckeep h q1, ckeep h q2, ckeep h q3, ckeep h q4, ckeep h q5⟩
 have RG' := Lib.hid RG
 clear RG
 go_region_held3 (fun w' => Below wx.heap.size wx w' ∧ w'.cell? ⟨w.heap.size, 0, none⟩ = some (.int .i64 x) ∧ w'.cell? ⟨w.heap.size, 1, none⟩ = some (.int .i64 y) ∧ w'.cell? ⟨w.heap.size, 2, none⟩ = some (.int .i64 z) ∧ w'.cell? ⟨w.heap.size, 3, none⟩ = some (.int .i64 x') ∧ w'.cell? ⟨w.heap.size, 4, none⟩ = some (.int .i64 y') ∧ w'.cell? ⟨w.heap.size, 5, none⟩ = some (.int .i64 z'))
  ((first
   | exact RG'.out _ (by assumption)
   | (go_split_ands; exact RG'.out _ (by assumption))
   | (go_split_ands; exact RG'.out _ (bnext (by assumption) hq))))
  (first
   | (go_at_call 126; (with_reducible refine (I _).out.mono ?_); rintro e w5 ⟨rfl, hq⟩)
   | (go_at_call 126; (with_reducible refine (I' _).out.mono ?_); rintro e w5 ⟨rfl, hq⟩))
 all_goals
  go_split_ands
  have HF := Lib.hid (bnext KB.out (by assumption))
  go_wp2_with fail
  go_ret
  exact ⟨rfl, HF.out⟩
set_option maxRecDepth 100000 in
set_option maxHeartbeats 4000000 in
theorem pair_with_0 (n a0 a1 a2 b0 b1 b2 : Int) (w : World) : Calls Tryz.prog 246 #[.agg #[.int .i64 a0, .int .i64 a1, .int .i64 a2, .int .i64 b0, .int .i64 b1, .int .i64 b2], .string (bs [120]), .int .i64 n] w fun e w' => e = .returned (.agg #[.int .i64 n, .int .i64 a1, .int .i64 a2, .int .i64 b0, .int .i64 b1, .int .i64 b2]) ∧ Below w.heap.size w w' := by
 have e0 : ((bs [120]).toList == [120]) = true := by decide +kernel
 go_enter Tryz.func246, Tryz.ntmps246
 go_wp2_with fail
 have k0 := Blk.new (w.alloc (.cells #[.int .i64 n, .int .i64 a1, .int .i64 a2, .int .i64 b0, .int .i64 b1, .int .i64 b2] 242)) #[.int .i64 n, .int .i64 a1, .int .i64 a2, .int .i64 b0, .int .i64 b1, .int .i64 b2] 242
 rw [show (w.alloc (.cells #[.int .i64 n, .int .i64 a1, .int .i64 a2, .int .i64 b0, .int .i64 b1, .int .i64 b2] 242)).heap.size = w.heap.size + 1 by simp] at k0
 have kb := ((Below.refl w.heap.size w).alloc (Nat.le_refl _) (.cells #[.int .i64 n, .int .i64 a1, .int .i64 a2, .int .i64 b0, .int .i64 b1, .int .i64 b2] 242)).alloc (by simp) (.cells #[.int .i64 n, .int .i64 a1, .int .i64 a2, .int .i64 b0, .int .i64 b1, .int .i64 b2] 242)
 exact bodyPost_ret (v := .agg #[.int .i64 n, .int .i64 a1, .int .i64 a2, .int .i64 b0, .int .i64 b1, .int .i64 b2]) (results_cell_row rfl _ _ (w.heap.size + 1) 242 _ (0, 0) _ (by rfl) k0 Tryz.underlying242 rfl (by kernel_rfl)) rfl ⟨rfl, kb⟩
set_option maxRecDepth 100000 in
set_option maxHeartbeats 4000000 in
theorem pair_with_1 (n a0 a1 a2 b0 b1 b2 : Int) (w : World) : Calls Tryz.prog 246 #[.agg #[.int .i64 a0, .int .i64 a1, .int .i64 a2, .int .i64 b0, .int .i64 b1, .int .i64 b2], .string (bs [121]), .int .i64 n] w fun e w' => e = .returned (.agg #[.int .i64 a0, .int .i64 n, .int .i64 a2, .int .i64 b0, .int .i64 b1, .int .i64 b2]) ∧ Below w.heap.size w w' := by
 have e0 : ((bs [121]).toList == [120]) = false := by decide +kernel
 have e1 : ((bs [121]).toList == [121]) = true := by decide +kernel
 go_enter Tryz.func246, Tryz.ntmps246
 go_wp2_with fail
 have k0 := Blk.new (w.alloc (.cells #[.int .i64 a0, .int .i64 n, .int .i64 a2, .int .i64 b0, .int .i64 b1, .int .i64 b2] 242)) #[.int .i64 a0, .int .i64 n, .int .i64 a2, .int .i64 b0, .int .i64 b1, .int .i64 b2] 242
 rw [show (w.alloc (.cells #[.int .i64 a0, .int .i64 n, .int .i64 a2, .int .i64 b0, .int .i64 b1, .int .i64 b2] 242)).heap.size = w.heap.size + 1 by simp] at k0
 have kb := ((Below.refl w.heap.size w).alloc (Nat.le_refl _) (.cells #[.int .i64 a0, .int .i64 n, .int .i64 a2, .int .i64 b0, .int .i64 b1, .int .i64 b2] 242)).alloc (by simp) (.cells #[.int .i64 a0, .int .i64 n, .int .i64 a2, .int .i64 b0, .int .i64 b1, .int .i64 b2] 242)
 exact bodyPost_ret (v := .agg #[.int .i64 a0, .int .i64 n, .int .i64 a2, .int .i64 b0, .int .i64 b1, .int .i64 b2]) (results_cell_row rfl _ _ (w.heap.size + 1) 242 _ (0, 0) _ (by rfl) k0 Tryz.underlying242 rfl (by kernel_rfl)) rfl ⟨rfl, kb⟩
set_option maxRecDepth 100000 in
set_option maxHeartbeats 4000000 in
theorem pair_with_2 (n a0 a1 a2 b0 b1 b2 : Int) (w : World) : Calls Tryz.prog 246 #[.agg #[.int .i64 a0, .int .i64 a1, .int .i64 a2, .int .i64 b0, .int .i64 b1, .int .i64 b2], .string (bs [122]), .int .i64 n] w fun e w' => e = .returned (.agg #[.int .i64 a0, .int .i64 a1, .int .i64 n, .int .i64 b0, .int .i64 b1, .int .i64 b2]) ∧ Below w.heap.size w w' := by
 have e0 : ((bs [122]).toList == [120]) = false := by decide +kernel
 have e1 : ((bs [122]).toList == [121]) = false := by decide +kernel
 have e2 : ((bs [122]).toList == [122]) = true := by decide +kernel
 go_enter Tryz.func246, Tryz.ntmps246
 go_wp2_with fail
 have k0 := Blk.new (w.alloc (.cells #[.int .i64 a0, .int .i64 a1, .int .i64 n, .int .i64 b0, .int .i64 b1, .int .i64 b2] 242)) #[.int .i64 a0, .int .i64 a1, .int .i64 n, .int .i64 b0, .int .i64 b1, .int .i64 b2] 242
 rw [show (w.alloc (.cells #[.int .i64 a0, .int .i64 a1, .int .i64 n, .int .i64 b0, .int .i64 b1, .int .i64 b2] 242)).heap.size = w.heap.size + 1 by simp] at k0
 have kb := ((Below.refl w.heap.size w).alloc (Nat.le_refl _) (.cells #[.int .i64 a0, .int .i64 a1, .int .i64 n, .int .i64 b0, .int .i64 b1, .int .i64 b2] 242)).alloc (by simp) (.cells #[.int .i64 a0, .int .i64 a1, .int .i64 n, .int .i64 b0, .int .i64 b1, .int .i64 b2] 242)
 exact bodyPost_ret (v := .agg #[.int .i64 a0, .int .i64 a1, .int .i64 n, .int .i64 b0, .int .i64 b1, .int .i64 b2]) (results_cell_row rfl _ _ (w.heap.size + 1) 242 _ (0, 0) _ (by rfl) k0 Tryz.underlying242 rfl (by kernel_rfl)) rfl ⟨rfl, kb⟩
set_option maxRecDepth 100000 in
set_option maxHeartbeats 4000000 in
theorem pair_with_3 (n a0 a1 a2 b0 b1 b2 : Int) (w : World) : Calls Tryz.prog 246 #[.agg #[.int .i64 a0, .int .i64 a1, .int .i64 a2, .int .i64 b0, .int .i64 b1, .int .i64 b2], .string (bs [88]), .int .i64 n] w fun e w' => e = .returned (.agg #[.int .i64 a0, .int .i64 a1, .int .i64 a2, .int .i64 n, .int .i64 b1, .int .i64 b2]) ∧ Below w.heap.size w w' := by
 have e0 : ((bs [88]).toList == [120]) = false := by decide +kernel
 have e1 : ((bs [88]).toList == [121]) = false := by decide +kernel
 have e2 : ((bs [88]).toList == [122]) = false := by decide +kernel
 have e3 : ((bs [88]).toList == [88]) = true := by decide +kernel
 go_enter Tryz.func246, Tryz.ntmps246
 go_wp2_with fail
 have k0 := Blk.new (w.alloc (.cells #[.int .i64 a0, .int .i64 a1, .int .i64 a2, .int .i64 n, .int .i64 b1, .int .i64 b2] 242)) #[.int .i64 a0, .int .i64 a1, .int .i64 a2, .int .i64 n, .int .i64 b1, .int .i64 b2] 242
 rw [show (w.alloc (.cells #[.int .i64 a0, .int .i64 a1, .int .i64 a2, .int .i64 n, .int .i64 b1, .int .i64 b2] 242)).heap.size = w.heap.size + 1 by simp] at k0
 have kb := ((Below.refl w.heap.size w).alloc (Nat.le_refl _) (.cells #[.int .i64 a0, .int .i64 a1, .int .i64 a2, .int .i64 n, .int .i64 b1, .int .i64 b2] 242)).alloc (by simp) (.cells #[.int .i64 a0, .int .i64 a1, .int .i64 a2, .int .i64 n, .int .i64 b1, .int .i64 b2] 242)
 exact bodyPost_ret (v := .agg #[.int .i64 a0, .int .i64 a1, .int .i64 a2, .int .i64 n, .int .i64 b1, .int .i64 b2]) (results_cell_row rfl _ _ (w.heap.size + 1) 242 _ (0, 0) _ (by rfl) k0 Tryz.underlying242 rfl (by kernel_rfl)) rfl ⟨rfl, kb⟩
set_option maxRecDepth 100000 in
set_option maxHeartbeats 4000000 in
theorem pair_with_4 (n a0 a1 a2 b0 b1 b2 : Int) (w : World) : Calls Tryz.prog 246 #[.agg #[.int .i64 a0, .int .i64 a1, .int .i64 a2, .int .i64 b0, .int .i64 b1, .int .i64 b2], .string (bs [89]), .int .i64 n] w fun e w' => e = .returned (.agg #[.int .i64 a0, .int .i64 a1, .int .i64 a2, .int .i64 b0, .int .i64 n, .int .i64 b2]) ∧ Below w.heap.size w w' := by
 have e0 : ((bs [89]).toList == [120]) = false := by decide +kernel
 have e1 : ((bs [89]).toList == [121]) = false := by decide +kernel
 have e2 : ((bs [89]).toList == [122]) = false := by decide +kernel
 have e3 : ((bs [89]).toList == [88]) = false := by decide +kernel
 have e4 : ((bs [89]).toList == [89]) = true := by decide +kernel
 go_enter Tryz.func246, Tryz.ntmps246
 go_wp2_with fail
 have k0 := Blk.new (w.alloc (.cells #[.int .i64 a0, .int .i64 a1, .int .i64 a2, .int .i64 b0, .int .i64 n, .int .i64 b2] 242)) #[.int .i64 a0, .int .i64 a1, .int .i64 a2, .int .i64 b0, .int .i64 n, .int .i64 b2] 242
 rw [show (w.alloc (.cells #[.int .i64 a0, .int .i64 a1, .int .i64 a2, .int .i64 b0, .int .i64 n, .int .i64 b2] 242)).heap.size = w.heap.size + 1 by simp] at k0
 have kb := ((Below.refl w.heap.size w).alloc (Nat.le_refl _) (.cells #[.int .i64 a0, .int .i64 a1, .int .i64 a2, .int .i64 b0, .int .i64 n, .int .i64 b2] 242)).alloc (by simp) (.cells #[.int .i64 a0, .int .i64 a1, .int .i64 a2, .int .i64 b0, .int .i64 n, .int .i64 b2] 242)
 exact bodyPost_ret (v := .agg #[.int .i64 a0, .int .i64 a1, .int .i64 a2, .int .i64 b0, .int .i64 n, .int .i64 b2]) (results_cell_row rfl _ _ (w.heap.size + 1) 242 _ (0, 0) _ (by rfl) k0 Tryz.underlying242 rfl (by kernel_rfl)) rfl ⟨rfl, kb⟩
set_option maxRecDepth 100000 in
set_option maxHeartbeats 4000000 in
theorem pair_with_5 (n a0 a1 a2 b0 b1 b2 : Int) (w : World) : Calls Tryz.prog 246 #[.agg #[.int .i64 a0, .int .i64 a1, .int .i64 a2, .int .i64 b0, .int .i64 b1, .int .i64 b2], .string (bs [90]), .int .i64 n] w fun e w' => e = .returned (.agg #[.int .i64 a0, .int .i64 a1, .int .i64 a2, .int .i64 b0, .int .i64 b1, .int .i64 n]) ∧ Below w.heap.size w w' := by
 have e0 : ((bs [90]).toList == [120]) = false := by decide +kernel
 have e1 : ((bs [90]).toList == [121]) = false := by decide +kernel
 have e2 : ((bs [90]).toList == [122]) = false := by decide +kernel
 have e3 : ((bs [90]).toList == [88]) = false := by decide +kernel
 have e4 : ((bs [90]).toList == [89]) = false := by decide +kernel
 have e5 : ((bs [90]).toList == [90]) = true := by decide +kernel
 go_enter Tryz.func246, Tryz.ntmps246
 go_wp2_with fail
 have k0 := Blk.new (w.alloc (.cells #[.int .i64 a0, .int .i64 a1, .int .i64 a2, .int .i64 b0, .int .i64 b1, .int .i64 n] 242)) #[.int .i64 a0, .int .i64 a1, .int .i64 a2, .int .i64 b0, .int .i64 b1, .int .i64 n] 242
 rw [show (w.alloc (.cells #[.int .i64 a0, .int .i64 a1, .int .i64 a2, .int .i64 b0, .int .i64 b1, .int .i64 n] 242)).heap.size = w.heap.size + 1 by simp] at k0
 have kb := ((Below.refl w.heap.size w).alloc (Nat.le_refl _) (.cells #[.int .i64 a0, .int .i64 a1, .int .i64 a2, .int .i64 b0, .int .i64 b1, .int .i64 n] 242)).alloc (by simp) (.cells #[.int .i64 a0, .int .i64 a1, .int .i64 a2, .int .i64 b0, .int .i64 b1, .int .i64 n] 242)
 exact bodyPost_ret (v := .agg #[.int .i64 a0, .int .i64 a1, .int .i64 a2, .int .i64 b0, .int .i64 b1, .int .i64 n]) (results_cell_row rfl _ _ (w.heap.size + 1) 242 _ (0, 0) _ (by rfl) k0 Tryz.underlying242 rfl (by kernel_rfl)) rfl ⟨rfl, kb⟩
end Go.Proofs.YtgkoljphndgoeaaGreatDoor
