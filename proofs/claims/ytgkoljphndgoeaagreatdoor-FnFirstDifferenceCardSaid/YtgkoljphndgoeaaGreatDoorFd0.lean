import Derived.Test.YtgkoljphndgoeaaGreatDoorTopS1
import Derived.BigQuiet
namespace Go.Proofs.YtgkoljphndgoeaaGreatDoor
open Go.RowKit Tm Go.Great Go.ChangeMaps
def tFinals : ByteArray := ⟨#[102, 105, 110, 97, 108, 115]⟩
def tLoops : ByteArray := ⟨#[108, 111, 111, 112, 115]⟩
def tBlocks : ByteArray := ⟨#[98, 108, 111, 99, 107, 115]⟩
def tNone : ByteArray := ⟨#[110, 111, 110, 101]⟩
def whatD (a b : Oc) : ByteArray := if nb 27 a.1 = nb 27 b.1 then (if a.2.1 = b.2.1 then (if a.2.2 = b.2.2 then tNone else tBlocks) else tLoops) else tFinals
def Fd (F G : Nat → Oc) (k : Nat) : Prop := (k < 27 ∧ eqO (F k) (G k) = false ∧ ∀ j, j < k → eqO (F j) (G j) = true) ∨ (k = 0 ∧ ∀ j, j < 27 → eqO (F j) (G j) = true)
theorem fd_one {F G : Nat → Oc} {a b : Nat} (h : Fd F G a) (h' : Fd F G b) : a = b := by
 rcases h with ⟨h1, h2, h3⟩ | ⟨rfl, h3⟩ <;> rcases h' with ⟨g1, g2, g3⟩ | ⟨rfl, g3⟩
 ·rcases Nat.lt_trichotomy a b with h | h | h
  ·have := g3 a h; rw [h2] at this; cases this
  ·exact h
  ·have := h3 b h; rw [g2] at this; cases this
 ·have := g3 a h1; rw [h2] at this; cases this
 ·have := h3 b g1; rw [g2] at this; cases this
 ·rfl
theorem fd_ex (F G : Nat → Oc) : ∃ k, Fd F G k := by
 have : ∀ n, n ≤ 27 → (∀ j, j < n → eqO (F j) (G j) = true) ∨ ∃ k, Fd F G k := by
  intro n
  induction n with
  | zero => exact fun _ => .inl fun j hj => by omega
  | succ n ih =>
   intro hn
   rcases ih (by omega) with h | h
   ·cases he : eqO (F n) (G n) with
    | false => exact .inr ⟨n, .inl ⟨by omega, he, h⟩⟩
    | true =>
     refine .inl fun j hj => ?_
     by_cases e : j = n
     ·subst e; exact he
     ·exact h j (by omega)
   ·exact .inr h
 rcases this 27 (by omega) with h | h
 ·exact ⟨0, .inr ⟨rfl, h⟩⟩
 ·exact h
noncomputable def fdK (F G : Nat → Oc) : Nat := Classical.choose (fd_ex F G)
theorem fdK_is {F G : Nat → Oc} {k : Nat} (h : Fd F G k) : fdK F G = k := fd_one (Classical.choose_spec (fd_ex F G)) h
noncomputable def fdV (F G : Nat → Oc) : Value := .tuple #[.agg #[.int .i64 (ax (fdK F G : Nat)), .int .i64 (ay (fdK F G : Nat)), .int .i64 (az (fdK F G : Nat))], .string (whatD (F (fdK F G)) (G (fdK F G)))]
def fdNo : Value := .tuple #[.agg #[.int .i64 0, .int .i64 0, .int .i64 0], .string ⟨#[]⟩]
theorem what_eq {a b : Oc} (h : eqO a b = true) : whatD a b = tNone := by
 unfold eqO at h
 simp only [Bool.and_eq_true, beq_iff_eq] at h
 unfold whatD
 rw [if_pos h.1.1, if_pos h.1.2, if_pos h.2]
set_option maxRecDepth 100000 in
set_option maxHeartbeats 4000000 in
theorem what_any (a b : Oc) (w : World) : Calls Tryz.prog 113 #[ocV a, ocV b] w fun e w' => e = .returned (.string (whatD a b)) ∧ Below w.heap.size w w' := by
 unfold ocV whatD
 generalize nb 27 a.1 = x0
 generalize a.2.1 = x1
 generalize a.2.2 = x2
 generalize nb 27 b.1 = y0
 generalize b.2.1 = y1
 generalize b.2.2 = y2
 by_cases h0 : y0 = x0
 ·subst h0
  by_cases h1 : y1 = x1
  ·subst h1
   by_cases h2 : y2 = x2
   ·subst h2
    go_enter Tryz.func113, Tryz.ntmps113
    go_wp2_with fail
    go_ret
    exact ⟨by simp [tNone], ((Below.refl _ _).alloc (Nat.le_refl _) _).alloc (by simp) _⟩
   ·have n2 : ¬ x2 = y2 := fun h => h2 h.symm
    have e2 : (x2 == y2) = false := beq_false_of_ne n2
    go_enter Tryz.func113, Tryz.ntmps113
    go_wp2_with fail
    go_ret
    exact ⟨by simp [tBlocks], ((Below.refl _ _).alloc (Nat.le_refl _) _).alloc (by simp) _⟩
  ·have n1 : ¬ x1 = y1 := fun h => h1 h.symm
   have e1 : (x1 == y1) = false := beq_false_of_ne n1
   go_enter Tryz.func113, Tryz.ntmps113
   go_wp2_with fail
   go_ret
   exact ⟨by simp [tLoops], ((Below.refl _ _).alloc (Nat.le_refl _) _).alloc (by simp) _⟩
 ·have m0 : ¬ x0 = y0 := fun h => h0 h.symm
  have n0 : ¬ ((x0 : Nat) : Int) = (y0 : Nat) := by omega
  go_enter Tryz.func113, Tryz.ntmps113
  go_wp2_with fail
  go_ret
  exact ⟨by simp [tFinals], ((Below.refl _ _).alloc (Nat.le_refl _) _).alloc (by simp) _⟩
theorem mis_fd {F G : Nat → Oc} {e : Ending} (h : Misfit eqO F G e) : ∃ (k : Nat) (b : Bool), k < 27 ∧ fdK F G = k ∧ e = .returned (.tuple #[.int .i64 k, .bool b]) := by
 rcases h with ⟨k, h1, h2, h3, rfl⟩ | ⟨h, rfl⟩
 ·exact ⟨k, true, h1, fdK_is (.inl ⟨h1, h2, h3⟩), rfl⟩
 ·exact ⟨0, false, by omega, fdK_is (.inr ⟨rfl, h⟩), rfl⟩
set_option maxRecDepth 100000 in
set_option maxHeartbeats 4000000 in
theorem implFd_yes (s t : ByteArray) (w : World) {p q : Pg} (hp : p.ok false) (hs : s.data.toList = p.ser) (hl : s.size ≤ 200) (hq : q.ok false) (ht : t.data.toList = q.ser) (hm : t.size ≤ 200) :
  Calls Tryz.prog 42 #[.string s, .string t] w fun e w' => e = .returned (fdV (oc p) (oc q)) ∧ Below w.heap.size w w' := by
 have C := fun w => Lib.hid (readOut_yes s t w hp hs hl hq ht hm)
 clear hs ht
 have G0 := Lib.hid (Blk.new w #[.int .i64 0, .int .i64 0, .int .i64 0] 43)
 have HB0 := Lib.hid ((Below.refl w.heap.size w).alloc (Nat.le_refl _) (.cells #[.int .i64 0, .int .i64 0, .int .i64 0] 43))
 go_enter Tryz.func42, Tryz.ntmps42
 go_wp2_with fail
 generalize w.alloc (.cells #[.int .i64 0, .int .i64 0, .int .i64 0] 43) = w1 at *
 refine (C _).out.mono ?_
 rintro e w2 ⟨r1, r2, B, B', rfl, h1, h2, hb⟩
 replace G0 := Lib.hid (G0.out.kept hb)
 replace HB0 := Lib.hid (bmore HB0.out HB0.out.size hb)
 have C1 := Lib.hid (misfit_any fits_same _ _ B B' _ _ w2 h1 h2)
 obtain ⟨g1, c1, rfl, k1, f1⟩ := h1.form
 obtain ⟨g2, c2, rfl, k2, f2⟩ := h2.form
 have F1 := Lib.hid f1
 have F2 := Lib.hid f2
 clear h1 h2 hb C f1 f2
 go_wp2_with fail
 refine C1.out.mono ?_
 rintro e w3 ⟨hmf, hb⟩
 obtain ⟨k, b, hk, hfd, rfl⟩ := mis_fd hmf
 obtain ⟨x0, x1, x2⟩ := F1.out k hk
 obtain ⟨y0, y1, y2⟩ := F2.out k hk
 have X0 := Lib.hid (ckeep hb x0)
 have X1 := Lib.hid (ckeep hb x1)
 have X2 := Lib.hid (ckeep hb x2)
 have Y0 := Lib.hid (ckeep hb y0)
 have Y1 := Lib.hid (ckeep hb y1)
 have Y2 := Lib.hid (ckeep hb y2)
 have HFD := Lib.hid hfd
 replace G0 := Lib.hid (G0.out.kept hb)
 replace HB0 := Lib.hid (bmore HB0.out HB0.out.size hb)
 have D := fun w => Lib.hid (implAt_yes k w (by omega) (by omega))
 clear hb C1 F1 F2 x0 x1 x2 y0 y1 y2 hfd hmf
 go_wp2_with fail
 refine (D _).out.mono ?_
 rintro e w4 ⟨rfl, hb⟩
 replace X0 := Lib.hid (ckeep hb X0.out)
 replace X1 := Lib.hid (ckeep hb X1.out)
 replace X2 := Lib.hid (ckeep hb X2.out)
 replace Y0 := Lib.hid (ckeep hb Y0.out)
 replace Y1 := Lib.hid (ckeep hb Y1.out)
 replace Y2 := Lib.hid (ckeep hb Y2.out)
 replace G0 := Lib.hid (G0.out.kept hb)
 replace HB0 := Lib.hid (bmore HB0.out HB0.out.size hb)
 clear hb D
 have S0 := Lib.hid (Blk.new w4 #[.int .i64 (ax k), .int .i64 (ay k), .int .i64 (az k)] 43)
 have bx := (Below.refl w4.heap.size w4).alloc (Nat.le_refl _) (.cells #[.int .i64 (ax k), .int .i64 (ay k), .int .i64 (az k)] 43)
 have hlt := G0.out.lt
 have x0 := ckeep bx X0.out
 have x1 := ckeep bx X1.out
 have x2 := ckeep bx X2.out
 have y0 := ckeep bx Y0.out
 have y1 := ckeep bx Y1.out
 have y2 := ckeep bx Y2.out
 replace G0 := Lib.hid (G0.out.kept bx)
 replace HB0 := Lib.hid (bmore HB0.out HB0.out.size bx)
 go_wp2_with fail
 generalize w4.alloc (.cells #[.int .i64 (ax k), .int .i64 (ay k), .int .i64 (az k)] 43) = w5 at *
 obtain ⟨s0, s1, s2⟩ := S0.out.c3
 obtain ⟨z0, z1, z2, u0, u1, u2⟩ := G0.out.a3
 have W := fun w => Lib.hid (what_any (oc p k) (oc q k) w)
 have HV : Hid (fdV (oc p) (oc q) = .tuple #[.agg #[.int .i64 (ax k), .int .i64 (ay k), .int .i64 (az k)], .string (whatD (oc p k) (oc q k))]) := by
  show _ = _
  unfold fdV; rw [HFD.out]
 unfold ocV at W
 clear HFD bx X0 X1 X2 Y0 Y1 Y2
 generalize nb 27 (oc p k).1 = a0 at *
 generalize (oc p k).2.1 = a1 at *
 generalize (oc p k).2.2 = a2 at *
 generalize nb 27 (oc q k).1 = b0 at *
 generalize (oc q k).2.1 = b1 at *
 generalize (oc q k).2.2 = b2 at *
 generalize whatD (oc p k) (oc q k) = txt at *
 generalize ax k = ux at *
 generalize ay k = uy at *
 generalize az k = uz at *
 have hne : w.heap.size ≠ w4.heap.size := by omega
 have hk27 : (k : Int) < 27 := by omega
 have hk0 : (0 : Int) ≤ k := by omega
 have hbb := (Below.refl w5.heap.size w5).drew
 have GK := fun w6 (h : Below w5.heap.size w5 w6) => Lib.hid (G0.out.kept h)
 have SK := fun w6 (h : Below w5.heap.size w5 w6) => Lib.hid (S0.out.kept h)
 go_region_with (go_at_call 113; (with_reducible refine (W _).out.mono ?_); rintro e w6 ⟨rfl, hq⟩; have Z := (GK _ (bnext hbb hq)).out; have v0 := Z.c3.1; have v1 := Z.c3.2.1; have v2 := Z.c3.2.2; have n0 := Z.f3.1; have n1 := Z.f3.2.1; have n2 := Z.f3.2.2; have Y := (SK _ (bnext hbb hq)).out; have m0 := Y.c3.1; have m1 := Y.c3.2.1; have m2 := Y.c3.2.2)
 all_goals (
  have HF := Lib.hid (bmore HB0.out HB0.out.size (bnext hbb hq))
  go_wp2_with fail
  exact bodyPost_ret (v := .tuple #[.agg #[.int .i64 ux, .int .i64 uy, .int .i64 uz], .string txt]) (by simp [results, Tryz.results42, go_sem, v0, v1, v2]) rfl ⟨by rw [HV.out], by (repeat refine Below.setCell ?_ (by simp) _); exact HF.out⟩)
set_option maxHeartbeats 2000000 in
theorem implFd_no (s t : ByteArray) (w : World) (h : ¬ ((PValid false s.data.toList ∧ s.size ≤ 200) ∧ PValid false t.data.toList ∧ t.size ≤ 200)) :
  Calls Tryz.prog 42 #[.string s, .string t] w fun e w' => e = .returned fdNo ∧ Below w.heap.size w w' := by
 have C := fun w => Lib.hid (readOut_no s t w h)
 clear h
 have G0 := Lib.hid (Blk.new w #[.int .i64 0, .int .i64 0, .int .i64 0] 43)
 have HB0 := Lib.hid ((Below.refl w.heap.size w).alloc (Nat.le_refl _) (.cells #[.int .i64 0, .int .i64 0, .int .i64 0] 43))
 go_enter Tryz.func42, Tryz.ntmps42
 go_wp2_with fail
 generalize w.alloc (.cells #[.int .i64 0, .int .i64 0, .int .i64 0] 43) = w1 at *
 refine (C _).out.mono ?_
 rintro e w2 ⟨rfl, hb⟩
 replace G0 := Lib.hid (G0.out.kept hb)
 replace HB0 := Lib.hid (bmore HB0.out HB0.out.size hb)
 obtain ⟨z0, z1, z2, u0, u1, u2⟩ := G0.out.a3
 clear hb C
 go_wp2_with fail
 exact bodyPost_ret (v := .tuple #[.agg #[.int .i64 0, .int .i64 0, .int .i64 0], .string ⟨#[]⟩]) (by simp [results, Tryz.results42, go_sem, z0, z1, z2]) rfl ⟨rfl, by (repeat refine Below.setCell ?_ (by simp) _); exact HB0.out⟩
end Go.Proofs.YtgkoljphndgoeaaGreatDoor
