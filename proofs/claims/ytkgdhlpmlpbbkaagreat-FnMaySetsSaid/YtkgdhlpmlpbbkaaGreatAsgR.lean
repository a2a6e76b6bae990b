/-
  Reading the arguments of the functions on assignments; AssignPre and AssignPost of the program.
-/
import Derived.Test.YtkgdhlpmlpbbkaaGreatImg
import Derived.Test.YtkgdhlpmlpbbkaaGreatRead
namespace Go.Proofs.YtkgdhlpmlpbbkaaGreat
open Go.RowKit Tm

def ixx (x y z : Int) : Nat := (x + 3 * y + 9 * z).toNat
/-- The number of a state in which a variable has another value. -/
def setN (c : UInt8) (n : Int) (i : Nat) : Nat := if c = 120 then ixx n (ay i) (az i) else if c = 121 then ixx (ax i) n (az i) else ixx (ax i) (ay i) n
/-- One assignment as a step from number to number. -/
def asg (c : UInt8) (t : Tm) (i : Nat) : Nat := setN c (val (env i) t) i

theorem ixx_lt {x y z : Int} (h : st3 x y z = true) : ixx x y z < 27 ∧ ((ixx x y z : Nat) : Int) = x + 3 * y + 9 * z := by
  have h := st3_lt h
  unfold ixx; omega
theorem st3_parts {x y z : Int} (h : st3 x y z = true) : val3 x = true ∧ val3 y = true ∧ val3 z = true := by
  unfold st3 at h
  simp only [Bool.and_eq_true] at h
  exact ⟨h.1.1, h.1.2, h.2⟩
theorem st3_of {x y z : Int} (hx : val3 x = true) (hy : val3 y = true) (hz : val3 z = true) : st3 x y z = true := by unfold st3; rw [hx, hy, hz]; rfl
theorem val_env {t : Tm} (ht : Ok false false t) {i : Nat} (hi : i < 27) : val3 (val (env i) t) = true := by
  have h := val_bd (one_bd (at_st3 (i := (i : Int)) (by omega) (by omega))) ht
  exact val3_t h.1 (by have := h.2; unfold env; omega)
theorem setN_lt {c : UInt8} {n : Int} {i : Nat} (hn : val3 n = true) (hi : i < 27) : setN c n i < 27 := by
  obtain ⟨hx, hy, hz⟩ := st3_parts (at_st3 (i := (i : Int)) (by omega) (by omega))
  unfold setN
  split
  · exact (ixx_lt (st3_of hn hy hz)).1
  · split
    · exact (ixx_lt (st3_of hx hn hz)).1
    · exact (ixx_lt (st3_of hx hy hn)).1

theorem implStep (c : UInt8) (hc : c = 120 ∨ c = 121 ∨ c = 122) (i : Nat) (t : Tm) (B : Nat) (xc : Int) (ya : Option Addr) (yn ym : Nat) (w : World) (hi : i < 27) (ht : Ok false false t) (hr : RepT w B t (.int .u8 xc) (.slice ya yn ym)) :
    Calls Tryz.prog 149 #[.agg #[.string ⟨#[c]⟩, .int .u8 xc, .slice ya yn ym], .int .i64 i] w fun e w' => e = .returned (.int .i64 (asg c t i : Nat)) ∧ Below w.heap.size w w' := by
  have hat := at_st3 (i := (i : Int)) (by omega) (by omega)
  obtain ⟨hx, hy, hz⟩ := st3_parts hat
  have hv := val_env ht hi
  rcases hc with rfl | rfl | rfl
  · have h3 := st3_of hv hy hz
    have h := implStep_of 120 i t B xc ya yn ym _ _ _ w hi ht hr h3 (fun w => implSet_x (ax i) (ay i) (az i) (val (env i) t) w hat hv)
    rw [← (ixx_lt h3).2] at h
    exact h
  · have h3 := st3_of hx hv hz
    have h := implStep_of 121 i t B xc ya yn ym _ _ _ w hi ht hr h3 (fun w => implSet_y (ax i) (ay i) (az i) (val (env i) t) w hat hv)
    rw [← (ixx_lt h3).2] at h
    exact h
  · have h3 := st3_of hx hy hv
    have h := implStep_of 122 i t B xc ya yn ym _ _ _ w hi ht hr h3 (fun w => implSet_z (ax i) (ay i) (az i) (val (env i) t) w hat hv)
    rw [← (ixx_lt h3).2] at h
    exact h
theorem asg_lt {c : UInt8} {t : Tm} (ht : Ok false false t) {i : Nat} (hi : i < 27) : asg c t i < 27 := setN_lt (val_env ht hi) hi

theorem isVar_at {v : ByteArray} (h : IsVar v) : ∃ c : UInt8, v = ⟨#[c]⟩ ∧ (c = 120 ∨ c = 121 ∨ c = 122) := by
  rcases h with rfl | rfl | rfl
  · exact ⟨120, rfl, .inl rfl⟩
  · exact ⟨121, rfl, .inr (.inl rfl)⟩
  · exact ⟨122, rfl, .inr (.inr rfl)⟩

end Go.Proofs.YtkgdhlpmlpbbkaaGreat
