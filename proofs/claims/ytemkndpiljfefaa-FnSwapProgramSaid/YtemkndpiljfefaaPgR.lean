/-
  What a program reads and writes, as text. Nothing of the program stands here.
-/
import Derived.Test.YtemkndpiljfefaaPgW
namespace Go.Proofs.Ytemkndpiljfefaa
open Tm

def Pg.rwq (wr : Bool) : Pg → List UInt8
  | .asg v e => if wr then [v] else e.ser
  | q => if wr then [] else q.hd
theorem Pg.rw_le (wr : Bool) (p : Pg) : (p.all.flatMap (Pg.rwq wr)).length ≤ p.ser.length := by
  induction p with
  | skip => cases wr <;> simp [Pg.all, Pg.rwq, Pg.hd, Pg.ser]
  | asg v e => cases wr <;> simp [Pg.all, Pg.rwq, Pg.ser] <;> omega
  | seq a b ia ib =>
    simp only [Pg.all, List.flatMap_cons, List.flatMap_append, List.length_append, Pg.ser, List.length_cons]
    have : (Pg.rwq wr (.seq a b)).length = 0 := by cases wr <;> rfl
    omega
  | cho a b ia ib =>
    simp only [Pg.all, List.flatMap_cons, List.flatMap_append, List.length_append, Pg.ser, List.length_cons]
    have : (Pg.rwq wr (.cho a b)).length = 0 := by cases wr <;> rfl
    omega
  | ite t a b ia ib =>
    simp only [Pg.all, List.flatMap_cons, List.flatMap_append, List.length_append, Pg.ser, List.length_cons]
    have : (Pg.rwq wr (.ite t a b)).length ≤ t.ser.length := by cases wr <;> simp [Pg.rwq, Pg.hd]
    omega
  | whl t a ia =>
    simp only [Pg.all, List.flatMap_cons, List.length_append, Pg.ser, List.length_cons]
    have : (Pg.rwq wr (.whl t a)).length ≤ t.ser.length := by cases wr <;> simp [Pg.rwq, Pg.hd]
    omega
  | asm t => cases wr <;> simp [Pg.all, Pg.rwq, Pg.hd, Pg.ser]
theorem Pg.all_ok {wide : Bool} {p q : Pg} (hp : p.ok wide) (hq : q ∈ p.all) : q.ok wide ∧ q.ser.length ≤ p.ser.length := by
  induction p with
  | skip => simp [Pg.all] at hq; subst hq; exact ⟨hp, Nat.le_refl _⟩
  | asg v e => simp [Pg.all] at hq; subst hq; exact ⟨hp, Nat.le_refl _⟩
  | asm t => simp [Pg.all] at hq; subst hq; exact ⟨hp, Nat.le_refl _⟩
  | seq a b ia ib =>
    simp only [Pg.all, List.mem_cons, List.mem_append] at hq
    rcases hq with rfl | hq | hq
    · exact ⟨hp, Nat.le_refl _⟩
    · obtain ⟨h1, h2⟩ := ia hp.1 hq; exact ⟨h1, by simp [Pg.ser]; omega⟩
    · obtain ⟨h1, h2⟩ := ib hp.2 hq; exact ⟨h1, by simp [Pg.ser]; omega⟩
  | cho a b ia ib =>
    simp only [Pg.all, List.mem_cons, List.mem_append] at hq
    rcases hq with rfl | hq | hq
    · exact ⟨hp, Nat.le_refl _⟩
    · obtain ⟨h1, h2⟩ := ia hp.1 hq; exact ⟨h1, by simp [Pg.ser]; omega⟩
    · obtain ⟨h1, h2⟩ := ib hp.2 hq; exact ⟨h1, by simp [Pg.ser]; omega⟩
  | ite t a b ia ib =>
    simp only [Pg.all, List.mem_cons, List.mem_append] at hq
    rcases hq with rfl | hq | hq
    · exact ⟨hp, Nat.le_refl _⟩
    · obtain ⟨h1, h2⟩ := ia hp.2.1 hq; exact ⟨h1, by simp [Pg.ser]; omega⟩
    · obtain ⟨h1, h2⟩ := ib hp.2.2 hq; exact ⟨h1, by simp [Pg.ser]; omega⟩
  | whl t a ia =>
    simp only [Pg.all, List.mem_cons] at hq
    rcases hq with rfl | hq
    · exact ⟨hp, Nat.le_refl _⟩
    · obtain ⟨h1, h2⟩ := ia hp.2 hq; exact ⟨h1, by simp [Pg.ser]; omega⟩
theorem flat_take {f : Pg → List UInt8} {ps : List Pg} (m : Nat) : ((ps.take m).flatMap f).length ≤ (ps.flatMap f).length := by
  have : ps.flatMap f = (ps.take m).flatMap f ++ (ps.drop m).flatMap f := by rw [← List.flatMap_append, List.take_append_drop]
  rw [this, List.length_append]; omega
theorem flat_step {f : Pg → List UInt8} {ps : List Pg} {m : Nat} (h : m < ps.length) : (ps.take (m + 1)).flatMap f = (ps.take m).flatMap f ++ f ps[m] := by
  rw [List.take_succ_eq_append_getElem h, List.flatMap_append]; simp
end Go.Proofs.Ytemkndpiljfefaa
