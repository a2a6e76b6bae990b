/-
  spec.l1Expr and spec.l1Test: where the expression, or the test, that begins at an index ends, or -1. They only read.
-/
import Derived.Test.YtgkoljphndgoeaaFind
import Derived.Test.YtgkoljphndgoeaaPure
import Derived.BigQuiet
import Derived.Deep.QuietTactic
namespace Go.Proofs.Ytgkoljphndgoeaa
open Go.RowKit Tm

def nm (wide : Bool) : ByteArray := if wide then ⟨#[120, 121, 122, 88, 89, 90]⟩ else ⟨#[120, 121, 122]⟩

theorem find_at {s : ByteArray} {c : UInt8} {r : Int} (h : fnd s.data.toList c = r) (w : World) (hs : s.size ≤ maxLen) : Calls Try.prog 50 #[.string s, .int .u8 c.toNat] w fun e w' => e = .returned (.int .i64 r) ∧ w' = w := by
  subst h
  exact (find_any s c w hs).mono fun _ _ ⟨h, h2⟩ => ⟨h, h2.symm⟩

theorem fnd_cons (d : UInt8) (l : List UInt8) (c : UInt8) : 0 ≤ fnd (d :: l) c ↔ (c == d) = true ∨ 0 ≤ fnd l c := by
  unfold fnd
  rw [List.findIdx?_cons, show (c == d) = (d == c) by rw [Bool.eq_iff_iff, beq_iff_eq, beq_iff_eq]; exact eq_comm]
  cases h : d == c
  · simp
    cases l.findIdx? (fun x => x == c) <;> simp
    omega
  · simp
theorem fnd_nil (c : UInt8) : fnd [] c = -1 := rfl
theorem fnd_neg (l : List UInt8) (c : UInt8) : 0 ≤ fnd l c ∨ fnd l c = -1 := by
  unfold fnd
  split
  · left; omega
  · right; rfl
theorem nm_var (wide : Bool) (c : UInt8) : 0 ≤ fnd (nm wide).data.toList c ↔ isVarB wide c = true := by
  cases wide
  · show 0 ≤ fnd [120, 121, 122] c ↔ _
    simp only [fnd_cons, fnd_nil, isVarB]; simp [or_assoc]
  · show 0 ≤ fnd [120, 121, 122, 88, 89, 90] c ↔ _
    simp only [fnd_cons, fnd_nil, isVarB]; simp [or_assoc]
theorem dig_fnd (c : UInt8) : 0 ≤ fnd [48, 49, 50] c ↔ isDigB c = true := by
  simp only [fnd_cons, fnd_nil, isDigB]; simp [or_assoc]
theorem op_fnd (c : UInt8) : 0 ≤ fnd [43, 45, 42] c ↔ isOpB c = true := by
  simp only [fnd_cons, fnd_nil, isOpB]; simp [or_assoc]
theorem fnd_yes {l : List UInt8} {c : UInt8} (h : 0 ≤ fnd l c) : ∃ n : Nat, fnd l c = n := ⟨(fnd l c).toNat, by omega⟩
theorem fnd_no {l : List UInt8} {c : UInt8} (h : ¬ 0 ≤ fnd l c) : fnd l c = -1 := (fnd_neg l c).resolve_left h

/-- It only reads: the world behind the call is the one before it, after some draws. -/
def Quiet (v : Value) (w : World) (e : Ending) (w' : World) : Prop := e = .returned v ∧ ∃ n, w' = w.drewN n

theorem drop_cons' (s : ByteArray) (pos : Nat) (h : pos < s.size) : s.data.toList.drop pos = s[pos] :: s.data.toList.drop (pos + 1) := by
  rw [List.drop_eq_getElem_cons (by simpa using h)]; rfl

theorem nm_le (wide : Bool) : (nm wide).size ≤ maxLen := by cases wide <;> simp [nm, maxLen, ByteArray.size]

theorem Quiet.after {v : Value} {w : World} {n : Nat} {e : Ending} {w' : World} (h : Quiet v (w.drewN n) e w') : Quiet v w e w' := by
  obtain ⟨h1, m, rfl⟩ := h
  exact ⟨h1, n + m, by rw [World.drewN_drewN]⟩

theorem opk_e (wide : Bool) (c : UInt8) : opk wide false c = if isVarB wide c || isDigB c then some [] else if isOpB c then some [false, false] else none := rfl

theorem byte_ne {c : UInt8} {d : UInt8} (h : (c == d) = false) : ((c.toNat : Int) == (d.toNat : Int)) = false := by
  rw [beq_eq_false_iff_ne] at h ⊢
  intro e; exact h (UInt8.toNat_inj.1 (by exact_mod_cast e))

theorem opk_t {wide : Bool} {c : UInt8} {l : List Bool} (h : opk wide true c = some l) :
    (l = [] ∧ (c.toNat = 116 ∨ c.toNat = 102)) ∨ (l = [false, false] ∧ (c.toNat = 61 ∨ c.toNat = 60)) ∨ (l = [true] ∧ c.toNat = 33) ∨ (l = [true, true] ∧ (c.toNat = 38 ∨ c.toNat = 124)) := by
  unfold opk at h
  simp only [if_true] at h
  by_cases h1 : (c == 116 || c == 102) = true
  · rw [if_pos h1] at h; cases h
    simp at h1; left; rcases h1 with rfl | rfl <;> simp
  rw [if_neg h1] at h
  by_cases h2 : (c == 61 || c == 60) = true
  · rw [if_pos h2] at h; cases h
    simp at h2; right; left; rcases h2 with rfl | rfl <;> simp
  rw [if_neg h2] at h
  by_cases h3 : (c == 33) = true
  · rw [if_pos h3] at h; cases h
    simp at h3; subst h3; simp
  rw [if_neg h3] at h
  by_cases h4 : (c == 38 || c == 124) = true
  · rw [if_pos h4] at h; cases h
    simp at h4; right; right; right; rcases h4 with rfl | rfl <;> simp
  rw [if_neg h4] at h; cases h

end Go.Proofs.Ytgkoljphndgoeaa
