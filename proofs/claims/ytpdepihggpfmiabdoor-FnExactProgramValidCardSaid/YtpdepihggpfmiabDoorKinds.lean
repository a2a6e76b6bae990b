/-
  impl.operandKinds: at each letter that begins a term of the kind the kinds of the operands; elsewhere it panics.
-/
import Derived.Test.YtpdepihggpfmiabDoorBase
import Derived.Test.YtpdepihggpfmiabDoorPure
namespace Go.Proofs.YtpdepihggpfmiabDoor
open Go.RowKit

def kcode (k : Bool) : Int := if k then 116 else 101
def kbyte (k : Bool) : UInt8 := if k then 116 else 101
def kstr (l : List Bool) : ByteArray := ⟨(l.map kbyte).toArray⟩

theorem u8_of_nat {c : UInt8} {n : Nat} (h : c.toNat = n) (hn : n < 256) : c = UInt8.ofNat n := by
  apply UInt8.toNat_inj.1
  rw [h]; simp; omega

/-- The letters at which a kind has a list of operands. -/
theorem opk_cases {k : Bool} {c : UInt8} {l : List Bool} (h : opk false k c = some l) :
    (k = false ∧ l = [] ∧ (c = 120 ∨ c = 121 ∨ c = 122 ∨ c = 48 ∨ c = 49 ∨ c = 50)) ∨ (k = false ∧ l = [false, false] ∧ (c = 43 ∨ c = 45 ∨ c = 42)) ∨
    (k = true ∧ l = [] ∧ (c = 116 ∨ c = 102)) ∨ (k = true ∧ l = [false, false] ∧ (c = 61 ∨ c = 60)) ∨ (k = true ∧ l = [true] ∧ c = 33) ∨ (k = true ∧ l = [true, true] ∧ (c = 38 ∨ c = 124)) := by
  unfold opk isVarB isDigB isOpB at h
  cases k <;> simp at h
  · split at h
    · rename_i hh; simp at h; subst h; simp; rcases hh with ((hh | hh) | hh) | ((hh | hh) | hh) <;> simp [hh]
    · split at h
      · rename_i hh; simp at h; subst h; simp; rcases hh with (hh | hh) | hh <;> simp [hh]
      · simp at h
  · split at h
    · rename_i hh; simp at h; subst h; simp; rcases hh with hh | hh <;> simp [hh]
    · split at h
      · rename_i hh; simp at h; subst h; simp; rcases hh with hh | hh <;> simp [hh]
      · split at h
        · rename_i hh; simp at h; subst h; simp [hh]
        · split at h
          · rename_i hh; simp at h; subst h; simp; rcases hh with hh | hh <;> simp [hh]
          · simp at h

set_option maxHeartbeats 4000000 in
theorem kinds_ok (k : Bool) (c : UInt8) (l : List Bool) (w : World) (h : opk false k c = some l) :
    Calls Tryd.prog 84 #[.int .u8 (kcode k), .int .i32 c.toNat] w fun e w' => e = .returned (.string (kstr l)) ∧ w = w' := by
  have hc := opk_cases h
  clear h
  rcases hc with ⟨rfl, rfl, h⟩ | ⟨rfl, rfl, h⟩ | ⟨rfl, rfl, h⟩ | ⟨rfl, rfl, h⟩ | ⟨rfl, rfl, h⟩ | ⟨rfl, rfl, h⟩
  · rcases h with rfl | rfl | rfl | rfl | rfl | rfl <;> (go_enter Tryd.func84, Tryd.ntmps84; go_wp2; go_ret; exact ⟨rfl, rfl⟩)
  · rcases h with rfl | rfl | rfl <;> (go_enter Tryd.func84, Tryd.ntmps84; go_wp2; go_ret; exact ⟨rfl, rfl⟩)
  · rcases h with rfl | rfl <;> (go_enter Tryd.func84, Tryd.ntmps84; go_wp2; go_ret; exact ⟨rfl, rfl⟩)
  · rcases h with rfl | rfl <;> (go_enter Tryd.func84, Tryd.ntmps84; go_wp2; go_ret; exact ⟨rfl, rfl⟩)
  · subst h; (go_enter Tryd.func84, Tryd.ntmps84; go_wp2; go_ret; exact ⟨rfl, rfl⟩)
  · rcases h with rfl | rfl <;> (go_enter Tryd.func84, Tryd.ntmps84; go_wp2; go_ret; exact ⟨rfl, rfl⟩)

theorem ne_of_opk {k : Bool} {r : Int} (h : ∀ c : UInt8, (c.toNat : Int) = r → opk false k c = none) (d : UInt8) (hd : opk false k d ≠ none) : (r == (d.toNat : Int)) = false := by
  rw [beq_eq_false_iff_ne]
  rintro rfl
  exact hd (h d rfl)

def Panics (w : World) (e : Ending) (w' : World) : Prop := ∃ v, e = .panicked [{ v := .iface 9 v, recovered := false }] ∧ w = w'

set_option maxHeartbeats 4000000 in
theorem kinds_bad (k : Bool) (r : Int) (w : World) (h : ∀ c : UInt8, (c.toNat : Int) = r → opk false k c = none) :
    Calls Tryd.prog 84 #[.int .u8 (kcode k), .int .i32 r] w (Panics w) := by
  cases k
  · have h0 := ne_of_opk h 120 (by decide); have h1 := ne_of_opk h 121 (by decide); have h2 := ne_of_opk h 122 (by decide)
    have h3 := ne_of_opk h 48 (by decide); have h4 := ne_of_opk h 49 (by decide); have h5 := ne_of_opk h 50 (by decide)
    have h6 := ne_of_opk h 43 (by decide); have h7 := ne_of_opk h 45 (by decide); have h8 := ne_of_opk h 42 (by decide)
    simp at h0 h1 h2 h3 h4 h5 h6 h7 h8
    clear h
    go_enter Tryd.func84, Tryd.ntmps84
    go_wp2
    exact ⟨rfl, _, rfl, rfl⟩
  · have h0 := ne_of_opk h 116 (by decide); have h1 := ne_of_opk h 102 (by decide); have h2 := ne_of_opk h 61 (by decide)
    have h3 := ne_of_opk h 60 (by decide); have h4 := ne_of_opk h 33 (by decide); have h5 := ne_of_opk h 38 (by decide)
    have h6 := ne_of_opk h 124 (by decide)
    simp at h0 h1 h2 h3 h4 h5 h6
    clear h
    go_enter Tryd.func84, Tryd.ntmps84
    go_wp2
    exact ⟨rfl, _, rfl, rfl⟩
end Go.Proofs.YtpdepihggpfmiabDoor
