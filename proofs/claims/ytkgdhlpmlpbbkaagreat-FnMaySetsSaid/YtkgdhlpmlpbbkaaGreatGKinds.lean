/-
  impl.operandKinds: at each letter that begins a text of a kind the kinds of the operands; elsewhere it panics.
-/
import Derived.Test.YtkgdhlpmlpbbkaaGreatBase
import Derived.Test.YtkgdhlpmlpbbkaaGreatGPure
import Derived.Test.YtkgdhlpmlpbbkaaGreatKinds
namespace Go.Proofs.YtkgdhlpmlpbbkaaGreat
open Go.RowKit

def gstr (l : List UInt8) : ByteArray := ⟨l.toArray⟩

set_option maxHeartbeats 1000000 in
theorem stops_ok (c : UInt8) (l : List UInt8) (w : World) (h : gopk false 112 c = some l) :
    Calls Tryz.prog 158 #[.int .i32 c.toNat] w fun e w' => e = .returned (.string (gstr l)) ∧ w = w' := by
  have hc := gopk_p h
  clear h
  rcases hc with ⟨rfl, rfl⟩ | ⟨rfl, rfl⟩ | ⟨hc, rfl⟩ | ⟨rfl, rfl⟩ | ⟨rfl, rfl⟩ | ⟨rfl, rfl⟩
  · go_enter Tryz.func158, Tryz.ntmps158
    go_wp2; go_ret; exact ⟨rfl, rfl⟩
  · go_enter Tryz.func158, Tryz.ntmps158
    go_wp2; go_ret; exact ⟨rfl, rfl⟩
  · rcases hc with rfl | rfl <;> (go_enter Tryz.func158, Tryz.ntmps158; go_wp2; go_ret; exact ⟨rfl, rfl⟩)
  · go_enter Tryz.func158, Tryz.ntmps158
    go_wp2; go_ret; exact ⟨rfl, rfl⟩
  · go_enter Tryz.func158, Tryz.ntmps158
    go_wp2; go_ret; exact ⟨rfl, rfl⟩
  · go_enter Tryz.func158, Tryz.ntmps158
    go_wp2; go_ret; exact ⟨rfl, rfl⟩

theorem ne_of_gopk {k : UInt8} {r : Int} (h : ∀ c : UInt8, (c.toNat : Int) = r → gopk false k c = none) (d : UInt8) (hd : gopk false k d ≠ none) : (r == (d.toNat : Int)) = false := by
  rw [beq_eq_false_iff_ne]
  rintro rfl
  exact hd (h d rfl)

set_option maxHeartbeats 1000000 in
theorem stops_bad (r : Int) (w : World) (h : ∀ c : UInt8, (c.toNat : Int) = r → gopk false 112 c = none) :
    Calls Tryz.prog 158 #[.int .i32 r] w (Panics w) := by
  have h0 := ne_of_gopk h 115 (by decide); have h1 := ne_of_gopk h 97 (by decide); have h2 := ne_of_gopk h 59 (by decide)
  have h3 := ne_of_gopk h 47 (by decide); have h4 := ne_of_gopk h 63 (by decide); have h5 := ne_of_gopk h 64 (by decide)
  have h6 := ne_of_gopk h 126 (by decide)
  simp at h0 h1 h2 h3 h4 h5 h6
  clear h
  go_enter Tryz.func158, Tryz.ntmps158
  go_wp2
  exact ⟨rfl, _, rfl, rfl⟩

/-- The kinds. -/
def IsKind (k : UInt8) : Prop := k = 101 ∨ k = 116 ∨ k = 118 ∨ k = 112
theorem gopk_kind {wide : Bool} {k c : UInt8} {l : List UInt8} (h : gopk wide k c = some l) : IsKind k := by
  unfold gopk at h
  by_cases h1 : k = 101
  · exact .inl h1
  rw [if_neg h1] at h
  by_cases h2 : k = 116
  · exact .inr (.inl h2)
  rw [if_neg h2] at h
  by_cases h3 : k = 118
  · exact .inr (.inr (.inl h3))
  rw [if_neg h3] at h
  by_cases h4 : k = 112
  · exact .inr (.inr (.inr h4))
  rw [if_neg h4] at h
  cases h
/-- The lists of kinds that there are. -/
theorem gopk_lists {wide : Bool} {k c : UInt8} {l : List UInt8} (h : gopk wide k c = some l) : l = [] ∨ l = [101, 101] ∨ l = [116] ∨ l = [116, 116] ∨ l = [118, 101] ∨ l = [112, 112] ∨ l = [116, 112, 112] ∨ l = [116, 112] := by
  unfold gopk at h
  (repeat' split at h) <;> (simp at h <;> try subst h) <;> simp
theorem gopk_kinds {wide : Bool} {k c : UInt8} {l : List UInt8} (h : gopk wide k c = some l) : (∀ k2 ∈ l, IsKind k2) ∧ l.length ≤ 3 := by
  rcases gopk_lists h with rfl | rfl | rfl | rfl | rfl | rfl | rfl | rfl <;> simp [IsKind]
theorem gopk_ascii {wide : Bool} {k c : UInt8} {l : List UInt8} (h : gopk wide k c = some l) : c.toNat < 128 := by
  rcases gopk_kind h with rfl | rfl | rfl | rfl
  · have h2 := gopk_kc wide false c
    simp only [kc] at h2
    cases ho : opk wide false c with
    | none => rw [ho] at h2; simp at h2; rw [h] at h2; cases h2
    | some l2 => exact opk_ascii ho
  · have h2 := gopk_kc wide true c
    simp only [kc] at h2
    cases ho : opk wide true c with
    | none => rw [ho] at h2; simp at h2; rw [h] at h2; cases h2
    | some l2 => exact opk_ascii ho
  · simp only [gopk] at h
    simp at h
    obtain ⟨h, _⟩ := h
    simp [isVarB] at h
    rcases h with ((rfl | rfl) | rfl) | ⟨_, (rfl | rfl) | rfl⟩ <;> decide
  · rcases gopk_p h with ⟨rfl, _⟩ | ⟨rfl, _⟩ | ⟨h, _⟩ | ⟨rfl, _⟩ | ⟨rfl, _⟩ | ⟨rfl, _⟩
    · decide
    · decide
    · rcases h with rfl | rfl <;> decide
    · decide
    · decide
    · decide

set_option maxHeartbeats 1000000 in
theorem vkinds_ok (c : UInt8) (w : World) (h : isVarB false c = true) :
    Calls Tryz.prog 148 #[.int .u8 118, .int .i32 c.toNat] w fun e w' => e = .returned (.string (gstr [])) ∧ w = w' := by
  simp [isVarB] at h
  rcases h with (rfl | rfl) | rfl <;> (go_enter Tryz.func148, Tryz.ntmps148; go_wp2; go_ret; exact ⟨rfl, rfl⟩)

set_option maxHeartbeats 1000000 in
theorem gkinds_ok (k c : UInt8) (l : List UInt8) (w : World) (h : gopk false k c = some l) :
    Calls Tryz.prog 148 #[.int .u8 k.toNat, .int .i32 c.toNat] w fun e w' => e = .returned (.string (gstr l)) ∧ w = w' := by
  have hkc : ∀ kb : Bool, k = kc kb → Calls Tryz.prog 148 #[.int .u8 k.toNat, .int .i32 c.toNat] w fun e w' => e = .returned (.string (gstr l)) ∧ w = w' := by
    rintro kb rfl
    rw [gopk_kc] at h
    cases ho : opk false kb c with
    | none => rw [ho] at h; cases h
    | some lb =>
      rw [ho] at h
      simp at h
      subst h
      have e1 : ((kc kb).toNat : Int) = kcode kb := by cases kb <;> rfl
      have e2 : gstr (lb.map kc) = kstr lb := by
        unfold gstr kstr
        congr 2
      rw [e1, e2]
      exact kinds_ok kb c lb w ho
  rcases gopk_kind h with rfl | rfl | rfl | rfl
  · exact hkc false rfl
  · exact hkc true rfl
  · simp only [gopk] at h
    simp at h
    obtain ⟨h, rfl⟩ := h
    exact vkinds_ok c w h
  · have H := Lib.hid (stops_ok c l w h)
    clear h hkc
    go_enter Tryz.func148, Tryz.ntmps148
    go_wp2_with fail
    refine H.out.mono ?_
    rintro e w' ⟨rfl, rfl⟩
    go_wp2_with fail
    go_ret
    exact ⟨rfl, rfl⟩

set_option maxHeartbeats 1000000 in
theorem gkinds_bad (k : UInt8) (r : Int) (w : World) (hk : IsKind k) (h : ∀ c : UInt8, (c.toNat : Int) = r → gopk false k c = none) :
    Calls Tryz.prog 148 #[.int .u8 k.toNat, .int .i32 r] w (Panics w) := by
  have hkc : ∀ kb : Bool, k = kc kb → Calls Tryz.prog 148 #[.int .u8 k.toNat, .int .i32 r] w (Panics w) := by
    rintro kb rfl
    have e1 : ((kc kb).toNat : Int) = kcode kb := by cases kb <;> rfl
    rw [e1]
    refine kinds_bad kb r w fun c hc => ?_
    have h2 := h c hc
    rw [gopk_kc] at h2
    simpa using h2
  rcases hk with rfl | rfl | rfl | rfl
  · exact hkc false rfl
  · exact hkc true rfl
  · have h0 := ne_of_gopk h 120 (by decide); have h1 := ne_of_gopk h 121 (by decide); have h2 := ne_of_gopk h 122 (by decide)
    simp at h0 h1 h2
    clear h hkc
    go_enter Tryz.func148, Tryz.ntmps148
    go_wp2
    exact ⟨rfl, _, rfl, rfl⟩
  · have H := Lib.hid (stops_bad r w h)
    clear h hkc
    go_enter Tryz.func148, Tryz.ntmps148
    go_wp2_with fail
    refine H.out.mono ?_
    rintro e w' ⟨v, rfl, rfl⟩
    go_wp2_with fail
    exact ⟨rfl, _, rfl, rfl⟩
end Go.Proofs.YtkgdhlpmlpbbkaaGreat
