/-
  impl.operandKinds: at each letter that begins a text of a kind the kinds of the operands; elsewhere it panics.
-/
import Derived.Test.YtpdepihggpfmiabDoorBase
import Derived.Test.YtpdepihggpfmiabDoorGPure
import Derived.Test.YtpdepihggpfmiabDoorKinds
namespace Go.Proofs.YtpdepihggpfmiabDoor
open Go.RowKit

def gstr (l : List UInt8) : ByteArray := ⟨l.toArray⟩

set_option maxHeartbeats 1000000 in
theorem stops_ok (c : UInt8) (l : List UInt8) (w : World) (h : gopk0 false 112 c = some l) :
    Calls Tryd.prog 89 #[.int .i32 c.toNat] w fun e w' => e = .returned (.string (gstr l)) ∧ w = w' := by
  have hc := gopk_p (wide := false) (by rw [gopk_of rfl]; exact h)
  clear h
  rcases hc with ⟨rfl, rfl⟩ | ⟨rfl, rfl⟩ | ⟨hc, rfl⟩ | ⟨rfl, rfl⟩ | ⟨rfl, rfl⟩ | ⟨rfl, rfl⟩
  · go_enter Tryd.func89, Tryd.ntmps89
    go_wp2; go_ret; exact ⟨rfl, rfl⟩
  · go_enter Tryd.func89, Tryd.ntmps89
    go_wp2; go_ret; exact ⟨rfl, rfl⟩
  · rcases hc with rfl | rfl <;> (go_enter Tryd.func89, Tryd.ntmps89; go_wp2; go_ret; exact ⟨rfl, rfl⟩)
  · go_enter Tryd.func89, Tryd.ntmps89
    go_wp2; go_ret; exact ⟨rfl, rfl⟩
  · go_enter Tryd.func89, Tryd.ntmps89
    go_wp2; go_ret; exact ⟨rfl, rfl⟩
  · go_enter Tryd.func89, Tryd.ntmps89
    go_wp2; go_ret; exact ⟨rfl, rfl⟩

theorem ne_of_gopk {k : UInt8} {r : Int} (h : ∀ c : UInt8, (c.toNat : Int) = r → gopk0 false k c = none) (d : UInt8) (hd : gopk0 false k d ≠ none) : (r == (d.toNat : Int)) = false := by
  rw [beq_eq_false_iff_ne]
  rintro rfl
  exact hd (h d rfl)

set_option maxHeartbeats 1000000 in
theorem stops_bad (r : Int) (w : World) (h : ∀ c : UInt8, (c.toNat : Int) = r → gopk0 false 112 c = none) :
    Calls Tryd.prog 89 #[.int .i32 r] w (Panics w) := by
  have h0 := ne_of_gopk h 115 (by decide); have h1 := ne_of_gopk h 97 (by decide); have h2 := ne_of_gopk h 59 (by decide)
  have h3 := ne_of_gopk h 47 (by decide); have h4 := ne_of_gopk h 63 (by decide); have h5 := ne_of_gopk h 64 (by decide)
  have h6 := ne_of_gopk h 126 (by decide)
  simp at h0 h1 h2 h3 h4 h5 h6
  clear h
  go_enter Tryd.func89, Tryd.ntmps89
  go_wp2
  exact ⟨rfl, _, rfl, rfl⟩

/-- The kinds. -/
def IsKind (k : UInt8) : Prop := NarK k ∨ wideK k = true
theorem wideK_cases {k : UInt8} (h : wideK k = true) : k = 69 ∨ k = 84 ∨ k = 86 ∨ k = 80 := by simpa [wideK, or_assoc] using h
theorem wideK_nark {k : UInt8} (h : wideK k = true) : NarK (k + 32) := by
  rcases wideK_cases h with rfl | rfl | rfl | rfl <;> simp [NarK]
theorem gopk0_kind {wide : Bool} {k c : UInt8} {l : List UInt8} (h : gopk0 wide k c = some l) : NarK k := by
  unfold gopk0 at h
  by_cases h1 : k = 101
  · exact .inl h1
  rw [if_neg h1] at h
  by_cases h2 : k = 116
  · exact .inr (.inl h2)
  rw [if_neg h2] at h
  by_cases h3 : k = 118
  · exact .inr (.inr (.inl h3))
  rw [if_neg h3] at h
  by_cases h4 : k = 112
  · exact .inr (.inr (.inr h4))
  rw [if_neg h4] at h
  cases h
theorem gopk_kind {wide : Bool} {k c : UInt8} {l : List UInt8} (h : gopk wide k c = some l) : IsKind k := by
  by_cases hw : wideK k = true
  · exact .inr hw
  · simp only [Bool.not_eq_true] at hw
    rw [gopk_of hw] at h
    exact .inl (gopk0_kind h)
theorem gopk_kinds {wide : Bool} {k c : UInt8} {l : List UInt8} (h : gopk wide k c = some l) : (∀ k2 ∈ l, IsKind k2) ∧ l.length ≤ 3 := by
  by_cases hw : wideK k = true
  · rw [gopk_wide hw] at h
    cases ho : gopk0 true (k + 32) c with
    | none => rw [ho] at h; cases h
    | some l0 =>
      rw [ho] at h
      simp at h
      subst h
      rcases gopk0_lists ho with rfl | rfl | rfl | rfl | rfl | rfl | rfl | rfl <;> simp [IsKind, wideK]
  · simp only [Bool.not_eq_true] at hw
    rw [gopk_of hw] at h
    rcases gopk0_lists h with rfl | rfl | rfl | rfl | rfl | rfl | rfl | rfl <;> simp [IsKind, NarK]
theorem gopk0_ascii {wide : Bool} {k c : UInt8} {l : List UInt8} (h : gopk0 wide k c = some l) : c.toNat < 128 := by
  rcases gopk0_kind h with rfl | rfl | rfl | rfl
  · have h2 := gopk_kc wide false c
    simp only [kc] at h2
    rw [gopk_of rfl] at h2
    cases ho : opk wide false c with
    | none => rw [ho] at h2; simp at h2; rw [h] at h2; cases h2
    | some l2 => exact opk_ascii ho
  · have h2 := gopk_kc wide true c
    simp only [kc] at h2
    rw [gopk_of (by rfl)] at h2
    cases ho : opk wide true c with
    | none => rw [ho] at h2; simp at h2; rw [h] at h2; cases h2
    | some l2 => exact opk_ascii ho
  · simp only [gopk0] at h
    simp at h
    obtain ⟨h, _⟩ := h
    simp [isVarB] at h
    rcases h with ((rfl | rfl) | rfl) | ⟨_, (rfl | rfl) | rfl⟩ <;> decide
  · rcases gopk_p (wide := wide) (by rw [gopk_of rfl]; exact h) with ⟨rfl, _⟩ | ⟨rfl, _⟩ | ⟨h, _⟩ | ⟨rfl, _⟩ | ⟨rfl, _⟩ | ⟨rfl, _⟩
    · decide
    · decide
    · rcases h with rfl | rfl <;> decide
    · decide
    · decide
    · decide
theorem gopk_ascii {wide : Bool} {k c : UInt8} {l : List UInt8} (h : gopk wide k c = some l) : c.toNat < 128 := by
  by_cases hw : wideK k = true
  · rw [gopk_wide hw] at h
    cases ho : gopk0 true (k + 32) c with
    | none => rw [ho] at h; cases h
    | some l0 => exact gopk0_ascii ho
  · simp only [Bool.not_eq_true] at hw
    rw [gopk_of hw] at h
    exact gopk0_ascii h

set_option maxHeartbeats 1000000 in
theorem vkinds_ok (c : UInt8) (w : World) (h : isVarB false c = true) :
    Calls Tryd.prog 84 #[.int .u8 118, .int .i32 c.toNat] w fun e w' => e = .returned (.string (gstr [])) ∧ w = w' := by
  simp [isVarB] at h
  rcases h with (rfl | rfl) | rfl <;> (go_enter Tryd.func84, Tryd.ntmps84; go_wp2; go_ret; exact ⟨rfl, rfl⟩)

set_option maxHeartbeats 1000000 in
theorem gkinds0_ok (k c : UInt8) (l : List UInt8) (w : World) (h : gopk0 false k c = some l) :
    Calls Tryd.prog 84 #[.int .u8 k.toNat, .int .i32 c.toNat] w fun e w' => e = .returned (.string (gstr l)) ∧ w = w' := by
  have hkc : ∀ kb : Bool, k = kc kb → Calls Tryd.prog 84 #[.int .u8 k.toNat, .int .i32 c.toNat] w fun e w' => e = .returned (.string (gstr l)) ∧ w = w' := by
    rintro kb rfl
    rw [← gopk_of (by cases kb <;> rfl), gopk_kc] at h
    cases ho : opk false kb c with
    | none => rw [ho] at h; cases h
    | some lb =>
      rw [ho] at h
      simp at h
      subst h
      have e1 : ((kc kb).toNat : Int) = kcode kb := by cases kb <;> rfl
      have e2 : gstr (lb.map kc) = kstr lb := by
        unfold gstr kstr
        congr 2
      rw [e1, e2]
      exact kinds_ok kb c lb w ho
  rcases gopk0_kind h with rfl | rfl | rfl | rfl
  · exact hkc false rfl
  · exact hkc true rfl
  · simp only [gopk0] at h
    simp at h
    obtain ⟨h, rfl⟩ := h
    exact vkinds_ok c w h
  · have H := Lib.hid (stops_ok c l w h)
    clear h hkc
    go_enter Tryd.func84, Tryd.ntmps84
    go_wp2_with fail
    refine H.out.mono ?_
    rintro e w' ⟨rfl, rfl⟩
    go_wp2_with fail
    go_ret
    exact ⟨rfl, rfl⟩

set_option maxHeartbeats 1000000 in
theorem gkinds0_bad (k : UInt8) (r : Int) (w : World) (hk : NarK k) (h : ∀ c : UInt8, (c.toNat : Int) = r → gopk0 false k c = none) :
    Calls Tryd.prog 84 #[.int .u8 k.toNat, .int .i32 r] w (Panics w) := by
  have hkc : ∀ kb : Bool, k = kc kb → Calls Tryd.prog 84 #[.int .u8 k.toNat, .int .i32 r] w (Panics w) := by
    rintro kb rfl
    have e1 : ((kc kb).toNat : Int) = kcode kb := by cases kb <;> rfl
    rw [e1]
    refine kinds_bad kb r w fun c hc => ?_
    have h2 := h c hc
    rw [← gopk_of (by cases kb <;> rfl), gopk_kc] at h2
    simpa using h2
  rcases hk with rfl | rfl | rfl | rfl
  · exact hkc false rfl
  · exact hkc true rfl
  · have h0 := ne_of_gopk h 120 (by decide); have h1 := ne_of_gopk h 121 (by decide); have h2 := ne_of_gopk h 122 (by decide)
    simp at h0 h1 h2
    clear h hkc
    go_enter Tryd.func84, Tryd.ntmps84
    go_wp2
    exact ⟨rfl, _, rfl, rfl⟩
  · have H := Lib.hid (stops_bad r w h)
    clear h hkc
    go_enter Tryd.func84, Tryd.ntmps84
    go_wp2_with fail
    refine H.out.mono ?_
    rintro e w' ⟨v, rfl, rfl⟩
    go_wp2_with fail
    exact ⟨rfl, _, rfl, rfl⟩

/-! ### Wide kinds -/
theorem low_x (r : Int) (hr : r = 88 ∨ r = 89 ∨ r = 90 ∨ r = 69 ∨ r = 84 ∨ r = 86 ∨ r = 80) (w : World) : Calls Tryd.prog 93 #[.int .i32 r] w fun e w' => e = .returned (.int .i32 (r + 32)) ∧ w = w' := by
  rcases hr with rfl | rfl | rfl | rfl | rfl | rfl | rfl <;> (go_enter Tryd.func93, Tryd.ntmps93; go_wp2; go_ret; exact ⟨rfl, rfl⟩)
def upS (l : List UInt8) : ByteArray := gstr (l.map (· - 32))
theorem code_sub {k : UInt8} (h : wideK k = true) : ((k.toNat : Int) + 32 = ((k + 32).toNat : Int)) ∧ (k.toNat : Int) < 128 := by
  rcases wideK_cases h with rfl | rfl | rfl | rfl <;> decide
set_option maxHeartbeats 2000000 in
theorem wide_ok (U : ∀ (l : List UInt8) (w : World), (l = [] ∨ l = [101, 101] ∨ l = [116] ∨ l = [116, 116] ∨ l = [118, 101] ∨ l = [112, 112] ∨ l = [116, 112, 112] ∨ l = [116, 112]) → Calls Tryd.prog 94 #[.string (gstr l)] w fun e w' => e = .returned (.string (upS l)) ∧ Below w.heap.size w w')
    (k c : UInt8) (l : List UInt8) (w : World) (hk : wideK k = true) (h : gopk0 true (k + 32) c = some l) :
    Calls Tryd.prog 90 #[.int .u8 k.toNat, .int .i32 c.toNat] w fun e w' => e = .returned (.string (upS l)) ∧ Below w.heap.size w w' := by
  have HU := fun w => Lib.hid (U l w (gopk0_lists h))
  rw [gopk0_nrw (wideK_nark hk)] at h
  have HO := fun w => Lib.hid (gkinds0_ok (k + 32) (nrw c) l w h)
  have LK := fun w => Lib.hid (low_x (k.toNat : Int) (by rcases wideK_cases hk with rfl | rfl | rfl | rfl <;> simp) w)
  obtain ⟨e1, e2⟩ := code_sub hk
  rw [e1] at LK
  have e3 : IntKind.u8.wrap (((k + 32).toNat : Nat) : Int) = (((k + 32).toNat : Nat) : Int) := by
    rcases wideK_cases hk with rfl | rfl | rfl | rfl <;> rfl
  have e4 : IntKind.i32.wrap ((k.toNat : Nat) : Int) = ((k.toNat : Nat) : Int) := by
    rcases wideK_cases hk with rfl | rfl | rfl | rfl <;> rfl
  clear h
  by_cases hx : c = 88 ∨ c = 89 ∨ c = 90
  · have LC := fun w => Lib.hid (low_x (c.toNat : Int) (by rcases hx with rfl | rfl | rfl <;> simp) w)
    have en : (c.toNat : Int) + 32 = ((nrw c).toNat : Int) := by rcases hx with rfl | rfl | rfl <;> rfl
    rw [en] at LC
    have g1 : (88 : Int) ≤ (c.toNat : Int) := by rcases hx with rfl | rfl | rfl <;> decide
    have g2 : (c.toNat : Int) ≤ 90 := by rcases hx with rfl | rfl | rfl <;> decide
    generalize nrw c = d at *
    generalize k + 32 = kn at *
    clear hx en hk e1 e2
    go_enter Tryd.func90, Tryd.ntmps90
    go_wp2_with fail
    refine (LC _).out.mono ?_
    rintro e w' ⟨rfl, rfl⟩
    go_wp2_with fail
    refine (LK _).out.mono ?_
    rintro e w' ⟨rfl, rfl⟩
    go_wp2_with fail
    refine (HO _).out.mono ?_
    rintro e w' ⟨rfl, rfl⟩
    go_wp2_with fail
    refine (HU _).out.mono ?_
    rintro e w' ⟨rfl, hb⟩
    have HB := Lib.hid hb
    clear hb
    go_wp2_with fail
    go_ret
    exact ⟨rfl, HB.out⟩
  · have en : nrw c = c := by unfold nrw; rw [if_neg hx]
    rw [en] at HO
    have g1 : ¬ ((88 : Int) ≤ (c.toNat : Int) ∧ (c.toNat : Int) ≤ 90) := by
      intro hh
      apply hx
      have h1 : c.toNat = 88 ∨ c.toNat = 89 ∨ c.toNat = 90 := by omega
      rcases h1 with h1 | h1 | h1
      · exact .inl (UInt8.toNat_inj.1 h1)
      · exact .inr (.inl (UInt8.toNat_inj.1 h1))
      · exact .inr (.inr (UInt8.toNat_inj.1 h1))
    generalize k + 32 = kn at *
    clear hx en hk e1 e2
    by_cases g2 : (88 : Int) ≤ (c.toNat : Int)
    · have g3 : ¬ (c.toNat : Int) ≤ 90 := fun g3 => g1 ⟨g2, g3⟩
      clear g1
      go_enter Tryd.func90, Tryd.ntmps90
      go_wp2_with fail
      refine (LK _).out.mono ?_
      rintro e w' ⟨rfl, rfl⟩
      go_wp2_with fail
      refine (HO _).out.mono ?_
      rintro e w' ⟨rfl, rfl⟩
      go_wp2_with fail
      refine (HU _).out.mono ?_
      rintro e w' ⟨rfl, hb⟩
      have HB := Lib.hid hb
      clear hb
      go_wp2_with fail
      go_ret
      exact ⟨rfl, HB.out⟩
    · clear g1
      go_enter Tryd.func90, Tryd.ntmps90
      go_wp2_with fail
      refine (LK _).out.mono ?_
      rintro e w' ⟨rfl, rfl⟩
      go_wp2_with fail
      refine (HO _).out.mono ?_
      rintro e w' ⟨rfl, rfl⟩
      go_wp2_with fail
      refine (HU _).out.mono ?_
      rintro e w' ⟨rfl, hb⟩
      have HB := Lib.hid hb
      clear hb
      go_wp2_with fail
      go_ret
      exact ⟨rfl, HB.out⟩
end Go.Proofs.YtpdepihggpfmiabDoor
