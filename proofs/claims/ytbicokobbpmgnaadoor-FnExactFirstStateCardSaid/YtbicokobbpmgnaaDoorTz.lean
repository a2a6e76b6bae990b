/-
  The number of zeros behind the last one of a number of 32 bits, by the library's table in block 0; and the first state of a set.
-/
import Derived.Test.YtbicokobbpmgnaaDoorSetW
import Derived.Test.YtbicokobbpmgnaaDoorAt0
import Derived.Test.YtbicokobbpmgnaaDoorFind
import Derived.Lib.TrailingZeros
namespace Go.Proofs.YtbicokobbpmgnaaDoor
open Go.RowKit

/-- The library's table in its variable. -/
def Tab32 (w : World) : Prop := ∀ j, j < 32 → w.cell? ⟨0, j, none⟩ = some (.int .u8 (Lib.deBruijn32tab.getD j 0 : Nat))
theorem Tab32.below {w w' : World} (h : Tab32 w) (hb : Below w.heap.size w w') : Tab32 w' := fun j hj => ckeep hb (h j hj)

theorem tz_key (x a : Nat) (hx : x < 4294967296) (hx0 : x ≠ 0) (hlow : x &&& (4294967296 - x) = a) :
    bits BinOp.and IntKind.u32 (x : Int) (-(x : Int) % 4294967296) * 125613361 % 4294967296 / 134217728 = ((a * 125613361 % 4294967296 / 134217728 : Nat) : Int) := by
  have e1 : -(x : Int) % 4294967296 = ((4294967296 - x : Nat) : Int) := by omega
  rw [e1, u32_and_nat x _ hx (by omega), hlow]
  omega

set_option maxHeartbeats 1000000 in
theorem tz_core (x k idx : Nat) (w : World) (hx0 : ((x : Int) == 0) = false)
    (key : bits BinOp.and IntKind.u32 (x : Int) (-(x : Int) % 4294967296) * 125613361 % 4294967296 / 134217728 = (idx : Int))
    (hi : idx < 32) (hk : k < 32) (hcell : w.cell? ⟨0, idx, none⟩ = some (.int .u8 k)) :
    Calls Tryd.prog 13 #[.int .u32 x] w fun e w' => e = .returned (.int .i64 k) ∧ w = w' := by
  go_enter Tryd.func13, Tryd.ntmps13
  go_wp2_with (simp only [key])
  go_ret
  exact ⟨rfl, rfl⟩
set_option maxHeartbeats 1000000 in
theorem tz_zero (w : World) : Calls Tryd.prog 13 #[.int .u32 0] w fun e w' => e = .returned (.int .i64 32) ∧ w = w' := by
  go_enter Tryd.func13, Tryd.ntmps13
  go_wp2_with fail
  go_ret
  exact ⟨rfl, rfl⟩

theorem tz_at (x k : Nat) (hx : x < 134217728) (hb : x.testBit k = true) (hlow : ∀ j, j < k → x.testBit j = false) (w : World) (hT : Tab32 w) :
    Calls Tryd.prog 13 #[.int .u32 x] w fun e w' => e = .returned (.int .i64 k) ∧ w = w' := by
  have hx0 : x ≠ 0 := by rintro rfl; simp at hb
  obtain ⟨hl, hk⟩ := Lib.lowest_bit 32 x hx0 (by omega)
  obtain ⟨m, hm, _⟩ := Lib.ctzFrom_spec 32 x (by omega) (by omega)
  have hc : Lib.ctz 32 x = Lib.ctzFrom 32 x := by simp [Lib.ctz, hx0]
  have he : Lib.ctz 32 x = k := by
    rw [hc]
    generalize Lib.ctzFrom 32 x = c at hm
    have hbit : ∀ i, x.testBit i = (decide (c ≤ i) && (2 * m + 1).testBit (i - c)) := fun i => by rw [hm, Nat.mul_comm, Nat.testBit_mul_two_pow]
    rcases Nat.lt_trichotomy c k with h | h | h
    · have := hlow c h
      rw [hbit] at this
      simp [Nat.testBit_zero] at this
    · exact h
    · rw [hbit] at hb
      simp at hb; omega
  rw [he] at hl hk
  obtain ⟨hi, htab⟩ := Lib.deBruijn32_at k hk
  have hcell := hT _ hi
  rw [htab] at hcell
  exact tz_core x k _ w (by simp; omega) (tz_key x _ (by omega) hx0 hl) hi hk hcell

/-- The least number of a set below 27. -/
def IsFirst (F : Nat → Bool) (k : Nat) : Prop := k < 27 ∧ F k = true ∧ ∀ j, j < k → F j = false
theorem first_or (F : Nat → Bool) : (∃ k, IsFirst F k) ∨ ∀ i, i < 27 → F i = false := by
  have h : ∀ n, (∃ k, k < n ∧ F k = true ∧ ∀ j, j < k → F j = false) ∨ ∀ i, i < n → F i = false := by
    intro n
    induction n with
    | zero => exact .inr fun i hi => by omega
    | succ n ih =>
      rcases ih with ⟨k, hk, h1, h2⟩ | h
      · exact .inl ⟨k, by omega, h1, h2⟩
      · cases hF : F n
        · refine .inr fun i hi => ?_
          by_cases e : i = n
          · rw [e]; exact hF
          · exact h i (by omega)
        · exact .inl ⟨n, by omega, hF, h⟩
  rcases h 27 with ⟨k, hk, h1, h2⟩ | h
  · exact .inl ⟨k, hk, h1, h2⟩
  · exact .inr h

set_option maxHeartbeats 1000000 in
theorem implFirst_of (p : ByteArray) (N k : Nat) (x y z : Int) (b : Bool) (w : World) (hT : Tab32 w)
    (C : ∀ (w : World), ∃ v, Calls Tryd.prog 11 #[.string p] w fun e w' => e = .returned (.tuple #[.int .u32 N, .bool v]) ∧ w = w')
    (D : ∀ (w : World), Tab32 w → Calls Tryd.prog 13 #[.int .u32 N] w fun e w' => e = .returned (.int .i64 k) ∧ w = w')
    (E : ∀ (w : World), Calls Tryd.prog 12 #[.int .i64 k] w fun e w' => e = .returned (.tuple #[.agg #[.int .i64 x, .int .i64 y, .int .i64 z], .bool b]) ∧ Below w.heap.size w w') :
    Calls Tryd.prog 5 #[.string p] w fun e w' => e = .returned (.tuple #[.agg #[.int .i64 x, .int .i64 y, .int .i64 z], .bool b]) ∧ Below w.heap.size w w' := by
  have C' := Lib.hid C
  have D' := Lib.hid D
  have E' := Lib.hid E
  have HT := Lib.hid (hT.below ((Below.refl _ w).alloc (Nat.le_refl _) (.cells #[.int .i64 0, .int .i64 0, .int .i64 0] 23)))
  have HK := Lib.hid (Blk.new w #[.int .i64 0, .int .i64 0, .int .i64 0] 23)
  clear hT C D E
  go_enter Tryd.func5, Tryd.ntmps5
  go_wp2_with fail
  obtain ⟨v, hv⟩ := C'.out (w.alloc (.cells #[.int .i64 0, .int .i64 0, .int .i64 0] 23))
  refine hv.mono ?_
  rintro e w' ⟨rfl, rfl⟩
  go_wp2_with fail
  refine (D'.out _ HT.out).mono ?_
  rintro e w' ⟨rfl, rfl⟩
  go_wp2_with fail
  refine (E'.out _).mono ?_
  rintro e w1 ⟨rfl, hb⟩
  have HB1 := Lib.hid (bbox hb)
  have t1 := HK.out.kept hb
  obtain ⟨q0, q1, q2, f0, f1, f2⟩ := t1.a3
  clear hb t1 hv
  go_wp2_with fail
  exact bodyPost_ret (v := .tuple #[.agg #[.int .i64 x, .int .i64 y, .int .i64 z], .bool b]) (by simp [results, Tryd.results5, go_sem, q0, q1, q2]) rfl ⟨rfl, by (repeat refine Below.setCell ?_ (by simp) _); exact HB1.out⟩

theorem implFirst_yes (p : ByteArray) (k : Nat) (w : World) (hT : Tab32 w) (hp : Set27 p) (hk : IsFirst (hs p.data.toList) k) :
    Calls Tryd.prog 5 #[.string p] w fun e w' => e = .returned (.tuple #[.agg #[.int .i64 (ax k), .int .i64 (ay k), .int .i64 (az k)], .bool true]) ∧ Below w.heap.size w w' := by
  have hbit : ∀ i, i < 27 → (nb 27 (hs p.data.toList)).testBit i = hs p.data.toList i := fun i hi => by rw [nb_bit]; simp [hi]
  have h27 : k < 27 := hk.1
  exact implFirst_of p _ k _ _ _ _ w hT (fun w => ⟨true, implRead_yes p w hp⟩)
    (fun w hT => tz_at (nb 27 (hs p.data.toList)) k (nb_lt27 _) (by rw [hbit k hk.1]; exact hk.2.1) (fun j hj => by rw [hbit j (by omega)]; exact hk.2.2 j hj) w hT)
    (fun w => implAt_yes k w (by omega) (by omega))
theorem implFirst_none (p : ByteArray) (w : World) (hT : Tab32 w) (hp : Set27 p) (hk : ∀ i, i < 27 → hs p.data.toList i = false) :
    Calls Tryd.prog 5 #[.string p] w fun e w' => e = .returned (.tuple #[.agg #[.int .i64 0, .int .i64 0, .int .i64 0], .bool false]) ∧ Below w.heap.size w w' :=
  implFirst_of p 0 32 _ _ _ _ w hT (fun w => ⟨true, by have h := implRead_yes p w hp; rw [nb_zero 27 hk] at h; exact h⟩) (fun w _ => tz_zero w) (fun w => implAt_no 32 w (by omega))
theorem implFirst_no (p : ByteArray) (w : World) (hT : Tab32 w) (hp : ¬ Set27 p) :
    Calls Tryd.prog 5 #[.string p] w fun e w' => e = .returned (.tuple #[.agg #[.int .i64 0, .int .i64 0, .int .i64 0], .bool false]) ∧ Below w.heap.size w w' :=
  implFirst_of p 0 32 _ _ _ _ w hT (fun w => ⟨false, implRead_no p w hp⟩) (fun w _ => tz_zero w) (fun w => implAt_no 32 w (by omega))

theorem cnt_pos {F : Nat → Bool} {n k : Nat} (hk : k < n) (h : F k = true) : 0 < cnt n F := by
  induction n with
  | zero => omega
  | succ n ih =>
    simp only [cnt]
    by_cases e : k = n
    · subst e; rw [h]; simp
    · have := ih (by omega); omega
theorem cnt_none {n : Nat} {F : Nat → Bool} (h : ∀ i, i < n → F i = false) : cnt n F = 0 := by
  induction n with
  | zero => rfl
  | succ n ih => simp only [cnt]; rw [ih (fun i hi => h i (by omega)), h n (by omega)]; rfl
theorem fnd_first {l : List UInt8} {k : Nat} (h27 : l.length = 27) (hk : IsFirst (hs l) k) : fnd l 49 = k := by
  have hk2 : k < l.length := by rw [h27]; exact hk.1
  refine fnd_hit hk2 ?_ ?_
  · have := hk.2.1
    unfold hs at this
    rw [List.getElem?_eq_getElem hk2] at this
    simpa using this
  · intro j hj e
    have := hk.2.2 j hj
    unfold hs at this
    rw [e] at this
    simp at this

set_option maxHeartbeats 1000000 in
theorem specFirst_yes (p : ByteArray) (k : Nat) (w : World) (hp : Set27 p) (hk : IsFirst (hs p.data.toList) k) :
    Calls Tryd.prog 4 #[.string p] w fun e w' => e = .returned (.tuple #[.agg #[.int .i64 (ax k), .int .i64 (ay k), .int .i64 (az k)], .bool true]) ∧ Below w.heap.size w w' := by
  have C := fun w => Lib.hid (specPredValid_yes p w hp)
  have D := fun w => Lib.hid (specCount0 p 27 w hp (by omega))
  have hsz : p.size = 27 := by have := hp.1; simpa using this
  have hF : ∀ w, Calls Tryd.prog 10 #[.string p, .int .u8 49] w fun e w' => e = .returned (.int .i64 k) ∧ w = w' := fun w => by
    have h := find_any p 49 w (by unfold maxLen; omega)
    rw [fnd_first hp.1 hk] at h
    exact h
  have hF := Lib.hid hF
  have hc := cnt_pos (n := 27) hk.1 hk.2.1
  obtain ⟨c, hcc⟩ : ∃ c, cnt 27 (hs p.data.toList) = c := ⟨_, rfl⟩
  rw [hcc] at D hc
  have hc0 : ((c : Int) == 0) = false := by rw [beq_eq_false_iff_ne]; omega
  have h27 : k < 27 := hk.1
  have E := fun w => Lib.hid (specAt0 k w (by omega) (by omega))
  clear hk hcc hc hsz
  go_enter Tryd.func4, Tryd.ntmps4
  go_wp2_with fail
  have HK := Lib.hid (Blk.new w #[.int .i64 0, .int .i64 0, .int .i64 0] 23)
  refine (C _).out.mono ?_
  rintro e w' ⟨rfl, rfl⟩
  go_wp2_with fail
  refine (D _).out.mono ?_
  rintro e w' ⟨rfl, rfl⟩
  go_wp2_with fail
  refine (hF.out _).mono ?_
  rintro e w' ⟨rfl, rfl⟩
  go_wp2_with fail
  refine (E _).out.mono ?_
  rintro e w1 ⟨rfl, hb⟩
  have HB1 := Lib.hid (bbox hb)
  have t1 := HK.out.kept hb
  obtain ⟨q0, q1, q2, f0, f1, f2⟩ := t1.a3
  clear hb t1
  go_wp2_with fail
  exact bodyPost_ret (v := .tuple #[.agg #[.int .i64 (ax k), .int .i64 (ay k), .int .i64 (az k)], .bool true]) (by simp [results, Tryd.results4, go_sem, q0, q1, q2]) rfl ⟨rfl, by (repeat refine Below.setCell ?_ (by simp) _); exact HB1.out⟩
set_option maxHeartbeats 1000000 in
theorem specFirst_none (p : ByteArray) (w : World) (hp : Set27 p) (hk : ∀ i, i < 27 → hs p.data.toList i = false) :
    Calls Tryd.prog 4 #[.string p] w fun e w' => e = .returned (.tuple #[.agg #[.int .i64 0, .int .i64 0, .int .i64 0], .bool false]) ∧ Below w.heap.size w w' := by
  have C := fun w => Lib.hid (specPredValid_yes p w hp)
  have D := fun w => Lib.hid (specCount0 p 27 w hp (by omega))
  rw [cnt_none hk] at D
  clear hk
  go_enter Tryd.func4, Tryd.ntmps4
  go_wp2_with fail
  refine (C _).out.mono ?_
  rintro e w' ⟨rfl, rfl⟩
  go_wp2_with fail
  refine (D _).out.mono ?_
  rintro e w' ⟨rfl, rfl⟩
  go_wp2_with fail
  exact bodyPost_ret (v := .tuple #[.agg #[.int .i64 0, .int .i64 0, .int .i64 0], .bool false]) (by simp [results, Tryd.results4, go_sem]) rfl ⟨rfl, (Below.refl _ _).alloc (Nat.le_refl _) _⟩
set_option maxHeartbeats 1000000 in
theorem specFirst_no (p : ByteArray) (w : World) (hp : ¬ Set27 p) (hm : p.size ≤ maxLen) :
    Calls Tryd.prog 4 #[.string p] w fun e w' => e = .returned (.tuple #[.agg #[.int .i64 0, .int .i64 0, .int .i64 0], .bool false]) ∧ Below w.heap.size w w' := by
  have C := fun w => Lib.hid (specPredValid_no p w hp hm)
  clear hp
  go_enter Tryd.func4, Tryd.ntmps4
  go_wp2_with fail
  refine (C _).out.mono ?_
  rintro e w' ⟨rfl, rfl⟩
  go_wp2_with fail
  exact bodyPost_ret (v := .tuple #[.agg #[.int .i64 0, .int .i64 0, .int .i64 0], .bool false]) (by simp [results, Tryd.results4, go_sem]) rfl ⟨rfl, (Below.refl _ _).alloc (Nat.le_refl _) _⟩
end Go.Proofs.YtbicokobbpmgnaaDoor
