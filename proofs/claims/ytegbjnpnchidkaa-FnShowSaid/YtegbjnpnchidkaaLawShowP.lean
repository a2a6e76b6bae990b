/-
  The law of the usual form is true at all bytes: no condition.
-/
import Derived.Test.YtegbjnpnchidkaaRows
import Derived.Test.YtegbjnpnchidkaaDrawB
import Derived.Test.YtegbjnpnchidkaaShowS
import Derived.Test.YtegbjnpnchidkaaValid
import Derived.Test.YtegbjnpnchidkaaDrawV
import Derived.ProofKit
import Derived.OpenShut
import Derived.ShutString
import Derived.ChangeOld
namespace Go.Proofs.Ytegbjnpnchidkaa
open Go.ChangeShapes Go.WideShapes Go.ChangeAt Go.RowKit
open Go.ChangeMaps (open_string shut_string)

theorem Try.own : ownKnob Try.prog.godebug = none := by kernel_rfl
theorem laidOut : laidOutB Try.prog = true := by kernel_rfl

set_option maxHeartbeats 4000000 in
theorem drawSE {a : Option Addr} {len cap : Nat} {zs : List Int} {w : World} (h : IsRow w a len cap zs) :
    Calls Try.prog 29 #[.slice a len cap] w fun e w' => ∃ t : ByteArray, t.size ≤ 40 ∧ e = .returned (.string t) ∧ Below w.heap.size w w' := by
  have HO := Lib.hid (drawEV h)
  clear h
  go_enter Try.func29, Try.ntmps29
  go_wp2_with fail
  refine HO.out.mono ?_
  rintro e w1 ⟨t, ht, rfl, hb⟩
  have HW1 := Lib.hid hb
  clear hb
  go_wp2_with fail
  go_ret
  exact ⟨t, ht, rfl, HW1.out⟩

set_option maxHeartbeats 4000000 in
theorem drawST {a : Option Addr} {len cap : Nat} {zs : List Int} {w : World} (h : IsRow w a len cap zs) :
    Calls Try.prog 31 #[.slice a len cap] w fun e w' => ∃ t : ByteArray, t.size ≤ 40 ∧ e = .returned (.string t) ∧ Below w.heap.size w w' := by
  have HO := Lib.hid (drawTV h)
  clear h
  go_enter Try.func31, Try.ntmps31
  go_wp2_with fail
  refine HO.out.mono ?_
  rintro e w1 ⟨t, ht, rfl, hb⟩
  have HW1 := Lib.hid hb
  clear hb
  go_wp2_with fail
  go_ret
  exact ⟨t, ht, rfl, HW1.out⟩

/-- A byte that is no parenthesis. -/
def npB (c : UInt8) : Bool := c != 40 && c != 41
def np (l : List UInt8) : Nat := l.countP npB
theorem np_app (a b : List UInt8) : np (a ++ b) = np a + np b := List.countP_append
theorem opk_np {c : UInt8} {l : List Bool} (h : opk false false c = some l) : npB c = true ∧ c ≠ 61 ∧ c ≠ 60 ∧ c ≠ 116 ∧ c ≠ 102 ∧ l ≠ [true] ∧ (l = [false, false] ∨ l = []) := by
  have k : ∀ n, n < 256 → ∀ l, opk false false (UInt8.ofNat n) = some l → npB (UInt8.ofNat n) = true ∧ UInt8.ofNat n ≠ 61 ∧ UInt8.ofNat n ≠ 60 ∧ UInt8.ofNat n ≠ 116 ∧ UInt8.ofNat n ≠ 102 ∧ l ≠ [true] ∧ (l = [false, false] ∨ l = []) := by
    have k1 : ∀ n, n < 256 → ((opk false false (UInt8.ofNat n) = none) ∨ (npB (UInt8.ofNat n) = true ∧ UInt8.ofNat n ≠ 61 ∧ UInt8.ofNat n ≠ 60 ∧ UInt8.ofNat n ≠ 116 ∧ UInt8.ofNat n ≠ 102 ∧ (opk false false (UInt8.ofNat n) = some [false, false] ∨ opk false false (UInt8.ofNat n) = some []))) := by decide +kernel
    intro n hn l hl
    rcases k1 n hn with h | ⟨h1, h2, h3, h4, h5, h6⟩
    · rw [h] at hl; cases hl
    · rcases h6 with h6 | h6 <;> rw [h6] at hl <;> cases hl <;> exact ⟨h1, h2, h3, h4, h5, by simp, by simp⟩
  have := k c.toNat c.toNat_lt
  rw [UInt8.ofNat_toNat] at this
  exact this l h
/-- What is shown of an expression: its letters, and two parentheses for each operator. -/
theorem shw_np : ∀ t : Tm, Ok false false t → ∃ K : Nat, t.ser.length = 2 * K + 1 ∧ np (shw t) = 2 * K + 1 ∧ (shw t).length = 4 * K + 1 := by
  intro t
  induction t with
  | leaf c =>
    intro h
    obtain ⟨h1, _, _, h2, h3, _⟩ := opk_np (show opk false false c = some [] from h)
    exact ⟨0, rfl, by simp [shw, h2, h3, np, h1], by simp [shw, h2, h3]⟩
  | un c a _ =>
    rintro ⟨k1, h, _⟩
    obtain ⟨_, _, _, _, _, h5, h6⟩ := opk_np h
    rcases h6 with h6 | h6 <;> simp at h6
  | bin c a b iha ihb =>
    rintro ⟨k1, k2, h, ha, hb⟩
    obtain ⟨h1, h2, h3, _, _, _, h6⟩ := opk_np h
    rcases h6 with h6 | h6 <;> simp at h6
    obtain ⟨rfl, rfl⟩ := h6
    obtain ⟨K, q1, q2, q3⟩ := iha ha
    obtain ⟨L, r1, r2, r3⟩ := ihb hb
    refine ⟨K + L + 1, by simp [Tm.ser]; omega, ?_, ?_⟩
    · simp only [shw, h2, h3, or_self, if_false, np_app, q2, r2]
      have e1 : np [c] = 1 := by simp [np, h1]
      have e2 : np [40] = 0 := rfl
      have e3 : np [41] = 0 := rfl
      rw [e1, e2, e3]; omega
    · simp [shw, h2, h3]; omega
theorem np_step (x : ByteArray) (k : Nat) (h : k < x.size) : np (x.data.toList.take (k + 1)) = np (x.data.toList.take k) + (if npB x[k] then 1 else 0) := by
  have e : x.data.toList[k]? = some x[k] := List.getElem?_eq_getElem (by simpa using h)
  rw [List.take_add_one, e, np_app]
  unfold np
  cases h : npB x[k] <;> simp [h]
theorem byte_nq (c d : UInt8) : ((c.toNat : Int) != (d.toNat : Int)) = (c != d) := by
  have h : ((c.toNat : Int) == (d.toNat : Int)) = (c == d) := by
    rw [Bool.eq_iff_iff, beq_iff_eq, beq_iff_eq, UInt8.toNat_inj.symm]
    omega
  rw [bne, bne, h]
theorem shw_some (t : Tm) : (bs (shw t)).toList.isEmpty = false := by
  rw [ByteArray.toList_eq]
  cases t with
  | leaf c => by_cases h1 : c = 116 <;> by_cases h2 : c = 102 <;> simp [shw, bs, h1, h2]
  | un c a => simp [shw, bs]
  | bin c a b => by_cases h : c = 61 ∨ c = 60 <;> simp [shw, bs, h]

set_option maxRecDepth 100000 in
set_option maxHeartbeats 16000000 in
theorem walkShow {a0 : Option Addr} {len0 cap0 : Nat} {z0 : List Int} {a1 : Option Addr} {len1 cap1 : Nat} {z1 : List Int} (w : World) (h0 : IsRow w a0 len0 cap0 z0) (h1 : IsRow w a1 len1 cap1 z1) :
    Calls Try.prog 6 #[.slice a0 len0 cap0, .slice a1 len1 cap1] w fun e w' => e = .returned (.bool true) ∧ Below w.heap.size w w' := by
  have D := Lib.hid (drawSE h0)
  have HR1 := Lib.hid h1
  clear h0 h1
  by_cases hl : (1048576 : Int) < len0
  · go_enter Try.func6, Try.ntmps6
    go_wp2_with fail
    go_ret
    exact ⟨rfl, Below.refl _ _⟩
  · by_cases hl1 : (1048576 : Int) < len1
    · go_enter Try.func6, Try.ntmps6
      go_wp2_with fail
      go_ret
      exact ⟨rfl, Below.refl _ _⟩
    · go_enter Try.func6, Try.ntmps6
      go_wp2_with fail
      refine D.out.mono ?_
      rintro e w1 ⟨t, ht, rfl, hb⟩
      have HB1 := Lib.hid hb
      clear hb D
      obtain ⟨x, a, C1, C2, C3, hx, HF⟩ : ∃ (x : ByteArray) (a : Bool), (∀ w, Hid (Calls Try.prog 30 #[.string t] w fun e w' => e = .returned (.string x) ∧ Below w.heap.size w w')) ∧ (∀ w, Hid (Calls Try.prog 33 #[.string t] w fun e w' => e = .returned (.string x) ∧ Below w.heap.size w w')) ∧ (∀ w, Hid (Calls Try.prog 11 #[.string t] w fun e w' => e = .returned (.bool a) ∧ Below w.heap.size w w')) ∧ x.toList.isEmpty = !a ∧ Hid (a = true → ∃ K : Nat, t.size = 2 * K + 1 ∧ np x.data.toList = 2 * K + 1 ∧ x.size = 4 * K + 1) := by
        by_cases hv : Valid false false t.data.toList ∧ t.size ≤ 200
        · obtain ⟨⟨tm, h1, h2⟩, h3⟩ := hv
          refine ⟨_, true, fun w => implShowExpr_yes t w h1 h2 h3, fun w => specShowExpr_yes t w h1 h2 h3, fun w => implExpr_yes t w ⟨tm, h1, h2⟩ h3, shw_some tm, fun _ => ?_⟩
          obtain ⟨K, q1, q2, q3⟩ := shw_np tm h1
          have hz : t.size = tm.ser.length := by have := congrArg List.length h2; simpa using this
          exact ⟨K, by omega, by simpa [bs] using q2, by rw [bs_size]; exact q3⟩
        · exact ⟨bs [], false, fun w => implShowExpr_no t w hv, fun w => specShowExpr_no t w hv, fun w => implExpr_no t w hv, by rw [ByteArray.toList_eq]; rfl, fun h => by cases h⟩
      go_wp2_with fail
      refine (C1 _).out.mono ?_
      rintro e w2 ⟨rfl, hb⟩
      have HB2 := Lib.hid (bnext HB1.out hb)
      clear hb
      have D2 := Lib.hid (drawST (HR1.out.kept HB2.out))
      go_wp2_with fail
      refine D2.out.mono ?_
      rintro e w3 ⟨u, hu, rfl, hb⟩
      have HB3 := Lib.hid (bnext HB2.out hb)
      clear hb D2 HR1
      obtain ⟨y, b, C4, C5, C6, hy⟩ : ∃ (y : ByteArray) (b : Bool), (∀ w, Hid (Calls Try.prog 32 #[.string u] w fun e w' => e = .returned (.string y) ∧ Below w.heap.size w w')) ∧ (∀ w, Hid (Calls Try.prog 34 #[.string u] w fun e w' => e = .returned (.string y) ∧ Below w.heap.size w w')) ∧ (∀ w, Hid (Calls Try.prog 35 #[.string u] w fun e w' => e = .returned (.bool b) ∧ Below w.heap.size w w')) ∧ y.toList.isEmpty = !b := by
        by_cases hv : Valid false true u.data.toList ∧ u.size ≤ 200
        · obtain ⟨⟨tm, h1, h2⟩, h3⟩ := hv
          exact ⟨_, true, fun w => implShowTest_yes u w h1 h2 h3, fun w => specShowTest_yes u w h1 h2 h3, fun w => implTest_yes u w ⟨tm, h1, h2⟩ h3, shw_some tm⟩
        · exact ⟨bs [], false, fun w => implShowTest_no u w hv, fun w => specShowTest_no u w hv, fun w => implTest_no u w hv, by rw [ByteArray.toList_eq]; rfl⟩
      cases a
      · cases b
        · go_wp2_with fail
          refine (C4 _).out.mono ?_
          rintro e w4 ⟨rfl, hb⟩
          have HB4 := Lib.hid (bnext HB3.out hb)
          clear hb
          go_wp2_with fail
          refine (C2 _).out.mono ?_
          rintro e w5 ⟨rfl, hb⟩
          have HB5 := Lib.hid (bnext HB4.out hb)
          clear hb
          go_wp2_with fail
          refine (C5 _).out.mono ?_
          rintro e w6 ⟨rfl, hb⟩
          have HB6 := Lib.hid (bnext HB5.out hb)
          clear hb
          go_wp2_with fail
          refine (C3 _).out.mono ?_
          rintro e w7 ⟨rfl, hb⟩
          have HB7 := Lib.hid (bnext HB6.out hb)
          clear hb
          go_wp2_with fail
          refine (C6 _).out.mono ?_
          rintro e w8 ⟨rfl, hb⟩
          have HB8 := Lib.hid (bnext HB7.out hb)
          clear hb
          go_wp2_with fail
          go_ret
          exact ⟨rfl, HB8.out⟩
        · go_wp2_with fail
          refine (C4 _).out.mono ?_
          rintro e w4 ⟨rfl, hb⟩
          have HB4 := Lib.hid (bnext HB3.out hb)
          clear hb
          go_wp2_with fail
          refine (C2 _).out.mono ?_
          rintro e w5 ⟨rfl, hb⟩
          have HB5 := Lib.hid (bnext HB4.out hb)
          clear hb
          go_wp2_with fail
          refine (C5 _).out.mono ?_
          rintro e w6 ⟨rfl, hb⟩
          have HB6 := Lib.hid (bnext HB5.out hb)
          clear hb
          go_wp2_with fail
          refine (C3 _).out.mono ?_
          rintro e w7 ⟨rfl, hb⟩
          have HB7 := Lib.hid (bnext HB6.out hb)
          clear hb
          go_wp2_with fail
          refine (C6 _).out.mono ?_
          rintro e w8 ⟨rfl, hb⟩
          have HB8 := Lib.hid (bnext HB7.out hb)
          clear hb
          go_wp2_with fail
          go_ret
          exact ⟨rfl, HB8.out⟩
      · cases b
        · go_wp2_with fail
          refine (C4 _).out.mono ?_
          rintro e w4 ⟨rfl, hb⟩
          have HB4 := Lib.hid (bnext HB3.out hb)
          clear hb
          go_wp2_with fail
          refine (C2 _).out.mono ?_
          rintro e w5 ⟨rfl, hb⟩
          have HB5 := Lib.hid (bnext HB4.out hb)
          clear hb
          go_wp2_with fail
          refine (C5 _).out.mono ?_
          rintro e w6 ⟨rfl, hb⟩
          have HB6 := Lib.hid (bnext HB5.out hb)
          clear hb
          go_wp2_with fail
          refine (C3 _).out.mono ?_
          rintro e w7 ⟨rfl, hb⟩
          have HB7 := Lib.hid (bnext HB6.out hb)
          clear hb
          go_wp2_with fail
          refine (C6 _).out.mono ?_
          rintro e w8 ⟨rfl, hb⟩
          have HB8 := Lib.hid (bnext HB7.out hb)
          clear hb
          obtain ⟨K, z1, z2, z3⟩ := HF.out (by trivial)
          have HN := Lib.hid z2
          clear HF z2
          go_wp2_with fail
          go_loop [9, 10] (fun l i => ∃ k : Nat, k ≤ x.size ∧ i = .int .i64 k ∧ l = .int .i64 (np (x.data.toList.take k) : Nat) ∧ np (x.data.toList.take k) ≤ k) (fun _ i => x.size - (intOf i).toNat)
          case atStart => exact ⟨0, Nat.zero_le _, rfl, rfl, Nat.le_refl _⟩
          case round =>
            obtain ⟨k, hk, rfl, rfl, hn⟩ := hrel
            by_cases hlt : k < x.size
            · have HS := Lib.hid (np_step x k hlt)
              have h1 : (k : Int) ≤ (x.size : Int) := by omega
              have e1 : ((x[k].toNat : Int) != 40) = (x[k] != 40) := byte_nq _ 40
              have e2 : ((x[k].toNat : Int) != 41) = (x[k] != 41) := byte_nq _ 41
              have HB := Lib.hid (show npB x[k] = (x[k] != 40 && x[k] != 41) from rfl)
              generalize (x[k] != 40) = p at *
              generalize (x[k] != 41) = q at *
              generalize np (x.data.toList.take k) = A at *
              have ew : IntKind.i64.wrap ((A : Int) + 1) = (A : Int) + 1 := IntWalk.i64_in _ (by omega)
              cases p
              · have HR : Hid (np (x.data.toList.take (k + 1)) = A) := by show _ = _; have := HS.out; rw [HB.out] at this; simpa using this
                go_wp2_with fail
                go_round
                case rel => exact ⟨k + 1, by omega, by go_num, by rw [HR.out], by rw [HR.out]; omega⟩
                case measure => simp [intOf]; omega
              · cases q
                · have HR : Hid (np (x.data.toList.take (k + 1)) = A) := by show _ = _; have := HS.out; rw [HB.out] at this; simpa using this
                  go_wp2_with fail
                  go_round
                  case rel => exact ⟨k + 1, by omega, by go_num, by rw [HR.out], by rw [HR.out]; omega⟩
                  case measure => simp [intOf]; omega
                · have HR : Hid (np (x.data.toList.take (k + 1)) = A + 1) := by show _ = _; have := HS.out; rw [HB.out] at this; simpa using this
                  go_wp2_with fail
                  go_round
                  case rel => exact ⟨k + 1, by omega, by go_num, by rw [HR.out, Int.natCast_add]; rfl, by rw [HR.out]; omega⟩
                  case measure => simp [intOf]; omega
            · have e : k = x.size := by omega
              subst e
              rw [show x.data.toList.take x.size = x.data.toList from List.take_of_length_le (by simp), HN.out]
              have f1 : ((2 * K + 1 : Nat) : Int) = (t.size : Int) := by omega
              have f2 : IntKind.i64.wrap ((x.size : Int) - (t.size : Int)) = 2 * (K : Int) := (IntWalk.i64_in _ (by omega)).trans (by omega)
              have f3 : IntKind.i64.wrap ((t.size : Int) - 1) = 2 * (K : Int) := (IntWalk.i64_in _ (by omega)).trans (by omega)
              have f4 : Int.tdiv (2 * (K : Int)) 2 = (K : Int) := by rw [Int.tdiv_eq_ediv_of_nonneg (by omega)]; omega
              have f5 : IntKind.i64.wrap (2 * (K : Int)) = 2 * (K : Int) := IntWalk.i64_in _ (by omega)
              rw [f1]
              clear f1 hk hlt hn
              go_wp2_with fail
              go_ret
              exact ⟨by simp; omega, HB8.out⟩
        · go_wp2_with fail
          refine (C4 _).out.mono ?_
          rintro e w4 ⟨rfl, hb⟩
          have HB4 := Lib.hid (bnext HB3.out hb)
          clear hb
          go_wp2_with fail
          refine (C2 _).out.mono ?_
          rintro e w5 ⟨rfl, hb⟩
          have HB5 := Lib.hid (bnext HB4.out hb)
          clear hb
          go_wp2_with fail
          refine (C5 _).out.mono ?_
          rintro e w6 ⟨rfl, hb⟩
          have HB6 := Lib.hid (bnext HB5.out hb)
          clear hb
          go_wp2_with fail
          refine (C3 _).out.mono ?_
          rintro e w7 ⟨rfl, hb⟩
          have HB7 := Lib.hid (bnext HB6.out hb)
          clear hb
          go_wp2_with fail
          refine (C6 _).out.mono ?_
          rintro e w8 ⟨rfl, hb⟩
          have HB8 := Lib.hid (bnext HB7.out hb)
          clear hb
          obtain ⟨K, z1, z2, z3⟩ := HF.out (by trivial)
          have HN := Lib.hid z2
          clear HF z2
          go_wp2_with fail
          go_loop [9, 10] (fun l i => ∃ k : Nat, k ≤ x.size ∧ i = .int .i64 k ∧ l = .int .i64 (np (x.data.toList.take k) : Nat) ∧ np (x.data.toList.take k) ≤ k) (fun _ i => x.size - (intOf i).toNat)
          case atStart => exact ⟨0, Nat.zero_le _, rfl, rfl, Nat.le_refl _⟩
          case round =>
            obtain ⟨k, hk, rfl, rfl, hn⟩ := hrel
            by_cases hlt : k < x.size
            · have HS := Lib.hid (np_step x k hlt)
              have h1 : (k : Int) ≤ (x.size : Int) := by omega
              have e1 : ((x[k].toNat : Int) != 40) = (x[k] != 40) := byte_nq _ 40
              have e2 : ((x[k].toNat : Int) != 41) = (x[k] != 41) := byte_nq _ 41
              have HB := Lib.hid (show npB x[k] = (x[k] != 40 && x[k] != 41) from rfl)
              generalize (x[k] != 40) = p at *
              generalize (x[k] != 41) = q at *
              generalize np (x.data.toList.take k) = A at *
              have ew : IntKind.i64.wrap ((A : Int) + 1) = (A : Int) + 1 := IntWalk.i64_in _ (by omega)
              cases p
              · have HR : Hid (np (x.data.toList.take (k + 1)) = A) := by show _ = _; have := HS.out; rw [HB.out] at this; simpa using this
                go_wp2_with fail
                go_round
                case rel => exact ⟨k + 1, by omega, by go_num, by rw [HR.out], by rw [HR.out]; omega⟩
                case measure => simp [intOf]; omega
              · cases q
                · have HR : Hid (np (x.data.toList.take (k + 1)) = A) := by show _ = _; have := HS.out; rw [HB.out] at this; simpa using this
                  go_wp2_with fail
                  go_round
                  case rel => exact ⟨k + 1, by omega, by go_num, by rw [HR.out], by rw [HR.out]; omega⟩
                  case measure => simp [intOf]; omega
                · have HR : Hid (np (x.data.toList.take (k + 1)) = A + 1) := by show _ = _; have := HS.out; rw [HB.out] at this; simpa using this
                  go_wp2_with fail
                  go_round
                  case rel => exact ⟨k + 1, by omega, by go_num, by rw [HR.out, Int.natCast_add]; rfl, by rw [HR.out]; omega⟩
                  case measure => simp [intOf]; omega
            · have e : k = x.size := by omega
              subst e
              rw [show x.data.toList.take x.size = x.data.toList from List.take_of_length_le (by simp), HN.out]
              have f1 : ((2 * K + 1 : Nat) : Int) = (t.size : Int) := by omega
              have f2 : IntKind.i64.wrap ((x.size : Int) - (t.size : Int)) = 2 * (K : Int) := (IntWalk.i64_in _ (by omega)).trans (by omega)
              have f3 : IntKind.i64.wrap ((t.size : Int) - 1) = 2 * (K : Int) := (IntWalk.i64_in _ (by omega)).trans (by omega)
              have f4 : Int.tdiv (2 * (K : Int)) 2 = (K : Int) := by rw [Int.tdiv_eq_ediv_of_nonneg (by omega)]; omega
              have f5 : IntKind.i64.wrap (2 * (K : Int)) = 2 * (K : Int) := IntWalk.i64_in _ (by omega)
              rw [f1]
              clear f1 hk hlt hn
              go_wp2_with fail
              go_ret
              exact ⟨by simp; omega, HB8.out⟩

set_option linter.unusedVariables false in
set_option maxRecDepth 100000 in
theorem liftedShow (os : Os) (started : os.Started) (H : Type) (enc : TypeId × Value → H) :
    ReturnsInHanded {} Try.checked os 6 .any (Rows.fnShowSpec.pre6 enc Try.prog Try.f6 Rows.fnShowRow.domain false) (Rows.fnShowSpec.post enc Try.prog Try.f6 false true false false) := by
  refine returnsInHanded_of_change (C := Try.checked) Try.own started (by kernel_rfl) Try.func6
    (ChangeSpec.witness6 (enc := enc) (C := Try.checked) false ⟨#[], #[.slice none 0 0, .slice none 0 0], []⟩ 8 (by kernel_rfl) (by kernel_rfl) (by kernel_rfl) (by kernel_rfl)) ?_
  intro W base args ds gs before hval0 hW hcnd _
  have hval : ∀ (j : Nat) t v, Try.f6.params[j]? = some t → args[j]? = some v → Value.okWide Try.prog W .any base t v := hval0
  have hW' := hW
  obtain ⟨p, q, hA0, hV, rfl, hfz, hnd⟩ := hW
  have hA : DataW.TrodAll enc Try.prog W 0 (fun _ => true) true Try.f6.params.toList args.toList ds p := hA0
  rw [Try.params6] at hA hval
  obtain ⟨v0, vs0, d0, ds0, p0, q0, hargs, rfl, rfl, h0, r0⟩ := trodAll_cons hA
  obtain ⟨v1, vs1, d1, ds1, p1, q1, rfl, rfl, rfl, h1, r1⟩ := trodAll_cons r0
  obtain ⟨rfl, rfl, rfl⟩ := trodAll_nil r1
  obtain rfl : args = #[v0, v1] := by cases args; simp_all
  obtain ⟨rfl, rfl⟩ := trodVars_none hV
  obtain ⟨a0, len0, cap0, rfl⟩ := okWide_slice Try.underlying22 (hval 0 22 v0 rfl rfl)
  have k0 := h0
  have lt0 : ∀ x ∈ p0, x.block < W.heap.size := by obtain ⟨m, hm⟩ := k0; exact DataW.trod_lt m _ _ _ hm
  obtain ⟨z0, w0⟩ : ∃ zs, IsRow W a0 len0 cap0 zs := by
    obtain ⟨fuel, hf⟩ := h0
    rcases open_ints Try.underlying22 Try.underlying5 (by kernel_rfl) hf with ⟨hcs, _⟩ | ⟨x, l, c, zs, hcs, _, hl, hm, hz, _, hcell, hwz⟩
    · simp [Value.cells] at hcs
      obtain ⟨rfl, rfl, rfl⟩ := hcs
      exact ⟨[], .inl ⟨rfl, rfl, rfl, rfl⟩⟩
    · simp [Value.cells] at hcs
      obtain ⟨rfl, rfl, rfl⟩ := hcs
      exact ⟨zs, .inr ⟨_, rfl, hl, hm, by simpa using hz, hcell, hwz⟩⟩
  obtain ⟨a1, len1, cap1, rfl⟩ := okWide_slice Try.underlying22 (hval 1 22 v1 rfl rfl)
  have k1 := h1
  have lt1 : ∀ x ∈ p1, x.block < W.heap.size := by obtain ⟨m, hm⟩ := k1; exact DataW.trod_lt m _ _ _ hm
  obtain ⟨z1, w1⟩ : ∃ zs, IsRow W a1 len1 cap1 zs := by
    obtain ⟨fuel, hf⟩ := h1
    rcases open_ints Try.underlying22 Try.underlying5 (by kernel_rfl) hf with ⟨hcs, _⟩ | ⟨x, l, c, zs, hcs, _, hl, hm, hz, _, hcell, hwz⟩
    · simp [Value.cells] at hcs
      obtain ⟨rfl, rfl, rfl⟩ := hcs
      exact ⟨[], .inl ⟨rfl, rfl, rfl, rfl⟩⟩
    · simp [Value.cells] at hcs
      obtain ⟨rfl, rfl, rfl⟩ := hcs
      exact ⟨zs, .inr ⟨_, rfl, hl, hm, by simpa using hz, hcell, hwz⟩⟩
  clear hA0 hval0
  refine (walkShow W w0 w1).mono fun e W' ⟨he, bel⟩ => ?_
  subst he
  exact ⟨_, rfl, _, _, _, [], _, [], hW', trodAll_mk1 (shut_bool Try.underlying4 _), (trodAll_cons_mk (Below.trod laidOut (by kernel_rfl) (of_decide_eq_true (by kernel_rfl)) k0 bel lt0) (trodAll_cons_mk (Below.trod laidOut (by kernel_rfl) (of_decide_eq_true (by kernel_rfl)) k1 bel lt1) trodAll_mk0)), rfl, bel.frame _, fun h => by cases h⟩

theorem show_holds : Rows.FnShowSaid :=
  OpenClaim.holds_of_wide 6 Try.f6 rfl rfl rfl rfl rfl rfl rfl ⟨rfl, rfl, rfl, rfl, rfl⟩ rfl rfl rfl rfl rfl (by kernel_rfl) Try.func6 (by kernel_rfl)
    (of_decide_eq_true (by kernel_rfl)) (by unfold Func.isWrapper; first | (rw [if_pos (by decide +kernel)]; kernel_rfl) | (rw [if_neg (by decide +kernel)]; exact ⟨rfl, rfl⟩))
    (fun os started H enc _ => liftedShow os started H enc)

#print axioms show_holds
end Go.Proofs.Ytegbjnpnchidkaa
