/-
  A text in place of a letter: what strings.ReplaceAll returns at a text of one byte, the model's l1Subst, and the program's substitute.
-/
import Derived.Test.YtknjoadicdijdaaDoorIsVar
import Derived.Test.YtknjoadicdijdaaDoorRead
import Derived.Test.YtknjoadicdijdaaDoorSpecValid
import Derived.Test.YtknjoadicdijdaaDoorBytes
import Derived.Lib.Replace
namespace Go.Proofs.YtknjoadicdijdaaDoor
open Go.RowKit Tm

def sub1 (c : UInt8) (new l : List UInt8) : List UInt8 := l.flatMap fun b => if b = c then new else [b]

theorem sub1_append (c : UInt8) (new a b : List UInt8) : sub1 c new (a ++ b) = sub1 c new a ++ sub1 c new b := by simp [sub1]
theorem sub1_cons (c b : UInt8) (new l : List UInt8) : sub1 c new (b :: l) = (if b = c then new else [b]) ++ sub1 c new l := by simp [sub1]
theorem sub1_self (c : UInt8) : ∀ l, sub1 c [c] l = l
  | [] => rfl
  | b :: l => by
    rw [sub1_cons, sub1_self c l]
    by_cases h : b = c
    · subst h; simp
    · simp [h]

theorem index_cons_ne {b c : UInt8} (h : b ≠ c) (l : List UInt8) : Lib.index (b :: l) [c] = if Lib.index l [c] = -1 then -1 else Lib.index l [c] + 1 := by
  rw [Lib.index_one, Lib.index_one]
  show (if b == c then 0 else if Lib.indexByte l c == -1 then -1 else Lib.indexByte l c + 1) = _
  simp [h]

theorem rep_ne (new : List UInt8) {b c : UInt8} (h : b ≠ c) (k : Nat) (l : List UInt8) : Lib.replaceK [c] new k (b :: l) = b :: Lib.replaceK [c] new k l := by
  cases k with
  | zero => rfl
  | succ k =>
    have hi := index_cons_ne h l
    by_cases hm : Lib.index l [c] = -1
    · rw [if_pos hm] at hi
      unfold Lib.replaceK
      rw [hi, hm]
      rfl
    · have hg := Lib.index_ge l [c]
      obtain ⟨i, hi'⟩ : ∃ i : Nat, Lib.index l [c] = i := ⟨(Lib.index l [c]).toNat, by omega⟩
      rw [if_neg hm, hi'] at hi
      rw [Lib.replaceK_hit [c] new k l i hi', Lib.replaceK_hit [c] new k (b :: l) (i + 1) (by rw [hi]; rfl)]
      simp

theorem rep_eq (new : List UInt8) (c : UInt8) (k : Nat) (l : List UInt8) : Lib.replaceK [c] new (k + 1) (c :: l) = new ++ Lib.replaceK [c] new k l := by
  have hi : Lib.index (c :: l) [c] = ((0 : Nat) : Int) := by
    rw [Lib.index_one]
    show (if c == c then 0 else if Lib.indexByte l c == -1 then -1 else Lib.indexByte l c + 1) = _
    simp
  rw [Lib.replaceK_hit [c] new k (c :: l) 0 hi]
  simp

theorem rep_sub (c : UInt8) (new : List UInt8) : ∀ l, Lib.replaceK [c] new (Lib.count l [c]) l = sub1 c new l
  | [] => by rw [Lib.count_one]; rfl
  | b :: l => by
    rw [sub1_cons]
    by_cases h : b = c
    · subst h
      rw [Lib.count_cons_eq, Nat.add_comm, rep_eq, rep_sub b new l, if_pos rfl]
    · rw [Lib.count_cons_ne b c l h, rep_ne new h, rep_sub c new l, if_neg h]
      rfl

theorem repAll_sub (c : UInt8) (new l : List UInt8) : Lib.replaceAll l [c] new = sub1 c new l := by
  unfold Lib.replaceAll Lib.replace
  by_cases h : ([c] == new) = true
  · rw [if_pos h]
    obtain rfl := beq_iff_eq.1 h
    exact (sub1_self c l).symm
  · rw [if_neg h]
    unfold Lib.replaceNum
    rw [if_pos (Or.inl (by decide))]
    exact rep_sub c new l

theorem sub1_le (c : UInt8) (new : List UInt8) (hn : new.length ≤ 200) : ∀ l, (sub1 c new l).length ≤ 200 * l.length
  | [] => by simp [sub1]
  | b :: l => by
    rw [sub1_cons, List.length_append]
    have := sub1_le c new hn l
    split <;> simp <;> omega

set_option maxHeartbeats 2000000 in
theorem specSub (c : UInt8) (s y : ByteArray) (w : World) (hs : s.size ≤ 200) (hy : y.size ≤ 200) :
    Calls Tryd.prog 41 #[.string s, .int .u8 c.toNat, .string y] w fun e w' => e = .returned (.string (bs (sub1 c y.data.toList s.data.toList))) ∧ w = w' := by
  go_enter Tryd.func41, Tryd.ntmps41
  go_wp2_with fail
  go_loop [7, 8] (fun out i => ∃ (k : Nat) (o : ByteArray), k ≤ s.size ∧ i = .int .i64 k ∧ out = .string o ∧ o.size ≤ 200 * k ∧ Hid (o = bs (sub1 c y.data.toList (s.data.toList.take k)))) (fun _ i => s.size - (intOf i).toNat)
  case atStart => exact ⟨0, bs [], Nat.zero_le _, rfl, rfl, by simp [bs, ByteArray.size], rfl⟩
  case round =>
    obtain ⟨k, o, hk, rfl, rfl, ho, HO⟩ := hrel
    by_cases hlt : k < s.size
    · have htake : s.data.toList.take (k + 1) = s.data.toList.take k ++ [s[k]] := by
        rw [List.take_succ_eq_append_getElem (by simpa using hlt)]; rfl
      have hv : sub1 c y.data.toList (s.data.toList.take (k + 1)) = sub1 c y.data.toList (s.data.toList.take k) ++ (if s[k] = c then y.data.toList else [s[k]]) := by
        rw [htake, sub1_append]; simp [sub1]
      have X := Lib.hid (extract_one s k hlt)
      by_cases h : s[k] = c
      · have ht : ((s[k].toNat : Int) == (c.toNat : Int)) = true := by rw [h]; simp
        rw [if_pos h] at hv
        have HV := Lib.hid hv
        clear h hv htake
        go_wp2_with fail
        go_round
        case rel => exact ⟨k + 1, o ++ y, by omega, by go_num, rfl, by rw [ByteArray.size_append]; omega, by
          show _ = _
          rw [HV.out, HO.out, ← bs_append]; rfl⟩
        case measure => simp [intOf]; omega
      · have ht : ((s[k].toNat : Int) == (c.toNat : Int)) = false := by
          rw [beq_eq_false_iff_ne]; intro e; exact h (UInt8.toNat_inj.1 (by exact_mod_cast e))
        rw [if_neg h] at hv
        have HV := Lib.hid hv
        clear h hv htake
        go_wp2_with fail
        go_round
        case rel => exact ⟨k + 1, o ++ s.extract k (k + 1), by omega, by go_num, rfl, by rw [X.out, ByteArray.size_append, bs_size]; simp; omega, by show _ = _; rw [X.out, HV.out, HO.out, bs_append]⟩
        case measure => simp [intOf]; omega
    · have hfin : Hid (o = bs (sub1 c y.data.toList s.data.toList)) := by
        show _ = _
        rw [HO.out, List.take_of_length_le (by simp; omega)]
      go_wp2_with fail
      go_ret
      exact ⟨by rw [← hfin.out]; rfl, rfl⟩

theorem repAll_at (c : UInt8) (s y : ByteArray) (m : Int) (w : World) (hm : w.cell? ⟨1, 0, none⟩ = some (.int .i64 m)) (hs : s.size ≤ 200) (hy : y.size ≤ 200) :
    Calls Tryd.prog 68 #[.string s, .string ⟨#[c]⟩, .string y] w fun e w' => e = .returned (.string (bs (sub1 c y.data.toList s.data.toList))) ∧ Below w.heap.size w w' := by
  have hc : Lib.countB s ⟨#[c]⟩ ≤ 201 := by
    have := Lib.count_le s.data.toList [c]
    have hl : s.data.toList.length = s.size := Array.length_toList
    show Lib.count s.data.toList [c] ≤ 201
    omega
  have hmul : Lib.countB s ⟨#[c]⟩ * y.size ≤ 201 * 200 := Nat.mul_le_mul hc hy
  refine (Tryd.strings_ReplaceAll s ⟨#[c]⟩ y m w (by omega) hm (Nat.le_refl 1) (by omega)).mono fun e w' ⟨h1, h2⟩ => ⟨?_, h2⟩
  rw [h1]
  show Ending.returned (.string ⟨(Lib.replaceAll s.data.toList [c] y.data.toList).toArray⟩) = _
  rw [repAll_sub]
  rfl
end Go.Proofs.YtknjoadicdijdaaDoor
