/-
  Laws of folded terms. Nothing of the program's text stands here.
-/
import Derived.Test.YtegbjnpnchidkaaFoldE
import Derived.Test.YtegbjnpnchidkaaFree
namespace Go.Proofs.Ytegbjnpnchidkaa
open Go.RowKit Tm

theorem val_dl (e : Nat → Int) (n : Int) (h0 : 0 ≤ n) (h2 : n ≤ 2) : val e (.leaf (dl n)) = n := by
  have : n = 0 ∨ n = 1 ∨ n = 2 := by omega
  rcases this with rfl | rfl | rfl <;> rfl
theorem val_digit (e : Nat → Int) {t : Tm} (h : digB t = true) : val e t = (t.head.toNat : Int) - 48 := by
  obtain ⟨c, rfl, hc⟩ := digB_form h
  rcases hc with rfl | rfl | rfl <;> rfl
theorem val_fld {e : Nat → Int} (he : ∀ i, 0 ≤ e i ∧ e i ≤ 2) : ∀ t : Tm, Ok false false t → val e (fld t) = val e t := by
  intro t
  induction t with
  | leaf c => intro _; rfl
  | un c a _ => intro _; rfl
  | bin c a b iha ihb =>
    intro h
    have hb := val_bd he h
    rcases ok_expr h with ⟨_, h1, _⟩ | ⟨_, _, _, h1, _, ha, hb'⟩
    · cases h1
    · cases h1
      rw [fld_bin]
      by_cases hd : (digB (fld a) && digB (fld b)) = true
      · rw [if_pos hd]
        rw [Bool.and_eq_true] at hd
        have e1 := val_digit e hd.1
        have e2 := val_digit e hd.2
        rw [iha ha] at e1
        rw [ihb hb'] at e2
        have e3 : val e (.bin c a b) = cmp3 c ((fld a).head.toNat - 48) ((fld b).head.toNat - 48) := by
          show cmp3 c (val e a) (val e b) = _
          rw [e1, e2]
        rw [e3] at hb ⊢
        exact val_dl e _ hb.1 hb.2
      · rw [if_neg hd]
        show cmp3 c (val e (fld a)) (val e (fld b)) = cmp3 c (val e a) (val e b)
        rw [iha ha, ihb hb']
theorem fld_fld : ∀ t : Tm, fld (fld t) = fld t := by
  intro t
  induction t with
  | leaf c => rfl
  | un c a _ => rfl
  | bin c a b iha ihb =>
    rw [fld_bin]
    by_cases hd : (digB (fld a) && digB (fld b)) = true
    · rw [if_pos hd]; rfl
    · rw [if_neg hd, fld_bin, iha, ihb, if_neg hd]
theorem dl_novar (n : Int) (c : UInt8) (hc : c = 120 ∨ c = 121 ∨ c = 122) : c ≠ dl n := by
  rintro rfl
  have := dl_dig n
  rcases hc with h | h | h <;> rw [h] at this <;> exact absurd this (by decide)
theorem op_novar {o c : UInt8} (ho : isOpB o = true) (hc : c = 120 ∨ c = 121 ∨ c = 122) : c ≠ o := by
  rintro rfl
  rcases hc with rfl | rfl | rfl <;> exact absurd ho (by decide)
theorem dig_novar {t : Tm} (h : digB t = true) {c : UInt8} (hc : c = 120 ∨ c = 121 ∨ c = 122) : c ∉ t.ser := by
  obtain ⟨d, rfl, hd⟩ := digB_form h
  rcases hc with rfl | rfl | rfl <;> rcases hd with rfl | rfl | rfl <;> simp [ser]
theorem fld_vars : ∀ t : Tm, Ok false false t → ∀ c : UInt8, (c = 120 ∨ c = 121 ∨ c = 122) → (c ∈ (fld t).ser ↔ c ∈ t.ser) := by
  intro t
  induction t with
  | leaf c => intro _ _ _; rfl
  | un c a _ => intro _ _ _; rfl
  | bin o a b iha ihb =>
    intro h c hc
    rcases ok_expr h with ⟨_, h1, _⟩ | ⟨_, _, _, h1, ho, ha, hb⟩
    · cases h1
    · cases h1
      have ho := op_novar ho hc
      rw [fld_bin]
      by_cases hd : (digB (fld a) && digB (fld b)) = true
      · rw [if_pos hd]
        rw [Bool.and_eq_true] at hd
        have n1 : c ∉ a.ser := fun hm => dig_novar hd.1 hc ((iha ha c hc).2 hm)
        have n2 : c ∉ b.ser := fun hm => dig_novar hd.2 hc ((ihb hb c hc).2 hm)
        have n3 := dl_novar (cmp3 o ((fld a).head.toNat - 48) ((fld b).head.toNat - 48)) c hc
        simp [ser, n1, n2, n3, ho]
      · rw [if_neg hd]
        simp only [ser, List.mem_cons, List.mem_append, iha ha c hc, ihb hb c hc]
theorem vlist_ext {l m : List UInt8} (h : ∀ c : UInt8, (c = 120 ∨ c = 121 ∨ c = 122) → (c ∈ l ↔ c ∈ m)) : vlist [120, 121, 122] l = vlist [120, 121, 122] m := by
  unfold vlist
  apply List.filter_congr
  intro c hc
  rw [decide_eq_decide, fnd_in, fnd_in]
  exact h c (by simpa using hc)
theorem fld_none : ∀ t : Tm, Ok false false t → (∀ c : UInt8, (c = 120 ∨ c = 121 ∨ c = 122) → c ∉ t.ser) → digB (fld t) = true := by
  intro t
  induction t with
  | leaf c =>
    intro h hn
    rcases ok_expr h with ⟨c', h1, h2⟩ | ⟨_, _, _, h1, _⟩
    · cases h1
      have h3 : isVarB false c = false := by
        rw [Bool.eq_false_iff]
        intro h3
        have : c = 120 ∨ c = 121 ∨ c = 122 := by simpa [isVarB, or_assoc] using h3
        exact hn c this (by simp [ser])
      rw [h3, Bool.false_or] at h2
      exact h2
    · cases h1
  | un c a _ =>
    intro h _
    rcases ok_expr h with ⟨_, h1, _⟩ | ⟨_, _, _, h1, _⟩ <;> cases h1
  | bin o a b iha ihb =>
    intro h hn
    rcases ok_expr h with ⟨_, h1, _⟩ | ⟨_, _, _, h1, ho, ha, hb⟩
    · cases h1
    · cases h1
      rw [fld_bin, iha ha (fun c hc hm => hn c hc (by simp [ser, hm])), ihb hb (fun c hc hm => hn c hc (by simp [ser, hm])), Bool.and_self, if_pos rfl]
      exact dl_dig _
end Go.Proofs.Ytegbjnpnchidkaa
