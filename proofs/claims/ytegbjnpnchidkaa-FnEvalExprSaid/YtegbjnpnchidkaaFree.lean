/-
  What a term does not name does not matter to its value. Nothing of the program's text stands here.
-/
import Derived.Test.YtegbjnpnchidkaaSpecVars
import Derived.Test.YtegbjnpnchidkaaHolds
import Derived.Test.YtegbjnpnchidkaaExpr
namespace Go.Proofs.Ytegbjnpnchidkaa
open Go.RowKit Tm

def VarAt' (c : UInt8) (j : Nat) : Prop := (c = 120 ∧ j = 0) ∨ (c = 121 ∧ j = 1) ∨ (c = 122 ∧ j = 2)
theorem fnd_in (l : List UInt8) (c : UInt8) : 0 ≤ fnd l c ↔ c ∈ l := by
  induction l with
  | nil => rw [fnd_nil]; simp
  | cons d l ih => rw [fnd_cons, ih]; simp
theorem vlist_in (l : List UInt8) (c : UInt8) (hc : c = 120 ∨ c = 121 ∨ c = 122) : c ∈ vlist [120, 121, 122] l ↔ c ∈ l := by
  unfold vlist
  rw [List.mem_filter, decide_eq_true_eq, fnd_in]
  exact ⟨fun h => h.2, fun h => ⟨by rcases hc with rfl | rfl | rfl <;> simp, h⟩⟩
theorem vlist_size (l : List UInt8) : (bs (vlist [120, 121, 122] l)).size ≤ 3 := by
  rw [bs_size]; unfold vlist
  exact Nat.le_trans (List.length_filter_le _ _) (by simp)
theorem low_leaf (c : UInt8) (h : (isVarB false c || isDigB c) = true) : c ≠ 88 ∧ c ≠ 89 ∧ c ≠ 90 := by
  refine ⟨?_, ?_, ?_⟩ <;> rintro rfl <;> exact absurd h (by decide)
theorem val_free {e e' : Nat → Int} : ∀ t : Tm, Ok false false t → (∀ c j, VarAt' c j → c ∈ t.ser → e j = e' j) → val e t = val e' t := by
  intro t
  induction t with
  | leaf c =>
    intro h he
    rcases ok_expr h with ⟨c', h1, h2⟩ | ⟨_, _, _, h1, _⟩
    · injection h1 with h1; subst h1
      obtain ⟨n1, n2, n3⟩ := low_leaf c h2
      unfold val
      by_cases e1 : c = 120
      · subst e1; simpa using he 120 0 (.inl ⟨rfl, rfl⟩) (by simp [ser])
      · by_cases e2 : c = 121
        · subst e2; simpa using he 121 1 (.inr (.inl ⟨rfl, rfl⟩)) (by simp [ser])
        · by_cases e3 : c = 122
          · subst e3; simpa using he 122 2 (.inr (.inr ⟨rfl, rfl⟩)) (by simp [ser])
          · simp [e1, e2, e3, n1, n2, n3]
    · cases h1
  | un c a _ =>
    intro h _
    rfl
  | bin c a b iha ihb =>
    intro h he
    rcases ok_expr h with ⟨_, h1, _⟩ | ⟨c', a', b', h1, _, ha, hb⟩
    · cases h1
    · injection h1 with h1 h2 h3; subst h1; subst h2; subst h3
      unfold val
      rw [iha ha (fun d j hd hm => he d j hd (by simp [ser, hm])), ihb hb (fun d j hd hm => he d j hd (by simp [ser, hm]))]
theorem tru_free {e e' : Nat → Int} : ∀ t : Tm, Ok false true t → (∀ c j, VarAt' c j → c ∈ t.ser → e j = e' j) → tru e t = tru e' t := by
  intro t
  induction t with
  | leaf c => intro _ _; rfl
  | un c a ih =>
    intro h he
    rcases ok_test h with ⟨_, h1, _⟩ | ⟨a', h1, ha⟩ | ⟨_, _, _, h1, _⟩ | ⟨_, _, _, h1, _⟩ <;> try cases h1
    unfold tru
    rw [ih ha (fun d j hd hm => he d j hd (by simp [ser, hm]))]
  | bin c a b iha ihb =>
    intro h he
    rcases ok_test h with ⟨_, h1, _⟩ | ⟨_, h1, _⟩ | ⟨_, _, _, h1, hc, ha, hb⟩ | ⟨_, _, _, h1, hc, ha, hb⟩
    · cases h1
    · cases h1
    · cases h1
      have ea := val_free (e := e) (e' := e') a ha (fun d j hd hm => he d j hd (by simp [ser, hm]))
      have eb := val_free (e := e) (e' := e') b hb (fun d j hd hm => he d j hd (by simp [ser, hm]))
      unfold tru
      rcases hc with rfl | rfl <;> simp [ea, eb]
    · cases h1
      have ea := iha ha (fun d j hd hm => he d j hd (by simp [ser, hm]))
      have eb := ihb hb (fun d j hd hm => he d j hd (by simp [ser, hm]))
      unfold tru
      rcases hc with rfl | rfl <;> simp [ea, eb]
end Go.Proofs.Ytegbjnpnchidkaa
