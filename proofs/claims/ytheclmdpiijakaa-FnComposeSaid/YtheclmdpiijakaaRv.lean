/-
  RelWithin of the program, ShadowOf of the model.
-/
import Derived.Test.YtheclmdpiijakaaRt
namespace Go.Proofs.Ytheclmdpiijakaa
open Go.RowKit Go.Great

/-- A guarded load of a whole row. -/
theorem wpList_load_rowG {P : Program} {ops : Array Oper} {rest : List Oper} {o : Oper} {a : Act} {w : World} {Q : Exit → Act → World → Prop} (hw : Region.wanted o (yielded ops a.tmps) = true) (ty : TypeId) (x : Operand) (ho : o.op = .load ty x)
    (g : Nat) (hx : a.eval x = .pointer (some ⟨g, 0, none⟩)) (t : TypeId) (cs : Array Value) (fr : Nat × Nat) (d : TypeDesc) (hg : w.heap[g]? = some (.cells cs t fr))
    (hu : P.underlying ty = some d) (hd : (match d with | .struct _ | .array _ _ => true | _ => false) = true) (hi : (P.info? ty).map (·.size) = some cs.size)
    (h : wpList P ops Q rest (a.put o.dst (.agg cs)) w) : wpList P ops Q (o :: rest) a w :=
  wpList_step fun K hK => by
    rw [if_pos hw]
    exact wp_load_row ty x ho g hx t cs fr d hg hu hd hi (hK _ _ h)
theorem tb_of_nb {F G : Nat → Bool} (h : nb 27 F = nb 27 G) : tb F = tb G := tb_congr fun i hi => nb_inj h i hi
theorem sha_eq (F G : Nat → Bool) : (bits .andNot .i64 (nb 27 F : Nat) (nb 27 G : Nat) == 0) = wi 27 F G := by
  rw [s_andNot, Bool.eq_iff_iff, beq_iff_eq, wi_iff]
  constructor
  · intro hz i hi hF
    have h0 : nb 27 (fun i => F i && !G i) = nb 27 (fun _ => false) := by rw [nb_zero 27 (F := fun _ => false) (fun _ _ => rfl)]; omega
    have := nb_inj h0 i hi
    simpa [hF] using this
  · intro hall
    have : nb 27 (fun i => F i && !G i) = 0 := nb_zero 27 fun i hi => by
      cases hF : F i
      · rfl
      · simp [hall i hi hF]
    omega
end Go.Proofs.Ytheclmdpiijakaa
