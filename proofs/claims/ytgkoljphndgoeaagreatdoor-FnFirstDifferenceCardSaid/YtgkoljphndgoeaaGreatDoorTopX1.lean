import Derived.Test.YtgkoljphndgoeaaGreatDoorTopU
import Derived.Test.YtgkoljphndgoeaaGreatDoorTopP
import Derived.Test.YtgkoljphndgoeaaGreatDoorTopE1
import Derived.Test.YtgkoljphndgoeaaGreatDoorMo
import Derived.Laws.StructEq
namespace Go.Proofs.YtgkoljphndgoeaaGreatDoor
open Go.RowKit
end Go.Proofs.YtgkoljphndgoeaaGreatDoor
namespace Go.Proofs.YtgkoljphndgoeaaGreatDoor
open Go.RowKit Tm
end Go.Proofs.YtgkoljphndgoeaaGreatDoor
namespace Go.Proofs.YtgkoljphndgoeaaGreatDoor
open Go.RowKit Tm Go.Great
def allEq (T : Nat → Nat → Bool) (L K : Nat → Bool) (T' : Nat → Nat → Bool) (L' K' : Nat → Bool) : Bool := ((List.range 27).all fun i => nb 27 (T i) == nb 27 (T' i)) && ((nb 27 L == nb 27 L') && (nb 27 K == nb 27 K'))
def arrC (T : Nat → Nat → Bool) : Array Value := ((List.range 27).map (fun i => Value.int .i64 (nb 27 (T i)))).toArray
theorem arrC_get (T : Nat → Nat → Bool) {i : Nat} (h : i < 27) : (arrC T)[i]? = some (.int .i64 (nb 27 (T i))) := by
 unfold arrC
 simp [h]
theorem allC_arr (T : Nat → Nat → Bool) (L K : Nat → Bool) : (allC T L K).extract 0 (0 + 27) = arrC T := by
 apply Array.ext_getElem?
 intro i
 rw [Array.getElem?_extract]
 by_cases h : i < 27
 ·rw [arrC_get _ h, if_pos (by rw [allC_size]; omega), Nat.zero_add, allC_get _ _ _ h]
 ·rw [if_neg (by rw [allC_size]; omega), Array.getElem?_eq_none (by simp [arrC]; omega)]
theorem run_eqArr {P : Program} (d : Nat) (w : World) (t e : TypeId) (A B : Nat → Nat → Bool) (ht : P.underlying t = some (.array 27 e)) (he : P.underlying e = some (.int .i64)) (hsz : ∀ w, (sizeOf e).run P w = .ok 1 w) :
  (Op.equalIn (d + 2) t (.agg (arrC A)) (.agg (arrC B))).run P w = .ok ((List.range 27).all fun i => nb 27 (A i) == nb 27 (B i)) w := by
 rw [List.range_eq_range', Op.equalIn]
 simp only [Sem.run_bind, run_underlying ht, Result.andThen_ok, hsz, Std.Legacy.Range.forIn_eq_forIn_range', Std.Legacy.Range.size, Nat.sub_zero, Nat.add_sub_cancel, Nat.div_one]
 have hl : ∀ i ∈ List.range' 0 27 1, i < 27 := fun i hi => by simpa using (List.mem_range'_1.1 hi).2
 generalize List.range' 0 27 1 = l at hl ⊢
 induction l with
 | nil => simp
 | cons i l ih =>
  have hi : i < 27 := hl i (by simp)
  have px : (Go.part e (arrC A) (i * 1)).run P w = .ok (.int .i64 (nb 27 (A i))) w := by
   simp [Go.part, isAgg, run_underlying he, arrC_get A hi]
  have py : (Go.part e (arrC B) (i * 1)).run P w = .ok (.int .i64 (nb 27 (B i))) w := by
   simp [Go.part, isAgg, run_underlying he, arrC_get B hi]
  have pe : (Op.equalIn (d + 1) e (.int .i64 (nb 27 (A i))) (.int .i64 (nb 27 (B i)))).run P w = .ok (nb 27 (A i) == nb 27 (B i)) w := by
   rw [run_equalIn_int w d e .i64 .i64 _ _ he]
   congr 1
   rw [Bool.eq_iff_iff, beq_iff_eq, beq_iff_eq]
   omega
  simp only [List.forIn_cons, Sem.run_bind, px, py, pe, Result.andThen_ok, List.all_cons]
  cases hb : (nb 27 (A i) == nb 27 (B i))
  ·simp
  ·simp only [Bool.not_true, Bool.false_eq_true, if_false, Sem.run_pure, Result.andThen_ok, Bool.true_and]
   exact ih fun j hj => hl j (by simp [hj])
theorem structAll : Tryz.prog.underlying 85 = some (.struct (Tryz.prog.fieldsOf 85)) := by kernel_rfl
theorem stoodAll : Tryz.prog.stoodInHeld 85 = false := by kernel_rfl
theorem fieldsAll : ∃ a b c, (Tryz.prog.fieldsOf 85).toList = [a, b, c] ∧ ((a.name = "_") = False ∧ a.type = 82 ∧ a.offset = 0) ∧ ((b.name = "_") = False ∧ b.type = 3 ∧ b.offset = 27) ∧ (c.name = "_") = False ∧ c.type = 3 ∧ c.offset = 28 :=
 ⟨(Tryz.prog.fieldsOf 85).toList[0]!, (Tryz.prog.fieldsOf 85).toList[1]!, (Tryz.prog.fieldsOf 85).toList[2]!, by kernel_rfl, ⟨by simp; decide +kernel, by kernel_rfl, by kernel_rfl⟩, ⟨by simp; decide +kernel, by kernel_rfl, by kernel_rfl⟩, by simp; decide +kernel, by kernel_rfl, by kernel_rfl⟩
theorem undArr : Tryz.prog.underlying 82 = some (.array 27 3) := by kernel_rfl
theorem szArr (w : World) : (sizeOf 82).run Tryz.prog w = .ok 27 w := by kernel_rfl
theorem szInt0 (w : World) : (sizeOf 3).run Tryz.prog w = .ok 1 w := by kernel_rfl
theorem eqFields3 {P : Program} {d : Nat} {xs ys : Array Value} {a b c : Field} {w : World} {x0 x1 x2 y0 y1 y2 : Value} {r0 r1 r2 : Bool} (a1 : (a.name = "_") = False) (b1 : (b.name = "_") = False) (c1 : (c.name = "_") = False)
  (pa : (Go.part a.type xs a.offset).run P w = .ok x0 w) (qa : (Go.part a.type ys a.offset).run P w = .ok y0 w) (ea : (Op.equalIn d a.type x0 y0).run P w = .ok r0 w)
  (pb : (Go.part b.type xs b.offset).run P w = .ok x1 w) (qb : (Go.part b.type ys b.offset).run P w = .ok y1 w) (eb : (Op.equalIn d b.type x1 y1).run P w = .ok r1 w)
  (pc : (Go.part c.type xs c.offset).run P w = .ok x2 w) (qc : (Go.part c.type ys c.offset).run P w = .ok y2 w) (ec : (Op.equalIn d c.type x2 y2).run P w = .ok r2 w) :
  (Op.eqFields d xs ys [a, b, c]).run P w = .ok (r0 && (r1 && r2)) w := by
 cases r0 <;> cases r1 <;> cases r2 <;> simp [Op.eqFields, a1, b1, c1, pa, qa, ea, pb, qb, eb, pc, qc, ec]
theorem run_eqAllD (d : Nat) (T : Nat → Nat → Bool) (L K : Nat → Bool) (T' : Nat → Nat → Bool) (L' K' : Nat → Bool) (w : World) :
  (Op.equalIn (d + 2 + 1) 85 (.agg (allC T L K)) (.agg (allC T' L' K'))).run Tryz.prog w = .ok (allEq T L K T' L' K') w := by
 obtain ⟨a, b, c, h0, ⟨a1, a2, a3⟩, ⟨b1, b2, b3⟩, c1, c2, c3⟩ := fieldsAll
 have hi : Tryz.prog.underlying 3 = some (.int .i64) := Tryz.underlying3
 rw [run_equalIn_struct w (d + 2) _ _ _ structAll stoodAll, h0]
 have pa : ∀ T L K, (Go.part 82 (allC T L K) 0).run Tryz.prog w = .ok (.agg (arrC T)) w := fun T L K => by
  simp only [Go.part, isAgg, Sem.run_bind, run_underlying undArr, Result.andThen_ok, szArr, Sem.run_pure, if_true]
  rw [allC_arr]
 have pb : ∀ T L K, (Go.part 3 (allC T L K) 27).run Tryz.prog w = .ok (.int .i64 (nb 27 L)) w := fun T L K => by
  simp [Go.part, isAgg, run_underlying hi, allC_L]
 have pc : ∀ T L K, (Go.part 3 (allC T L K) 28).run Tryz.prog w = .ok (.int .i64 (nb 27 K)) w := fun T L K => by
  simp [Go.part, isAgg, run_underlying hi, allC_K]
 have ee : ∀ x y : Nat, (((x : Nat) : Int) == (y : Nat)) = (x == y) := fun x y => by rw [Bool.eq_iff_iff, beq_iff_eq, beq_iff_eq]; omega
 refine eqFields3 a1 b1 c1 (by rw [a2, a3]; exact pa T L K) (by rw [a2, a3]; exact pa T' L' K') (by rw [a2]; exact run_eqArr d w 82 3 T T' undArr hi szInt0) (by rw [b2, b3]; exact pb T L K) (by rw [b2, b3]; exact pb T' L' K') (by rw [b2, ← ee]; exact run_equalIn_int w (d + 1) 3 .i64 .i64 _ _ hi) (by rw [c2, c3]; exact pc T L K) (by rw [c2, c3]; exact pc T' L' K') (by rw [c2, ← ee]; exact run_equalIn_int w (d + 1) 3 .i64 .i64 _ _ hi)
theorem run_eqAll (T : Nat → Nat → Bool) (L K : Nat → Bool) (T' : Nat → Nat → Bool) (L' K' : Nat → Bool) (w : World) :
  (Op.equalIn 10000 85 (.agg (allC T L K)) (.agg (allC T' L' K'))).run Tryz.prog w = .ok (allEq T L K T' L' K') w := run_eqAllD 9997 T L K T' L' K' w
theorem bs_ofP {s : ByteArray} {p : Pg} (h : s.data.toList = p.ser) : s = bs p.ser := by
 obtain ⟨⟨l⟩⟩ := s
 simp only [bs] at *
 congr 2
def PV (s : ByteArray) : Prop := PValid false s.data.toList ∧ s.size ≤ 200
theorem specPVb (s : ByteArray) (w : World) : ∃ b : Bool, (b = true ↔ PV s) ∧ Calls Tryz.prog 97 #[.string s] w fun e w' => e = .returned (.bool b) ∧ Below w.heap.size w w' := by
 by_cases h : PV s
 ·exact ⟨true, by simp [h], (specPV_yes s w h.1 h.2).mono fun e w' ⟨h1, h2⟩ => ⟨h1, by first | (subst h2; exact Below.refl _ _) | (obtain ⟨n, rfl⟩ := h2; exact bdrewN (Below.refl _ _) n) | exact h2⟩⟩
 ·exact ⟨false, by simp [h], (specPV_no s w h).mono fun e w' ⟨h1, h2⟩ => ⟨h1, by first | (subst h2; exact Below.refl _ _) | (obtain ⟨n, rfl⟩ := h2; exact bdrewN (Below.refl _ _) n) | exact h2⟩⟩
end Go.Proofs.YtgkoljphndgoeaaGreatDoor
