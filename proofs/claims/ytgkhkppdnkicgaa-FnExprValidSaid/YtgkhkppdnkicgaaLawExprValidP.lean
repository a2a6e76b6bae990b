/-
  The law of the texts of expressions is true at all bytes: no condition.
-/
import Derived.Test.YtgkhkppdnkicgaaRows
import Derived.Test.YtgkhkppdnkicgaaDrawB
import Derived.Test.YtgkhkppdnkicgaaValid
import Derived.Test.YtgkhkppdnkicgaaHas
import Derived.ProofKit
import Derived.OpenShut
import Derived.ShutString
import Derived.ChangeOld
namespace Go.Proofs.Ytgkhkppdnkicgaa
open Go.ChangeShapes Go.WideShapes Go.ChangeAt Go.RowKit
open Go.ChangeMaps (open_string shut_string)

theorem Try.own : ownKnob Try.prog.godebug = none := by kernel_rfl
theorem laidOut : laidOutB Try.prog = true := by kernel_rfl

/-- The law's own counter of open places, and whether it went well. -/
def cntE : Int → Bool → List UInt8 → Bool
  | o, g, [] => g && (o == 0)
  | o, g, c :: l => if isOpB c then cntE (o + 1) (g && decide (0 < o)) l else cntE (o - 1) (g && decide (0 < o) && (isVarB false c || isDigB c)) l
theorem cntE_false (l : List UInt8) : ∀ o : Int, cntE o false l = false := by
  induction l with
  | nil => intro o; rfl
  | cons c l ih => intro o; simp only [cntE]; split <;> simp [ih]
theorem cntE_mach (l : List UInt8) : ∀ n : Nat, cntE n true l = mach false (List.replicate n false) l := by
  induction l with
  | nil =>
    intro n
    cases n with
    | zero => rfl
    | succ n => simp [cntE, mach, List.replicate_succ]; omega
  | cons c l ih =>
    intro n
    cases n with
    | zero => simp [cntE, mach, cntE_false]
    | succ n =>
      have h0 : (0 : Int) < ((n + 1 : Nat) : Int) := by omega
      by_cases ho : isOpB c = true
      · have hv : (isVarB false c || isDigB c) = false := by
          simp only [isOpB, Bool.or_eq_true, beq_iff_eq] at ho
          rcases ho with (rfl | rfl) | rfl <;> rfl
        have e : (((n + 1 : Nat) : Int) + 1) = ((n + 2 : Nat) : Int) := by omega
        simp only [cntE, ho, if_true, h0, decide_true, Bool.and_true, e, ih]
        simp [mach, opk, hv, ho, List.replicate_succ]
      · have e : (((n + 1 : Nat) : Int) - 1) = ((n : Nat) : Int) := by omega
        cases hv : (isVarB false c || isDigB c)
        · simp [cntE, ho, hv, cntE_false, mach, opk, List.replicate_succ]
        · simp only [cntE, ho, h0, decide_true, Bool.and_true, e, hv]
          simp [ih, mach, opk, hv, List.replicate_succ]
theorem cntE_valid (l : List UInt8) : cntE 1 true l = true ↔ Valid false false l := by
  rw [show (1 : Int) = ((1 : Nat) : Int) from rfl, cntE_mach]
  exact mach_iff
theorem cntE_cons {l : List UInt8} {k : Nat} {c : UInt8} {o : Int} {g R : Bool} (hd : l.drop k = c :: l.drop (k + 1)) (h : cntE o g (l.drop k) = R) :
    (isOpB c = true → cntE (o + 1) (g && decide (0 < o)) (l.drop (k + 1)) = R) ∧ (isOpB c = false → cntE (o - 1) (g && decide (0 < o) && (isVarB false c || isDigB c)) (l.drop (k + 1)) = R) := by
  rw [hd] at h
  simp only [cntE] at h
  constructor <;> intro ho <;> rw [ho] at h <;> simpa using h
theorem op_cases (c : UInt8) : isOpB c = true ∧ (((c.toNat : Int) == 43) = true ∨ (((c.toNat : Int) == 43) = false ∧ ((c.toNat : Int) == 45) = true) ∨ (((c.toNat : Int) == 43) = false ∧ ((c.toNat : Int) == 45) = false ∧ ((c.toNat : Int) == 42) = true)) ∨
    isOpB c = false ∧ ((c.toNat : Int) == 43) = false ∧ ((c.toNat : Int) == 45) = false ∧ ((c.toNat : Int) == 42) = false := by
  have k : ∀ n, n < 256 → isOpB (UInt8.ofNat n) = true ∧ ((((UInt8.ofNat n).toNat : Int) == 43) = true ∨ ((((UInt8.ofNat n).toNat : Int) == 43) = false ∧ (((UInt8.ofNat n).toNat : Int) == 45) = true) ∨ ((((UInt8.ofNat n).toNat : Int) == 43) = false ∧ (((UInt8.ofNat n).toNat : Int) == 45) = false ∧ (((UInt8.ofNat n).toNat : Int) == 42) = true)) ∨
    isOpB (UInt8.ofNat n) = false ∧ (((UInt8.ofNat n).toNat : Int) == 43) = false ∧ (((UInt8.ofNat n).toNat : Int) == 45) = false ∧ (((UInt8.ofNat n).toNat : Int) == 42) = false := by decide +kernel
  have := k c.toNat c.toNat_lt
  rwa [UInt8.ofNat_toNat] at this
theorem has6 (c : UInt8) : decide (c ∈ (⟨#[120, 121, 122, 48, 49, 50]⟩ : ByteArray).data.toList) = (isVarB false c || isDigB c) := by
  have k : ∀ n, n < 256 → decide (UInt8.ofNat n ∈ (⟨#[120, 121, 122, 48, 49, 50]⟩ : ByteArray).data.toList) = (isVarB false (UInt8.ofNat n) || isDigB (UInt8.ofNat n)) := by decide +kernel
  have := k c.toNat c.toNat_lt
  rwa [UInt8.ofNat_toNat] at this

set_option maxRecDepth 100000 in
set_option maxHeartbeats 8000000 in
theorem walkExprValid {a0 : Option Addr} {len0 cap0 : Nat} {z0 : List Int} (w : World) (h0 : IsRow w a0 len0 cap0 z0) :
    Calls Try.prog 3 #[.slice a0 len0 cap0] w fun e w' => e = .returned (.bool true) ∧ Below w.heap.size w w' := by
  have D := Lib.hid (drawEV h0)
  clear h0
  by_cases hl : (1048576 : Int) < len0
  · go_enter Try.func3, Try.ntmps3
    go_wp2_with fail
    go_ret
    exact ⟨rfl, Below.refl _ _⟩
  · go_enter Try.func3, Try.ntmps3
    go_wp2_with fail
    refine D.out.mono ?_
    rintro e w1 ⟨t, ht, rfl, hb⟩
    have HB1 := Lib.hid hb
    clear hb D
    obtain ⟨V, C1, C2, HV⟩ : ∃ V : Bool, (∀ w, Hid (Calls Try.prog 6 #[.string t] w fun e w' => e = .returned (.bool V) ∧ Below w.heap.size w w')) ∧ (∀ w, Hid (Calls Try.prog 7 #[.string t] w (Quiet (.bool V) w))) ∧ Hid (cntE 1 true t.data.toList = V) := by
      by_cases hv : Valid false false t.data.toList ∧ t.size ≤ 200
      · exact ⟨true, fun w => implExpr_yes t w hv.1 hv.2, fun w => specExpr_yes t w hv.1 hv.2, (cntE_valid _).2 hv.1⟩
      · refine ⟨false, fun w => implExpr_no t w hv, fun w => specExpr_no t w hv, ?_⟩
        show _ = _
        rw [Bool.eq_false_iff]
        exact fun h => hv ⟨(cntE_valid _).1 h, by omega⟩
    go_wp2_with fail
    refine (C1 _).out.mono ?_
    rintro e w2 ⟨rfl, hb⟩
    have HB2 := Lib.hid (bnext HB1.out hb)
    clear hb
    go_wp2_with fail
    refine (C2 _).out.mono ?_
    rintro e w3 ⟨rfl, n, rfl⟩
    have HB3 := Lib.hid (below_of_drewN HB2.out n)
    generalize w2.drewN n = w3 at *
    have eV : (V != V) = false := by cases V <;> rfl
    go_wp2_with fail
    go_loop [5, 6, 7] (fun o g i => ∃ (k : Nat) (z : Int) (b : Bool), k ≤ t.size ∧ o = .int .i64 z ∧ g = .bool b ∧ i = .int .i64 k ∧ -(k : Int) ≤ z ∧ z ≤ k + 1 ∧ Hid (cntE z b (t.data.toList.drop k) = V)) (fun _ _ i => t.size - (intOf i).toNat)
    case atStart => exact ⟨0, 1, true, Nat.zero_le _, rfl, rfl, rfl, by omega, by omega, HV.out⟩
    case round =>
      obtain ⟨k, z, b, hk, rfl, rfl, rfl, z1, z2, HC⟩ := hrel
      by_cases hlt : k < t.size
      · obtain ⟨hop, hno⟩ := cntE_cons (drop_cons' t k hlt) HC.out
        have h1 : (k : Int) ≤ (t.size : Int) := by omega
        have h2 : (k : Int) + 1 ≤ (t.size : Int) := by omega
        have ez1 : IntKind.i64.wrap (z + 1) = z + 1 := IntWalk.i64_in _ (by omega)
        have ez2 : IntKind.i64.wrap (z - 1) = z - 1 := IntWalk.i64_in _ (by omega)
        have HP : Hid (Calls Try.prog 8 #[.string ⟨#[120, 121, 122, 48, 49, 50]⟩, .string (t.extract k (k + 1))] w3 fun e w' => e = .returned (.bool (isVarB false t[k] || isDigB t[k])) ∧ w3 = w') := by
          rw [ext1 t k hlt, ← has6]
          exact has_any _ _ w3 (by decide)
        rcases op_cases t[k] with ⟨ho, q⟩ | ⟨ho, q1, q2, q3⟩
        · have Hop := Lib.hid (hop ho)
          clear hop hno ho HP ez2
          rcases q with q1 | ⟨q1, q2⟩ | ⟨q1, q2, q3⟩
          · cases b
            · go_wp2_with fail
              go_round
              case rel => exact ⟨k + 1, z + 1, false, by omega, rfl, rfl, by go_num, by omega, by omega, Hop.out⟩
              case measure => simp [intOf]; omega
            · go_wp2_with fail
              go_round
              case rel => exact ⟨k + 1, z + 1, decide (0 < z), by omega, rfl, rfl, by go_num, by omega, by omega, Hop.out⟩
              case measure => simp [intOf]; omega
          · cases b
            · go_wp2_with fail
              go_round
              case rel => exact ⟨k + 1, z + 1, false, by omega, rfl, rfl, by go_num, by omega, by omega, Hop.out⟩
              case measure => simp [intOf]; omega
            · go_wp2_with fail
              go_round
              case rel => exact ⟨k + 1, z + 1, decide (0 < z), by omega, rfl, rfl, by go_num, by omega, by omega, Hop.out⟩
              case measure => simp [intOf]; omega
          · cases b
            · go_wp2_with fail
              go_round
              case rel => exact ⟨k + 1, z + 1, false, by omega, rfl, rfl, by go_num, by omega, by omega, Hop.out⟩
              case measure => simp [intOf]; omega
            · go_wp2_with fail
              go_round
              case rel => exact ⟨k + 1, z + 1, decide (0 < z), by omega, rfl, rfl, by go_num, by omega, by omega, Hop.out⟩
              case measure => simp [intOf]; omega
        · have Hno := Lib.hid (hno ho)
          clear hop hno ho ez1
          generalize (isVarB false t[k] || isDigB t[k]) = B at *
          cases b
          · clear HP
            go_wp2_with fail
            go_round
            case rel => exact ⟨k + 1, z - 1, false, by omega, rfl, rfl, by go_num, by omega, by omega, Hno.out⟩
            case measure => simp [intOf]; omega
          · by_cases hz : 0 < z
            · have hdz : decide (0 < z) = true := decide_eq_true hz
              go_wp2_with fail
              refine HP.out.mono ?_
              rintro e w4 ⟨rfl, rfl⟩
              go_wp2_with fail
              go_round
              case rel => exact ⟨k + 1, z - 1, B, by omega, rfl, rfl, by go_num, by omega, by omega, by have := Hno.out; rw [hdz] at this; exact this⟩
              case measure => simp [intOf]; omega
            · have hdz : decide (0 < z) = false := decide_eq_false hz
              clear HP
              go_wp2_with fail
              go_round
              case rel => exact ⟨k + 1, z - 1, false, by omega, rfl, rfl, by go_num, by omega, by omega, by have := Hno.out; rw [hdz] at this; exact this⟩
              case measure => simp [intOf]; omega
      · have e : k = t.size := by omega
        subst e
        have HC2 : Hid ((b && (z == 0)) = V) := by
          have := HC.out
          rw [List.drop_of_length_le (by simp)] at this
          exact this
        have h200 : (t.size : Int) ≤ 200 := by omega
        clear HC
        cases b
        · have hV : V = false := HC2.out.symm
          subst hV
          go_wp2_with fail
          go_ret
          exact ⟨rfl, HB3.out⟩
        · by_cases hz : z = 0
          · subst hz
            have hV : V = true := HC2.out.symm
            subst hV
            go_wp2_with fail
            go_ret
            exact ⟨rfl, HB3.out⟩
          · have hz0 : (z == 0) = false := by rw [beq_eq_false_iff_ne]; exact hz
            have hV : V = false := by rw [← HC2.out, hz0]; rfl
            subst hV
            go_wp2_with fail
            go_ret
            exact ⟨rfl, HB3.out⟩

set_option linter.unusedVariables false in
set_option maxRecDepth 100000 in
theorem liftedExprValid (os : Os) (started : os.Started) (H : Type) (enc : TypeId × Value → H) :
    ReturnsInHanded {} Try.checked os 3 .any (Rows.fnExprValidSpec.pre6 enc Try.prog Try.f3 Rows.fnExprValidRow.domain false) (Rows.fnExprValidSpec.post enc Try.prog Try.f3 false true false false) := by
  refine returnsInHanded_of_change (C := Try.checked) Try.own started (by kernel_rfl) Try.func3
    (ChangeSpec.witness6 (enc := enc) (C := Try.checked) false ⟨#[], #[.slice none 0 0], []⟩ 8 (by kernel_rfl) (by kernel_rfl) (by kernel_rfl) (by kernel_rfl)) ?_
  intro W base args ds gs before hval0 hW hcnd _
  have hval : ∀ (j : Nat) t v, Try.f3.params[j]? = some t → args[j]? = some v → Value.okWide Try.prog W .any base t v := hval0
  have hW' := hW
  obtain ⟨p, q, hA0, hV, rfl, hfz, hnd⟩ := hW
  have hA : DataW.TrodAll enc Try.prog W 0 (fun _ => true) true Try.f3.params.toList args.toList ds p := hA0
  rw [Try.params3] at hA hval
  obtain ⟨v0, vs0, d0, ds0, p0, q0, hargs, rfl, rfl, h0, r0⟩ := trodAll_cons hA
  obtain ⟨rfl, rfl, rfl⟩ := trodAll_nil r0
  obtain rfl : args = #[v0] := by cases args; simp_all
  obtain ⟨rfl, rfl⟩ := trodVars_none hV
  obtain ⟨a0, len0, cap0, rfl⟩ := okWide_slice Try.underlying22 (hval 0 22 v0 rfl rfl)
  have k0 := h0
  have lt0 : ∀ x ∈ p0, x.block < W.heap.size := by obtain ⟨m, hm⟩ := k0; exact DataW.trod_lt m _ _ _ hm
  obtain ⟨z0, w0⟩ : ∃ zs, IsRow W a0 len0 cap0 zs := by
    obtain ⟨fuel, hf⟩ := h0
    rcases open_ints Try.underlying22 Try.underlying5 (by kernel_rfl) hf with ⟨hcs, _⟩ | ⟨x, l, c, zs, hcs, _, hl, hm, hz, _, hcell, hwz⟩
    · simp [Value.cells] at hcs
      obtain ⟨rfl, rfl, rfl⟩ := hcs
      exact ⟨[], .inl ⟨rfl, rfl, rfl, rfl⟩⟩
    · simp [Value.cells] at hcs
      obtain ⟨rfl, rfl, rfl⟩ := hcs
      exact ⟨zs, .inr ⟨_, rfl, hl, hm, by simpa using hz, hcell, hwz⟩⟩
  clear hA0 hval0
  refine (walkExprValid W w0).mono fun e W' ⟨he, bel⟩ => ?_
  subst he
  exact ⟨_, rfl, _, _, _, [], _, [], hW', trodAll_mk1 (shut_bool Try.underlying4 _), (trodAll_cons_mk (Below.trod laidOut (by kernel_rfl) (of_decide_eq_true (by kernel_rfl)) k0 bel lt0) trodAll_mk0), rfl, bel.frame _, fun h => by cases h⟩

theorem exprValid_holds : Rows.FnExprValidSaid :=
  OpenClaim.holds_of_wide 3 Try.f3 rfl rfl rfl rfl rfl rfl rfl ⟨rfl, rfl, rfl, rfl, rfl⟩ rfl rfl rfl rfl rfl (by kernel_rfl) Try.func3 (by kernel_rfl)
    (of_decide_eq_true (by kernel_rfl)) (by unfold Func.isWrapper; first | (rw [if_pos (by decide +kernel)]; kernel_rfl) | (rw [if_neg (by decide +kernel)]; exact ⟨rfl, rfl⟩))
    (fun os started H enc _ => liftedExprValid os started H enc)

#print axioms exprValid_holds
end Go.Proofs.Ytgkhkppdnkicgaa
