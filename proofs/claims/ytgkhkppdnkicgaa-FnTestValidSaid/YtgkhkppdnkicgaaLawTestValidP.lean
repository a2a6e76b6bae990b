/-
  The law of the texts of tests is true at all bytes: no condition.
-/
import Derived.Test.YtgkhkppdnkicgaaRows
import Derived.Test.YtgkhkppdnkicgaaDrawB
import Derived.Test.YtgkhkppdnkicgaaValid
import Derived.Test.YtgkhkppdnkicgaaShowS
import Derived.ProofKit
import Derived.OpenShut
import Derived.ShutString
import Derived.ChangeOld
namespace Go.Proofs.Ytgkhkppdnkicgaa
open Go.ChangeShapes Go.WideShapes Go.ChangeAt Go.RowKit
open Go.ChangeMaps (open_string shut_string)

theorem Try.own : ownKnob Try.prog.godebug = none := by kernel_rfl
theorem laidOut : laidOutB Try.prog = true := by kernel_rfl

theorem ok_head {wide k : Bool} {t : Tm} (h : Ok wide k t) : ∃ ks, opk wide k t.head = some ks := by
  cases t with
  | leaf c => exact ⟨_, h⟩
  | un c a => obtain ⟨k1, h1, _⟩ := h; exact ⟨_, h1⟩
  | bin c a b => obtain ⟨k1, k2, h1, _⟩ := h; exact ⟨_, h1⟩
theorem ser_head (t : Tm) : ∃ r, t.ser = t.head :: r := by cases t <;> exact ⟨_, rfl⟩

theorem valid_not (l : List UInt8) : Valid false true (33 :: l) ↔ Valid false true l := by
  constructor
  · rintro ⟨t, ht, e⟩
    cases t with
    | leaf c =>
      obtain ⟨rfl, rfl⟩ := List.cons.inj e
      exact absurd (show opk false true 33 = some [] from ht) (by decide)
    | un c a =>
      obtain ⟨rfl, rfl⟩ := List.cons.inj e
      obtain ⟨k1, h1, h2⟩ := ht
      have : k1 = true := by cases k1 with
        | true => rfl
        | false => exact absurd h1 (by decide)
      subst this
      exact ⟨a, h2, rfl⟩
    | bin c a b =>
      obtain ⟨rfl, rfl⟩ := List.cons.inj e
      obtain ⟨k1, k2, h1, _⟩ := ht
      rw [show opk false true 33 = some [true] from rfl] at h1
      simp at h1
  · rintro ⟨t, ht, rfl⟩
    exact ⟨.un 33 t, ⟨true, rfl, ht⟩, rfl⟩

theorem valid_two (c d : UInt8) (hc : opk false true c = some [true, true]) (hd : opk false true d = some []) (l : List UInt8) : Valid false true (c :: d :: l) ↔ Valid false true l := by
  constructor
  · rintro ⟨t, ht, e⟩
    cases t with
    | leaf x => simp [Tm.ser] at e
    | un x a =>
      obtain ⟨rfl, _⟩ := List.cons.inj e
      obtain ⟨k1, h1, _⟩ := ht
      rw [hc] at h1
      simp at h1
    | bin x a b =>
      obtain ⟨rfl, e2⟩ := List.cons.inj e
      obtain ⟨k1, k2, h1, ha, hb⟩ := ht
      rw [hc] at h1
      simp only [Option.some.injEq, List.cons.injEq, and_true] at h1
      obtain ⟨rfl, rfl⟩ := h1
      obtain ⟨_, rfl⟩ := prefix_free (.leaf d) a true l b.ser hd ha e2
      exact ⟨b, hb, rfl⟩
  · rintro ⟨t, ht, rfl⟩
    exact ⟨.bin c (.leaf d) t, ⟨true, true, hc, hd, ht⟩, rfl⟩

theorem kinds_apart (c : UInt8) {x y : List Bool} (h1 : opk false true c = some x) (h2 : opk false false c = some y) : False := by
  have k : ∀ n, n < 256 → (opk false true (UInt8.ofNat n)).isSome = true → (opk false false (UInt8.ofNat n)).isSome = true → False := by decide +kernel
  refine k c.toNat c.toNat_lt ?_ ?_ <;> rw [UInt8.ofNat_toNat]
  · rw [h1]; rfl
  · rw [h2]; rfl
theorem valid_one {l : List UInt8} (h : Valid false true l) : ¬ Valid false false l := by
  rintro ⟨t', ht', e'⟩
  obtain ⟨t, ht, e⟩ := h
  obtain ⟨x, hx⟩ := ok_head ht
  obtain ⟨y, hy⟩ := ok_head ht'
  obtain ⟨r, hr⟩ := ser_head t
  obtain ⟨r', hr'⟩ := ser_head t'
  rw [e, hr, hr'] at e'
  obtain ⟨hh, _⟩ := List.cons.inj e'
  rw [← hh] at hy
  exact kinds_apart _ hx hy

theorem cat1 (c : UInt8) (t : ByteArray) : ((⟨#[c]⟩ : ByteArray) ++ t).data.toList = c :: t.data.toList := by simp [ByteArray.data_append]
theorem cat2 (c d : UInt8) (t : ByteArray) : ((⟨#[c, d]⟩ : ByteArray) ++ t).data.toList = c :: d :: t.data.toList := by simp [ByteArray.data_append]
theorem size1 (c : UInt8) (t : ByteArray) : ((⟨#[c]⟩ : ByteArray) ++ t).size = 1 + t.size := by simp [ByteArray.size_append]; rfl
theorem size2 (c d : UInt8) (t : ByteArray) : ((⟨#[c, d]⟩ : ByteArray) ++ t).size = 2 + t.size := by simp [ByteArray.size_append]; rfl

theorem shw_some (t : Tm) : (bs (shw t)).toList.isEmpty = false := by
  rw [ByteArray.toList_eq]
  cases t with
  | leaf c => by_cases h1 : c = 116 <;> by_cases h2 : c = 102 <;> simp [shw, bs, h1, h2]
  | un c a => simp [shw, bs]
  | bin c a b => by_cases h : c = 61 ∨ c = 60 <;> simp [shw, bs, h]

set_option maxRecDepth 100000 in
set_option maxHeartbeats 8000000 in
theorem walkTestValid {a0 : Option Addr} {len0 cap0 : Nat} {z0 : List Int} (w : World) (h0 : IsRow w a0 len0 cap0 z0) :
    Calls Try.prog 4 #[.slice a0 len0 cap0] w fun e w' => e = .returned (.bool true) ∧ Below w.heap.size w w' := by
  have D := Lib.hid (drawTV h0)
  clear h0
  by_cases hl : (1048576 : Int) < len0
  · go_enter Try.func4, Try.ntmps4
    go_wp2_with fail
    go_ret
    exact ⟨rfl, Below.refl _ _⟩
  · go_enter Try.func4, Try.ntmps4
    go_wp2_with fail
    refine D.out.mono ?_
    rintro e w1 ⟨t, ht, rfl, hb⟩
    have HB1 := Lib.hid hb
    clear hb D
    have h90 : ¬ (90 : Int) < (t.size : Int) := by omega
    have n1 : ¬ 9223372036854775807 < 1 + t.size := by omega
    have n2 : ¬ 9223372036854775807 < 2 + t.size := by omega
    by_cases hv : Valid false true t.data.toList ∧ t.size ≤ 200
    · have C1 := fun w => Lib.hid (implTest_yes t w hv.1 hv.2)
      have C2 := fun w => Lib.hid (specTest_yes t w hv.1 hv.2)
      have C3 := fun w => Lib.hid (implTest_yes ((⟨#[33]⟩ : ByteArray) ++ t) w (by rw [cat1]; exact (valid_not _).2 hv.1) (by rw [size1]; omega))
      have C4 := fun w => Lib.hid (implTest_yes ((⟨#[38, 116]⟩ : ByteArray) ++ t) w (by rw [cat2]; exact (valid_two 38 116 rfl rfl _).2 hv.1) (by rw [size2]; omega))
      have C5 := fun w => Lib.hid (implTest_yes ((⟨#[124, 102]⟩ : ByteArray) ++ t) w (by rw [cat2]; exact (valid_two 124 102 rfl rfl _).2 hv.1) (by rw [size2]; omega))
      have C6 := fun w => Lib.hid (implExpr_no t w (fun h => valid_one hv.1 h.1))
      obtain ⟨⟨tm, htm, etm⟩, hsz⟩ := hv
      have C7 := fun w => Lib.hid (implShowTest_yes t w htm etm hsz)
      have hne := shw_some tm
      clear htm etm
      generalize bs (shw tm) = r at *
      go_wp2_with fail
      refine (C1 _).out.mono ?_
      rintro e w2 ⟨rfl, hb⟩
      have HB2 := Lib.hid (bnext HB1.out hb)
      clear hb
      go_wp2_with fail
      refine (C2 _).out.mono ?_
      rintro e w3 ⟨rfl, n, rfl⟩
      have HB3 := Lib.hid (below_of_drewN HB2.out n)
      go_wp2_with fail
      refine (C3 _).out.mono ?_
      rintro e w4 ⟨rfl, hb⟩
      have HB4 := Lib.hid (bnext HB3.out hb)
      clear hb
      go_wp2_with fail
      refine (C4 _).out.mono ?_
      rintro e w5 ⟨rfl, hb⟩
      have HB5 := Lib.hid (bnext HB4.out hb)
      clear hb
      go_wp2_with fail
      refine (C5 _).out.mono ?_
      rintro e w6 ⟨rfl, hb⟩
      have HB6 := Lib.hid (bnext HB5.out hb)
      clear hb
      go_wp2_with fail
      refine (C6 _).out.mono ?_
      rintro e w7 ⟨rfl, hb⟩
      have HB7 := Lib.hid (bnext HB6.out hb)
      clear hb
      go_wp2_with fail
      refine (C7 _).out.mono ?_
      rintro e w8 ⟨rfl, hb⟩
      have HB8 := Lib.hid (bnext HB7.out hb)
      clear hb
      go_wp2_with fail
      go_ret
      exact ⟨rfl, HB8.out⟩
    · have C1 := fun w => Lib.hid (implTest_no t w hv)
      have C2 := fun w => Lib.hid (specTest_no t w hv)
      have hv' : ¬ Valid false true t.data.toList := fun h => hv ⟨h, by omega⟩
      have C3 := fun w => Lib.hid (implTest_no ((⟨#[33]⟩ : ByteArray) ++ t) w (by rw [cat1, valid_not]; exact fun h => hv' h.1))
      have C4 := fun w => Lib.hid (implTest_no ((⟨#[38, 116]⟩ : ByteArray) ++ t) w (by rw [cat2, valid_two 38 116 rfl rfl]; exact fun h => hv' h.1))
      have C5 := fun w => Lib.hid (implTest_no ((⟨#[124, 102]⟩ : ByteArray) ++ t) w (by rw [cat2, valid_two 124 102 rfl rfl]; exact fun h => hv' h.1))
      clear hv hv'
      go_wp2_with fail
      refine (C1 _).out.mono ?_
      rintro e w2 ⟨rfl, hb⟩
      have HB2 := Lib.hid (bnext HB1.out hb)
      clear hb
      go_wp2_with fail
      refine (C2 _).out.mono ?_
      rintro e w3 ⟨rfl, n, rfl⟩
      have HB3 := Lib.hid (below_of_drewN HB2.out n)
      go_wp2_with fail
      refine (C3 _).out.mono ?_
      rintro e w4 ⟨rfl, hb⟩
      have HB4 := Lib.hid (bnext HB3.out hb)
      clear hb
      go_wp2_with fail
      refine (C4 _).out.mono ?_
      rintro e w5 ⟨rfl, hb⟩
      have HB5 := Lib.hid (bnext HB4.out hb)
      clear hb
      go_wp2_with fail
      refine (C5 _).out.mono ?_
      rintro e w6 ⟨rfl, hb⟩
      have HB6 := Lib.hid (bnext HB5.out hb)
      clear hb
      go_wp2_with fail
      go_ret
      exact ⟨rfl, HB6.out⟩

set_option linter.unusedVariables false in
set_option maxRecDepth 100000 in
theorem liftedTestValid (os : Os) (started : os.Started) (H : Type) (enc : TypeId × Value → H) :
    ReturnsInHanded {} Try.checked os 4 .any (Rows.fnTestValidSpec.pre6 enc Try.prog Try.f4 Rows.fnTestValidRow.domain false) (Rows.fnTestValidSpec.post enc Try.prog Try.f4 false true false false) := by
  refine returnsInHanded_of_change (C := Try.checked) Try.own started (by kernel_rfl) Try.func4
    (ChangeSpec.witness6 (enc := enc) (C := Try.checked) false ⟨#[], #[.slice none 0 0], []⟩ 8 (by kernel_rfl) (by kernel_rfl) (by kernel_rfl) (by kernel_rfl)) ?_
  intro W base args ds gs before hval0 hW hcnd _
  have hval : ∀ (j : Nat) t v, Try.f4.params[j]? = some t → args[j]? = some v → Value.okWide Try.prog W .any base t v := hval0
  have hW' := hW
  obtain ⟨p, q, hA0, hV, rfl, hfz, hnd⟩ := hW
  have hA : DataW.TrodAll enc Try.prog W 0 (fun _ => true) true Try.f4.params.toList args.toList ds p := hA0
  rw [Try.params4] at hA hval
  obtain ⟨v0, vs0, d0, ds0, p0, q0, hargs, rfl, rfl, h0, r0⟩ := trodAll_cons hA
  obtain ⟨rfl, rfl, rfl⟩ := trodAll_nil r0
  obtain rfl : args = #[v0] := by cases args; simp_all
  obtain ⟨rfl, rfl⟩ := trodVars_none hV
  obtain ⟨a0, len0, cap0, rfl⟩ := okWide_slice Try.underlying22 (hval 0 22 v0 rfl rfl)
  have k0 := h0
  have lt0 : ∀ x ∈ p0, x.block < W.heap.size := by obtain ⟨m, hm⟩ := k0; exact DataW.trod_lt m _ _ _ hm
  obtain ⟨z0, w0⟩ : ∃ zs, IsRow W a0 len0 cap0 zs := by
    obtain ⟨fuel, hf⟩ := h0
    rcases open_ints Try.underlying22 Try.underlying5 (by kernel_rfl) hf with ⟨hcs, _⟩ | ⟨x, l, c, zs, hcs, _, hl, hm, hz, _, hcell, hwz⟩
    · simp [Value.cells] at hcs
      obtain ⟨rfl, rfl, rfl⟩ := hcs
      exact ⟨[], .inl ⟨rfl, rfl, rfl, rfl⟩⟩
    · simp [Value.cells] at hcs
      obtain ⟨rfl, rfl, rfl⟩ := hcs
      exact ⟨zs, .inr ⟨_, rfl, hl, hm, by simpa using hz, hcell, hwz⟩⟩
  clear hA0 hval0
  refine (walkTestValid W w0).mono fun e W' ⟨he, bel⟩ => ?_
  subst he
  exact ⟨_, rfl, _, _, _, [], _, [], hW', trodAll_mk1 (shut_bool Try.underlying4 _), (trodAll_cons_mk (Below.trod laidOut (by kernel_rfl) (of_decide_eq_true (by kernel_rfl)) k0 bel lt0) trodAll_mk0), rfl, bel.frame _, fun h => by cases h⟩

theorem testValid_holds : Rows.FnTestValidSaid :=
  OpenClaim.holds_of_wide 4 Try.f4 rfl rfl rfl rfl rfl rfl rfl ⟨rfl, rfl, rfl, rfl, rfl⟩ rfl rfl rfl rfl rfl (by kernel_rfl) Try.func4 (by kernel_rfl)
    (of_decide_eq_true (by kernel_rfl)) (by unfold Func.isWrapper; first | (rw [if_pos (by decide +kernel)]; kernel_rfl) | (rw [if_neg (by decide +kernel)]; exact ⟨rfl, rfl⟩))
    (fun os started H enc _ => liftedTestValid os started H enc)

#print axioms testValid_holds
end Go.Proofs.Ytgkhkppdnkicgaa
