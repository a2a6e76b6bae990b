/-
  The law of a test with an expression in place of a variable as a set is true at all bytes: no condition. The card.
-/
import Derived.Test.YtknjoadicdijdaaDoorCards
import Derived.Test.YtknjoadicdijdaaDoorTie
import Derived.Test.YtknjoadicdijdaaDoorTopS
import Derived.Test.YtknjoadicdijdaaDoorTopU
import Derived.ProofKit
import Derived.Lib.SmallJoins
import Derived.ChangeSame
import Derived.JoinedOf
import Derived.JoinedAt
import Derived.RowKit3
import Derived.ShutString
import Derived.OpenShut
import Derived.ChangeOld
import Derived.Deep.DeepHandedRow
import Derived.Deep.DeepWitnessRowRef
import Derived.Deep.DeepLaidRun
import Derived.Deep.RegionHeld3
namespace Go.Proofs.YtknjoadicdijdaaDoor
open Go.ChangeShapes Go.WideShapes Go.ChangeAt Go.RowKit Go.Joins
open Go.WideMaps Go.WideElems Tm
open Go.ChangeMaps (open_string shut_string)

theorem Tryd.own : ownKnob Tryd.prog.godebug = none := by kernel_rfl
theorem laidOut : laidOutB Tryd.prog = true := by kernel_rfl

set_option maxRecDepth 100000 in
set_option maxHeartbeats 4000000 in
theorem many60 (w : World) : Calls Tryd.prog 37 #[.string ⟨#[43, 120]⟩, .int .i64 60] w fun e w' => ∃ s : ByteArray, s.size ≤ 199 ∧ e = .returned (.string s) ∧ w = w' := by
  go_enter Tryd.func37, Tryd.ntmps37
  go_wp2_with fail
  refine wp_loop_rounds 7 ?_
  rw [rounds_succ]
  go_wp2_with fail
  rw [rounds_succ]
  go_wp2_with fail
  rw [rounds_succ]
  go_wp2_with fail
  rw [rounds_succ]
  go_wp2_with fail
  rw [rounds_succ]
  go_wp2_with fail
  rw [rounds_succ]
  go_wp2_with fail
  rw [rounds_succ]
  go_wp2_with fail
  go_ret
  exact ⟨_, by decide, rfl, rfl⟩

set_option maxRecDepth 100000 in
set_option maxHeartbeats 4000000 in
theorem drawSuX {a : Option Addr} {len cap : Nat} {zs : List Int} {w : World} (h : IsRow w a len cap zs) :
    Calls Tryd.prog 16 #[.slice a len cap] w fun e w' => ∃ s t u : ByteArray, s.size ≤ 40 ∧ t.size ≤ 2 ∧ u.size ≤ 200 ∧ e = .returned (.tuple #[.string s, .string t, .string u]) ∧ Below w.heap.size w w' := by
  have HO := Lib.hid (open_any h)
  clear h
  go_enter Tryd.func16, Tryd.ntmps16
  go_wp2_with fail
  refine HO.out.mono ?_
  rintro e w1 ⟨rfl, hr, hb⟩
  have HW1 := Lib.hid hb
  have HC := Lib.hid (dT_2 (bs [120, 121, 122]) (by decide) (by decide) hr (by omega))
  clear hr hb
  go_wp2_with fail
  refine HC.out.mono ?_
  rintro e w2 ⟨t, q, t1, t2, hq, rfl, hr, hk⟩
  have HW2 := Lib.hid (HW1.out.trans (hk.below (Nat.le_refl _) HW1.out.size))
  have HC := Lib.hid (bad_any t t1 (by omega) hr (by omega))
  clear hr hk
  go_wp2_with fail
  refine HC.out.mono ?_
  rintro e w3 ⟨x, q3, x1, x2, hq3, rfl, hr, hk⟩
  have HW3 := Lib.hid (HW2.out.trans (hk.below (Nat.le_refl _) HW2.out.size))
  have HC := Lib.hid (which_any hr (by omega))
  clear hr hk
  go_wp2_with fail
  refine HC.out.mono ?_
  rintro e w4 ⟨v, hv, rfl, hr, hk⟩
  have HW4 := Lib.hid (HW3.out.trans (hk.below (Nat.le_refl _) HW3.out.size))
  have HC := Lib.hid (dE_2 (bs [120, 121, 122]) (by decide) (by decide) hr (by omega))
  clear hr hk
  go_wp2_with fail
  refine HC.out.mono ?_
  rintro e w5 ⟨u, q5, u1, u2, hq5, rfl, hr, hk⟩
  have HW5 := Lib.hid (HW4.out.trans (hk.below (Nat.le_refl _) HW4.out.size))
  have HC := Lib.hid (bad_any u u1 (by omega) hr (by omega))
  clear hr hk
  go_wp2_with fail
  refine HC.out.mono ?_
  rintro e w6 ⟨y, q6, y1, y2, hq6, rfl, hr, hk⟩
  have HW6 := Lib.hid (HW5.out.trans (hk.below (Nat.le_refl _) HW5.out.size))
  have HC := Lib.hid (pick_any 30 hr (by omega) (by omega) (by omega))
  clear hr hk
  go_wp2_with fail
  refine HC.out.mono ?_
  rintro e w7 ⟨k, k0, k1, rfl, hr, hk⟩
  have HW7 := Lib.hid (HW6.out.trans (hk.below (Nat.le_refl _) HW6.out.size))
  clear hr hk HC
  by_cases e0 : k = 0
  · subst e0
    go_wp2_with fail
    refine (many60 _).mono ?_
    rintro e w' ⟨z, hz, rfl, rfl⟩
    have n1 : ¬ 9223372036854775807 < z.size + 1 := by omega
    have hz2 : (z ++ (⟨#[120]⟩ : ByteArray)).size ≤ 200 := by rw [ByteArray.size_append, show ByteArray.size ⟨#[120]⟩ = 1 from rfl]; omega
    have HZ := Lib.hid hz2
    clear hz2
    go_wp2_with fail
    go_ret3
    exact ⟨x, v, _, by omega, hv, HZ.out, rfl, HW7.out⟩
  · have g0 : (k == 0) = false := by rw [beq_eq_false_iff_ne]; exact e0
    clear e0
    go_wp2_with fail
    go_ret3
    exact ⟨x, v, y, by omega, hv, by omega, rfl, HW7.out⟩

theorem u_hs (F : Nat → Bool) (i : Nat) (hi : i < 27) : hs (bs (tb F)).data.toList i = F i := by
  rw [show (bs (tb F)).data.toList = tb F by simp [bs]]
  rw [show tb F = tbn 27 F from rfl, hs_tbn]
  simp [hi]
theorem u_set (F : Nat → Bool) : Set27 (bs (tb F)) := by
  unfold Set27
  rw [show (bs (tb F)).data.toList = tb F by simp [bs]]
  exact bits_tbn 27 F
theorem ixx_ax {x y z : Int} (h : st3 x y z = true) : ax (ixx x y z : Nat) = x ∧ ay (ixx x y z : Nat) = y ∧ az (ixx x y z : Nat) = z := by
  have e := (ixx_lt h).2
  have h := st3_lt h
  rw [e]
  unfold ax ay az
  refine ⟨?_, ?_, ?_⟩ <;> omega
theorem env_ixx {x y z : Int} (h : st3 x y z = true) : env (ixx x y z) = one x y z := by
  obtain ⟨a, b, c⟩ := ixx_ax h
  unfold env; rw [a, b, c]
theorem tst_sub {c : UInt8} (hc : c = 120 ∨ c = 121 ∨ c = 122) {t u : Tm} (ht : Ok false true t) (hu : Ok false false u) {i : Nat} (hi : i < 27) : tst (tms c u t) i = tst t (asg c u i) := by
  have hv := val_env hu hi
  obtain ⟨hx, hy, hz⟩ := st3_parts (at_st3 (i := (i : Int)) (by omega) (by omega))
  unfold tst asg
  generalize hn : val (env i) u = n at *
  rcases hc with rfl | rfl | rfl
  · rw [show setN 120 n i = ixx n (ay i) (az i) from rfl, env_ixx (st3_of hv hy hz)]
    refine tru_sub (c := 120) (by simp) ?_ ?_ t ht
    · rintro d j (⟨rfl, rfl⟩ | ⟨rfl, rfl⟩ | ⟨rfl, rfl⟩) hne <;> first | rfl | exact absurd rfl hne
    · rintro j (⟨h, rfl⟩ | ⟨h, rfl⟩ | ⟨h, rfl⟩) <;> first | exact hn.symm | exact absurd h (by decide)
  · rw [show setN 121 n i = ixx (ax i) n (az i) from rfl, env_ixx (st3_of hx hv hz)]
    refine tru_sub (c := 121) (by simp) ?_ ?_ t ht
    · rintro d j (⟨rfl, rfl⟩ | ⟨rfl, rfl⟩ | ⟨rfl, rfl⟩) hne <;> first | rfl | exact absurd rfl hne
    · rintro j (⟨h, rfl⟩ | ⟨h, rfl⟩ | ⟨h, rfl⟩) <;> first | exact hn.symm | exact absurd h (by decide)
  · rw [show setN 122 n i = ixx (ax i) (ay i) n from rfl, env_ixx (st3_of hx hy hv)]
    refine tru_sub (c := 122) (by simp) ?_ ?_ t ht
    · rintro d j (⟨rfl, rfl⟩ | ⟨rfl, rfl⟩ | ⟨rfl, rfl⟩) hne <;> first | rfl | exact absurd rfl hne
    · rintro j (⟨h, rfl⟩ | ⟨h, rfl⟩ | ⟨h, rfl⟩) <;> first | exact hn.symm | exact absurd h (by decide)
theorem asg_sub {c : UInt8} (hc : c = 120 ∨ c = 121 ∨ c = 122) {t u : Tm} (ht : Ok false true t) (hu : Ok false false u) :
    bs (tb (fun i => hs (bs (tb (tst t))).data.toList (asg c u i))) = bs (tb (tst (tms c u t))) := by
  rw [tb_congr (F := fun i => hs (bs (tb (tst t))).data.toList (asg c u i)) (G := tst (tms c u t)) fun i hi => ?_]
  rw [u_hs _ _ (asg_lt hu hi)]
  exact (tst_sub hc ht hu hi).symm

theorem letterAt {V : ByteArray} (h : IsVar V) : ∃ (c : UInt8) (i : Nat), (c = 120 ∨ c = 121 ∨ c = 122) ∧ ((c = 120 ∧ i = 0) ∨ (c = 121 ∧ i = 1) ∨ (c = 122 ∧ i = 2)) ∧ V = ⟨#[c]⟩ := by
  rcases h with rfl | rfl | rfl
  · exact ⟨120, 0, by simp, by simp, rfl⟩
  · exact ⟨121, 1, by simp, by simp, rfl⟩
  · exact ⟨122, 2, by simp, by simp, rfl⟩

theorem su_cases (s v y : ByteArray) (m0 : Int) (hm : v.size ≤ maxLen) :
    ((∀ w, w.cell? ⟨1, 0, none⟩ = some (.int .i64 m0) → Hid (Calls Tryd.prog 17 #[.string s, .string v, .string y] w fun e w' => e = .returned (.tuple #[.string (bs []), .bool false]) ∧ Below w.heap.size w w')) ∧ (∀ w, Hid (Calls Tryd.prog 18 #[.string s, .string v, .string y] w fun e w' => e = .returned (.tuple #[.string (bs []), .bool false]) ∧ Below w.heap.size w w'))) ∨
    ∃ (c : UInt8) (t u : Tm) (x : ByteArray), (c = 120 ∨ c = 121 ∨ c = 122) ∧ v = ⟨#[c]⟩ ∧ Ok false true t ∧ s.data.toList = t.ser ∧ s.size ≤ 200 ∧ Ok false false u ∧ y.data.toList = u.ser ∧ y.size ≤ 200 ∧ x.data.toList = (tms c u t).ser ∧ x.size ≤ 200 ∧ (c ∉ t.ser → x = s) ∧
      (∀ w, w.cell? ⟨1, 0, none⟩ = some (.int .i64 m0) → Hid (Calls Tryd.prog 17 #[.string s, .string v, .string y] w fun e w' => e = .returned (.tuple #[.string x, .bool true]) ∧ Below w.heap.size w w')) ∧ (∀ w, Hid (Calls Tryd.prog 18 #[.string s, .string v, .string y] w fun e w' => e = .returned (.tuple #[.string x, .bool true]) ∧ Below w.heap.size w w')) := by
  by_cases hs : Valid false true s.data.toList ∧ s.size ≤ 200
  · by_cases hy : Valid false false y.data.toList ∧ y.size ≤ 200
    · by_cases hv : IsVar v
      · obtain ⟨c, i, hc, hi, rfl⟩ := letterAt hv
        by_cases hr : (bs (sub1 c y.data.toList s.data.toList)).size ≤ 200
        · have e := cut_short hr
          obtain ⟨t, ht, hst⟩ := hs.1
          obtain ⟨u, hu, hyu⟩ := hy.1
          have hx : (bs (sub1 c y.data.toList s.data.toList)).data.toList = (tms c u t).ser := by rw [show (bs (sub1 c y.data.toList s.data.toList)).data.toList = sub1 c y.data.toList s.data.toList by simp [bs], tms_ser hc u t _ ht, hst, hyu]
          refine .inr ⟨c, t, u, _, hc, rfl, ht, hst, hs.2, hu, hyu, hy.2, hx, hr, fun hn => ?_, fun w h => implSubTest _ s _ y w m0 h ⟨_, _, rfl⟩ (fun w h => e ▸ sub_yes true s y c m0 w h hs.1 hs.2 hv hy.1 hy.2), fun w => e ▸ specSubTest_yes s y c w hs.1 hs.2 hi hy.1 hy.2⟩
          apply ByteArray.ext
          rw [tms_none t hn] at hx
          exact Array.toList_inj.1 (hx.trans hst.symm)
        · have e := cut_long hr
          exact .inl ⟨fun w h => implSubTest _ s _ y w m0 h ⟨_, _, rfl⟩ (fun w h => e ▸ sub_yes true s y c m0 w h hs.1 hs.2 hv hy.1 hy.2), fun w => e ▸ specSubTest_yes s y c w hs.1 hs.2 hi hy.1 hy.2⟩
      · exact .inl ⟨fun w h => implSubTest _ s v y w m0 h ⟨_, _, rfl⟩ (fun w _ => sub_var true s v y w hs.1 hs.2 hm hv), fun w => specSubTest_var s v y w hs.1 hs.2 hy.1 hy.2 hm hv⟩
    · refine .inl ⟨fun w h => ?_, fun w => specSubTest_by s v y w hs.1 hs.2 hy⟩
      by_cases hv : IsVar v
      · exact implSubTest _ s v y w m0 h ⟨_, _, rfl⟩ (fun w _ => sub_by true s v y w hs.1 hs.2 hv hy)
      · exact implSubTest _ s v y w m0 h ⟨_, _, rfl⟩ (fun w _ => sub_var true s v y w hs.1 hs.2 hm hv)
  · exact .inl ⟨fun w h => implSubTest _ s v y w m0 h ⟨_, _, rfl⟩ (fun w _ => sub_text true s v y w hs), fun w => specSubTest_text s v y w hs⟩

set_option maxRecDepth 100000 in
set_option maxHeartbeats 16000000 in
theorem walkSubstPred {a0 : Option Addr} {len0 cap0 : Nat} {z0 : List Int} (w : World) (h0 : IsRow w a0 len0 cap0 z0) (m0 : Int) (hm0 : w.cell? ⟨1, 0, none⟩ = some (.int .i64 m0)) :
    Calls Tryd.prog 6 #[.slice a0 len0 cap0] w fun e w' => e = .returned (.bool true) ∧ Below w.heap.size w w' := by
  have D := Lib.hid (drawSuX h0)
  have HM := Lib.hid hm0
  clear h0 hm0
  by_cases hl : (1048576 : Int) < len0
  · go_enter Tryd.func6, Tryd.ntmps6
    go_wp2_with fail
    go_ret
    exact ⟨rfl, Below.refl _ _⟩
  · go_enter Tryd.func6, Tryd.ntmps6
    go_wp2_with fail
    refine D.out.mono ?_
    rintro e w1 ⟨s, v, y, s1, v1, y1, rfl, hb⟩
    have HB1 := Lib.hid hb
    clear hb D
    rcases su_cases s v y m0 (Nat.le_trans v1 (by decide)) with ⟨C1, C2⟩ | ⟨c, t, u, x, hc, rfl, ht, hst0, hsl, hu, hyu, hyl, hx, hxl, hsame, C1, C2⟩
    · clear s1 v1 y1
      go_wp2_with fail
      refine (C1 _ (cell_keep2 HB1.out HM.out)).out.mono ?_
      rintro e w2 ⟨rfl, hb⟩
      have HB2 := Lib.hid (bnext HB1.out hb)
      clear hb
      go_wp2_with fail
      refine (C2 _).out.mono ?_
      rintro e w3 ⟨rfl, hb⟩
      have HB3 := Lib.hid (bnext HB2.out hb)
      clear hb
      go_wp2_with fail
      go_ret
      exact ⟨rfl, HB3.out⟩
    · clear s1 v1 y1
      have S1 := fun w => Lib.hid (ppSet_of s _ true (fun w => Lib.hid (implPredOf_yes s w ht hst0 hsl)) w)
      have S2 := fun w => Lib.hid (ppSet_of x _ true (fun w => Lib.hid (implPredOf_yes x w (tms_ok hc hu t true ht) hx hxl)) w)
      have A := fun w => Lib.hid (implApre_yes (bs (tb (tst t))) ⟨#[c]⟩ y w c (u_set _) rfl hc hu hyu hyl)
      rw [asg_sub hc ht hu] at A
      generalize bs (tb (tst t)) = P at *
      generalize bs (tb (tst (tms c u t))) = Q at *
      clear hc ht hst0 hsl hu hyu hyl hx hxl hsame
      go_wp2_with fail
      refine (C1 _ (cell_keep2 HB1.out HM.out)).out.mono ?_
      rintro e w2 ⟨rfl, hb⟩
      have HB2 := Lib.hid (bnext HB1.out hb)
      clear hb
      go_wp2_with fail
      refine (C2 _).out.mono ?_
      rintro e w3 ⟨rfl, hb⟩
      have HB3 := Lib.hid (bnext HB2.out hb)
      clear hb
      go_wp2_with fail
      refine (S1 _).out.mono ?_
      rintro e w4 ⟨rfl, hb⟩
      have HB4 := Lib.hid (bnext HB3.out hb)
      clear hb
      go_wp2_with fail
      refine (A _).out.mono ?_
      rintro e w5 ⟨rfl, hb⟩
      have HB5 := Lib.hid (bnext HB4.out hb)
      clear hb
      go_wp2_with fail
      refine (S2 _).out.mono ?_
      rintro e w6 ⟨rfl, hb⟩
      have HB6 := Lib.hid (bnext HB5.out hb)
      clear hb
      go_wp2_with fail
      go_ret
      exact ⟨rfl, HB6.out⟩

/-- THE WITNESS: the settled world, the tables holding what their initialisers lay. -/
noncomputable def laidWorld (os : Os) : World :=
  let w0 := World.holding Tryd.prog os ⟨#[], #[], []⟩
  let put (h : Array Obj) (g : Nat) (cs : Array Value) : Array Obj := h.modify g fun
    | .cells _ t frozen => .cells cs t frozen
    | o => o
  let h1 := put w0.heap (1 + 1) (Go.Pinned.utf8FirstZ.map fun (z : Nat) => Value.int .u8 (z : Int)).toArray
  let h2 := put h1 (1 + 2) #[.int .u8 128, .int .u8 191, .int .u8 160, .int .u8 191, .int .u8 128, .int .u8 159, .int .u8 144, .int .u8 191, .int .u8 128, .int .u8 143, .int .u8 0, .int .u8 0, .int .u8 0, .int .u8 0, .int .u8 0, .int .u8 0, .int .u8 0, .int .u8 0, .int .u8 0, .int .u8 0, .int .u8 0, .int .u8 0, .int .u8 0, .int .u8 0, .int .u8 0, .int .u8 0, .int .u8 0, .int .u8 0, .int .u8 0, .int .u8 0, .int .u8 0, .int .u8 0]
  { w0 with heap := h2 }
def wargs : Array Value := #[.slice none 0 0]
theorem laid_met (os : Os) : laidMet Tryd.prog Rows.fnSubstPredRow.laid ((laidWorld os).forCall (fun _ _ => 0) ⟨#[], wargs, []⟩).memory :=
  laidMet_of_run3 8 (by kernel_rfl) (by kernel_rfl) (by kernel_rfl)

theorem witness_row (os : Os) {H : Type} (enc : TypeId × Value → H) :
    (OpenSpec.ofChange Rows.fnSubstPredSpec).preRow enc Tryd.prog Tryd.f6 Rows.fnSubstPredRow.domain false Rows.fnSubstPredRow.laid ((laidWorld os).forCall (fun _ _ => 0) ⟨#[], wargs, []⟩).memory wargs := by
  have hw : (DataW.whole enc Tryd.prog ((laidWorld os).forCall (fun _ _ => 0) ⟨#[], wargs, []⟩).memory Tryd.f6.params.toList (OpenSpec.ofChange Rows.fnSubstPredSpec).vars false wargs.toList 8).map (fun x => (x.1, x.2.1)) =
      some ([.nil], []) := by kernel_rfl
  obtain ⟨⟨x1, x2, x3⟩, hx, hx1⟩ := Option.map_eq_some_iff.1 hw
  simp only [Prod.mk.injEq] at hx1
  obtain ⟨rfl, rfl⟩ := hx1
  exact OpenSpec.preRow_of_cond 8 hx (by kernel_rfl) (fun k hk => by cases hk) (by kernel_rfl) (laid_met os)

set_option linter.unusedVariables false in
set_option maxRecDepth 100000 in
set_option maxHeartbeats 2000000 in
theorem lifted (os : Os) (started : os.Started) (H : Type) (enc : TypeId × Value → H) (F : Stop.Interp) :
    ReturnsInHanded {} Tryd.checked os 6 .any ((OpenSpec.ofChange Rows.fnSubstPredSpec).preRow enc Tryd.prog Tryd.f6 Rows.fnSubstPredRow.domain false Rows.fnSubstPredRow.laid) (((OpenSpec.ofChange Rows.fnSubstPredSpec).at F).post enc Tryd.prog Tryd.f6 false true false false) := by
  refine returnsInHanded_of_row (C := Tryd.checked) (s := OpenSpec.ofChange Rows.fnSubstPredSpec) Tryd.own started (by kernel_rfl) Tryd.func6
    (witness_row_atRef (enc := enc) (C := Tryd.checked) false (laidWorld os) wargs rfl (by kernel_rfl) (by kernel_rfl) (by kernel_rfl) (witness_row os enc)) ?_
  intro W base args ds gs before hval0 hW _ _ _ _ hsh _
  have hval : ∀ (j : Nat) t v, Tryd.f6.params[j]? = some t → args[j]? = some v → Value.okWide Tryd.prog W .any base t v := hval0
  have hW' := hW
  obtain ⟨p, q, hA0, hV, rfl, _, _⟩ := hW
  have hA : DataW.TrodAll enc Tryd.prog W 0 (fun _ => true) true Tryd.f6.params.toList args.toList ds p := hA0
  rw [Tryd.params6] at hA hval
  obtain ⟨v0, vs0, d0, ds0, p0, q0, hargs, rfl, rfl, h0, r0⟩ := trodAll_cons hA
  obtain ⟨rfl, rfl, rfl⟩ := trodAll_nil r0
  obtain rfl : args = #[v0] := by cases args; simp_all
  obtain ⟨rfl, rfl⟩ := trodVars_none hV
  obtain ⟨a0, len0, cap0, rfl⟩ := okWide_slice Tryd.underlying22 (hval 0 22 v0 rfl rfl)
  have k0 := h0
  have lt0 : ∀ x ∈ p0, x.block < W.heap.size := by obtain ⟨m, hm⟩ := k0; exact DataW.trod_lt m _ _ _ hm
  obtain ⟨z0, w0⟩ : ∃ zs, IsRow W a0 len0 cap0 zs := by
    obtain ⟨fuel, hf⟩ := h0
    rcases open_ints Tryd.underlying22 Tryd.underlying5 (by kernel_rfl) hf with ⟨hcs, _⟩ | ⟨x, l, c, zs, hcs, _, hl, hm, hz, _, hcell, hwz⟩
    · simp [Value.cells] at hcs
      obtain ⟨rfl, rfl, rfl⟩ := hcs
      exact ⟨[], .inl ⟨rfl, rfl, rfl, rfl⟩⟩
    · simp [Value.cells] at hcs
      obtain ⟨rfl, rfl, rfl⟩ := hcs
      exact ⟨zs, .inr ⟨_, rfl, hl, hm, by simpa using hz, hcell, hwz⟩⟩
  clear hA0 hval0
  obtain ⟨m, hm⟩ := Tryd.laysM155.s1_3 W hsh
  refine (walkSubstPred W w0 m hm).mono fun e W' ⟨he, bel⟩ => ?_
  subst he
  have e1 : ((OpenSpec.ofChange Rows.fnSubstPredSpec).at F).fn H ([d0] ++ []) = { results := [.lit (.bool true)], args := [d0] } := rfl
  refine ⟨_, rfl, _, _, _, [], p0 ++ [], [], hW', ?_, ?_, ?_, bel.frame _, fun h => by cases h⟩
  · rw [e1]; exact trodAll_mk1 (shut_bool Tryd.underlying4 true)
  · rw [e1]; exact (trodAll_cons_mk (Below.trod laidOut (by kernel_rfl) (of_decide_eq_true (by kernel_rfl)) k0 bel lt0) trodAll_mk0)
  · rw [e1]; rfl

theorem said : Rows.FnSubstPredSaid :=
  OpenClaim.holds_of_cond 6 Tryd.f6 rfl rfl rfl rfl rfl rfl rfl ⟨rfl, rfl, rfl, rfl, rfl⟩ rfl rfl rfl rfl rfl (by kernel_rfl) Tryd.func6 (by kernel_rfl)
    (of_decide_eq_true (by kernel_rfl)) (by unfold Func.isWrapper; first | (rw [if_pos (by decide +kernel)]; kernel_rfl) | (rw [if_neg (by decide +kernel)]; exact ⟨rfl, rfl⟩))
    (fun os started H enc _ F => by rw [OpenClaim.pre_eq_preRow]; exact lifted os started H enc F)

theorem plain (f : FuncId) (fn : Func) (hf : Tryd.pinned.checked.prog.funcNamed Rows.fnSubstPredRow.func = some f) (hfn : Tryd.pinned.checked.prog.funcs[f]? = some fn) :
    false = Tryd.pinned.checked.prog.looks [] ∧ ∀ (j : Nat) t, fn.params[j]? = some t → Tryd.pinned.checked.prog.wantsStandIn t = false := by
  obtain rfl : f = 6 := Option.some.inj ((show Tryd.prog.funcNamed Rows.fnSubstPredRow.func = some 6 by kernel_rfl).symm.trans hf) |>.symm
  obtain rfl : fn = Tryd.f6 := (Option.some.inj (Tryd.func6.symm.trans hfn)).symm
  refine ⟨by kernel_rfl, fun j t ht => ?_⟩
  rw [Tryd.params6] at ht
  obtain rfl : t = 22 := by
    have := Array.mem_of_getElem? ht
    simpa using this
  exact (show Tryd.prog.wantsStandIn 22 = false by kernel_rfl)

theorem substPred_card : Rows.FnSubstPredCardSaid :=
  Claim7.holds_tied_plain_at .later [] _ _ _ _ said (fun _ h => by cases h) (by kernel_rfl) (fun _ h => by cases h) fnSubstPred_row_tie rfl ⟨rfl, rfl⟩ (by kernel_rfl) rfl plain (by kernel_rfl)

#print axioms substPred_card
end Go.Proofs.YtknjoadicdijdaaDoor
