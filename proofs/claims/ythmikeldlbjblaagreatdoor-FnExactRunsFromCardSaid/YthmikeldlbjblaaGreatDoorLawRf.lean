/-
  The law of RunsFrom is true at all texts and states: no condition. The card.
-/
import Derived.Test.YthmikeldlbjblaaGreatDoorCards
import Derived.Test.YthmikeldlbjblaaGreatDoorTie
import Derived.Test.YthmikeldlbjblaaGreatDoorRf2
import Derived.ProofKit
import Derived.Lib.SmallJoins
import Derived.ChangeSame
import Derived.JoinedOf
import Derived.JoinedAt
import Derived.RowKit3
import Derived.ShutString
import Derived.OpenShut
import Derived.LaidMore
import Derived.Lay
import Derived.SevenTiedAt
import Derived.Stop.Joined
namespace Go.Proofs.YthmikeldlbjblaaGreatDoor
open Go.ChangeShapes Go.WideShapes Go.ChangeAt Go.RowKit Go.Joins
open Go.WideMaps Go.WideElems Tm
open Go.ChangeMaps (open_string shut_string)

set_option maxHeartbeats 1000000 in
theorem eqRes (a : ByteArray) (b c : Bool) (w : World) : Calls Tryz.prog 29 #[.agg #[.string a, .bool b, .bool c], .agg #[.string a, .bool b, .bool c]] w fun e w' => e = .returned (.bool true) ∧ Below w.heap.size w w' := by
  go_enter Tryz.func29, Tryz.ntmps29
  go_wp2_with fail
  go_ret
  exact ⟨rfl, ((Below.refl _ _).alloc (Nat.le_refl _) _).alloc (by simp) _⟩

set_option maxRecDepth 100000 in
set_option maxHeartbeats 4000000 in
theorem law_of (r0 : ByteArray) (r1 r2 r3 : Bool) (s0 : ByteArray) (x1 y1 z1 : Int) (w : World)
    (c1 : ∀ w, Calls Tryz.prog 26 #[.string s0, .agg #[.int .i64 x1, .int .i64 y1, .int .i64 z1]] w fun e w' => e = .returned (.tuple #[.agg #[.string r0, .bool r1, .bool r2], .bool r3]) ∧ Below w.heap.size w w')
    (c2 : ∀ w, Calls Tryz.prog 28 #[.string s0, .agg #[.int .i64 x1, .int .i64 y1, .int .i64 z1]] w fun e w' => e = .returned (.tuple #[.agg #[.string r0, .bool r1, .bool r2], .bool r3]) ∧ Below w.heap.size w w') :
    Calls Tryz.prog 9 #[.string s0, .agg #[.int .i64 x1, .int .i64 y1, .int .i64 z1]] w fun e w' => e = .returned (.bool true) ∧ Below w.heap.size w w' := by
  have C1 := Lib.hid c1
  have C2 := Lib.hid c2
  clear c1 c2
  by_cases hl0 : (s0.size : Int) ≤ 1048576
  · go_enter Tryz.func9, Tryz.ntmps9
    go_wp2_with fail
    have t0 := Blk.new w #[.int .i64 x1, .int .i64 y1, .int .i64 z1] 29
    have hB := (Below.refl _ w).alloc (Nat.le_refl _) (.cells #[.int .i64 x1, .int .i64 y1, .int .i64 z1] 29)
    generalize w.alloc (.cells #[.int .i64 x1, .int .i64 y1, .int .i64 z1] 29) = w0 at *
    have HB0 := Lib.hid hB
    have HT0 := Lib.hid t0
    clear hB t0
    refine (lawToState _ _ _ _).mono ?_
    rintro e w1 ⟨rfl, hb⟩
    have HB1 := Lib.hid (bmore HB0.out HB0.out.size hb)
    have HT1 := Lib.hid (HT0.out.kept hb)
    clear hb
    go_wp2_with fail
    refine (C1.out _).mono ?_
    rintro e w2 ⟨rfl, hb⟩
    have HB2 := Lib.hid (bmore HB1.out HB1.out.size hb)
    have HT2 := Lib.hid (HT1.out.kept hb)
    clear hb
    have U2 := Lib.hid (Blk.new w2 #[.string r0, .bool r1, .bool r2] 31)
    have bx := (Below.refl w2.heap.size w2).alloc (Nat.le_refl _) (.cells #[.string r0, .bool r1, .bool r2] 31)
    have HB2a := Lib.hid (bmore HB2.out HB2.out.size bx)
    have HT2a := Lib.hid (HT2.out.kept bx)
    obtain ⟨q0, q1, q2⟩ := HT2a.out.c3
    clear bx
    go_wp2_with fail
    generalize w2.alloc (.cells #[.string r0, .bool r1, .bool r2] 31) = w2a at *
    clear q0 q1 q2
    refine (lawToState _ _ _ _).mono ?_
    rintro e w3 ⟨rfl, hb⟩
    have HB3 := Lib.hid (bmore HB2a.out HB2a.out.size hb)
    have U3 := Lib.hid (U2.out.kept hb)
    clear hb
    go_wp2_with fail
    refine (C2.out _).mono ?_
    rintro e w4 ⟨rfl, hb⟩
    have HB4 := Lib.hid (bmore HB3.out HB3.out.size hb)
    have U4 := Lib.hid (U3.out.kept hb)
    clear hb
    have bx := (Below.refl w4.heap.size w4).alloc (Nat.le_refl _) (.cells #[.string r0, .bool r1, .bool r2] 31)
    have HB4a := Lib.hid (bmore HB4.out HB4.out.size bx)
    obtain ⟨q0, q1, q2⟩ := U4.out.c3
    have hlt := U4.out.lt
    clear bx
    go_wp2_with fail
    refine (eqRes r0 r1 r2 _).mono ?_
    rintro e w6 ⟨rfl, hb⟩
    have HB6 := Lib.hid (bmore HB4a.out HB4a.out.size hb)
    clear hb
    cases r3
    all_goals
      go_wp2_with fail
      go_ret
      exact ⟨rfl, HB6.out⟩
  · go_enter Tryz.func9, Tryz.ntmps9
    go_wp2_with fail
    go_ret
    exact ⟨rfl, (Below.refl _ _).alloc (Nat.le_refl _) _⟩

theorem walkExactRunsFrom (s : ByteArray) (x y z : Int) (w : World) (_hs : s.size ≤ maxLen) :
    Calls Tryz.prog 9 #[.string s, .agg #[.int .i64 x, .int .i64 y, .int .i64 z]] w fun e w' => e = .returned (.bool true) ∧ Below w.heap.size w w' := by
  by_cases h : PV s
  · have hh := h
    obtain ⟨⟨p, hp, hs⟩, hl⟩ := h
    obtain rfl := bs_ofP hs
    have lp : p.ser.length ≤ 200 := by rwa [bs_size] at hl
    cases hst : st3 x y z with
    | false => exact law_of _ _ _ _ _ x y z w (fun w => specRf_noB _ x y z w hh hst) (fun w => implRf_no _ x y z w fun w => readStart_noB _ x y z w hp hs hl hst)
    | true =>
      obtain ⟨hx0, hx1, hy0, hy1, hz0, hz1⟩ := st3_lt hst
      have hi : (((x + 3 * y + 9 * z).toNat : Nat) : Int) = x + 3 * y + 9 * z := by omega
      exact law_of _ _ _ _ _ x y z w (fun w => specRf_yes p x y z _ w hp lp hst hi) (fun w => implRf_yes _ x y z _ w hp hs hl hst hi)
  · exact law_of _ _ _ _ _ x y z w (fun w => specRf_noA s x y z w h) (fun w => implRf_no s x y z w fun w => readStart_noA s x y z w h)


theorem Tryz.own : ownKnob Tryz.prog.godebug = none := by kernel_rfl
theorem cellsSt : Tryz.prog.cellsOf 29 = 3 := by kernel_rfl

set_option maxRecDepth 100000 in
set_option maxHeartbeats 2000000 in
theorem lifted (os : Os) (started : os.Started) (H : Type) (enc : TypeId × Value → H) :
    ReturnsInHanded {} Tryz.checked os 9 .any (fun w args => (Rows.fnExactRunsFromSpec.pre enc Tryz.prog Tryz.f9 Rows.fnExactRunsFromRow.domain false w args ∧ laidMetH Tryz.prog Rows.fnExactRunsFromRow.laid w) ∧ sizedMet enc Tryz.prog Tryz.f9 (OpenSpec.ofChange Rows.fnExactRunsFromSpec) false w args)
      (Rows.fnExactRunsFromSpec.post enc Tryz.prog Tryz.f9 false true false false) := by
  refine returnsInHanded_of_change_and (C := Tryz.checked) (X := fun w _ => laidMetH Tryz.prog Rows.fnExactRunsFromRow.laid w) (fun _ _ _ hh h => h.of_heap hh) Tryz.own started (by kernel_rfl) Tryz.func9
    (ChangeSpec.witness_shaped (enc := enc) (C := Tryz.checked) (os := os) (X := fun w _ => laidMetH Tryz.prog Rows.fnExactRunsFromRow.laid w) false (World.laidAll Tryz.prog os Rows.fnExactRunsFromRow.laid) #[.string ByteArray.empty, .agg #[.int .i64 0, .int .i64 0, .int .i64 0]] 8 (World.laidAll_os _ _ _)
      (World.shaped_of_ZipB (by kernel_rfl) (by kernel_rfl)) (by kernel_rfl) (by kernel_rfl) (by kernel_rfl)
      (by rw [MakeChecks.laidMetH_plain _ _ _ (by kernel_rfl)]; exact laidMet_laidAll _ (by kernel_rfl) (by kernel_rfl))) ?_
  intro W base args ds gs before hval0 hW _ _ hL _
  have hval : ∀ (j : Nat) t v, Tryz.f9.params[j]? = some t → args[j]? = some v → Value.okWide Tryz.prog W .any base t v := hval0
  have hW' := hW
  obtain ⟨p, q, hA0, hV, rfl, _, _⟩ := hW
  have hA : DataW.TrodAll enc Tryz.prog W 0 (fun _ => true) true Tryz.f9.params.toList args.toList ds p := hA0
  rw [Tryz.params9] at hA hval
  obtain ⟨v0, v1, d0, d1, p0, p1, rfl, rfl, rfl, h0, h1⟩ := trodAll_two hA
  obtain ⟨rfl, rfl⟩ := trodVars_none hV
  obtain ⟨s0, rfl, rfl, rfl, hs0⟩ := open_string Tryz.underlying9 (hval 0 9 v0 rfl rfl) h0
  obtain ⟨ca1, cb1, cc1, ya1, yb1, yc1, m1, rfl, rfl, rfl, hya1, hyb1, hyc1⟩ := open_agg3 Tryz.underlying29 (by kernel_rfl) cellsSt (hval 1 29 v1 rfl rfl) h1
  obtain ⟨x1, ea1, rfl, wx1⟩ := DataW.trod_int Tryz.underlying3 hya1
  obtain ⟨y1, eb1, rfl, wy1⟩ := DataW.trod_int Tryz.underlying3 hyb1
  obtain ⟨z1, ec1, rfl, wz1⟩ := DataW.trod_int Tryz.underlying3 hyc1
  simp at ea1 eb1 ec1
  subst ea1 eb1 ec1
  have rd1 : ∀ (W' : World) (sp : Nat → Bool), DataW.Trod enc Tryz.prog W' 0 sp true 29 (.agg #[.int .i64 x1, .int .i64 y1, .int .i64 z1]) (.agg [.lit (.int .i64 x1), .lit (.int .i64 y1), .lit (.int .i64 z1)]) [] := fun W' sp =>
    shut_agg3 (y0 := (.lit (.int .i64 x1), [])) (y1 := (.lit (.int .i64 y1), [])) (y2 := (.lit (.int .i64 z1), [])) Tryz.underlying29 (by kernel_rfl) cellsSt ⟨1, by simp [DataW.trod, Tryz.underlying3, wx1]⟩ ⟨1, by simp [DataW.trod, Tryz.underlying3, wy1]⟩ ⟨1, by simp [DataW.trod, Tryz.underlying3, wz1]⟩
  clear hA0 hval0
  simp only [List.append_nil] at hW'
  refine (walkExactRunsFrom s0 x1 y1 z1 W hs0).mono fun e W' ⟨he, hb⟩ => ?_
  subst he
  refine ⟨_, rfl, _, _, _, [], [], [], hW', ?_, ?_, ?_, hb.frame _, fun h => by cases h⟩
  · exact trodAll_mk1 (shut_bool Tryz.underlying4 true)
  · exact trodAll_mk2 (shut_string Tryz.underlying9 hs0) (rd1 _ _)
  · rfl

-- each of the three walks over the program by itself: together they are too much for the kernel's memory
theorem jf1 : (Rows.fnExactRunsFromRow.inPlace == Tryz.prog.inPlace 9) = true := by kernel_rfl
theorem jf2 : (Rows.fnExactRunsFromRow.unfollowed == Tryz.prog.unfollowed 9) = true := by kernel_rfl
theorem jf3 : (Rows.fnExactRunsFromRow.recurses == Tryz.prog.recurses 9) = true := by kernel_rfl
theorem jf4 : (Rows.fnExactRunsFromRow.named == Tryz.prog.varsNamed 9) = true := by kernel_rfl
theorem jf5 : laidOutB Tryz.prog = true := by kernel_rfl
theorem jf6 : mapsRowed Tryz.prog = true := by kernel_rfl
theorem jf7 : Tryz.prog.stopsHeard = true := by kernel_rfl
theorem jg : false = (Rows.fnExactRunsFromRow).goesBy Tryz.pinned.checked.prog := by kernel_rfl
theorem closed : joinedFacts Tryz.prog 9 Tryz.f9 Rows.fnExactRunsFromSpec Rows.fnExactRunsFromRow = true := by
  unfold joinedFacts
  rw [jf1, jf2, jf3, jf4, jf5, jf6, jf7]
  kernel_rfl

theorem said : Rows.FnExactRunsFromSaid :=
  OpenClaim.holds_of_wide 9 Tryz.f9 rfl rfl rfl rfl rfl rfl rfl ⟨rfl, rfl, rfl, rfl, rfl⟩ rfl rfl rfl rfl rfl (by kernel_rfl) Tryz.func9 closed
    (of_decide_eq_true (by kernel_rfl)) (by unfold Func.isWrapper; first | (rw [if_pos (by decide +kernel)]; kernel_rfl) | (rw [if_neg (by decide +kernel)]; exact ⟨rfl, rfl⟩))
    (fun os started H enc _ => by rw [OpenClaim.pre_eq_preRow]; exact lifted os started H enc)

theorem plain (f : FuncId) (fn : Func) (hf : Tryz.pinned.checked.prog.funcNamed Rows.fnExactRunsFromRow.func = some f) (hfn : Tryz.pinned.checked.prog.funcs[f]? = some fn) :
    true = Tryz.pinned.checked.prog.looks [] ∧ ∀ (j : Nat) t, fn.params[j]? = some t → Tryz.pinned.checked.prog.wantsStandIn t = false := by
  obtain rfl : f = 9 := Option.some.inj ((show Tryz.prog.funcNamed Rows.fnExactRunsFromRow.func = some 9 by kernel_rfl).symm.trans hf) |>.symm
  obtain rfl : fn = Tryz.f9 := (Option.some.inj (Tryz.func9.symm.trans hfn)).symm
  refine ⟨by kernel_rfl, fun j t ht => ?_⟩
  rw [Tryz.params9] at ht
  have hm : t ∈ [9, 29] := by simpa using Array.mem_of_getElem? ht
  have hall : ([9, 29].all fun u => !Tryz.prog.wantsStandIn u) = true := by kernel_rfl
  exact (show Tryz.prog.wantsStandIn t = false by simpa using List.all_eq_true.1 hall t hm)

theorem exactRunsFrom_card : Rows.FnExactRunsFromCardSaid :=
  Claim7.holds_tied_plain_at .later [] _ _ _ _ said (fun _ h => by cases h) (by kernel_rfl) (fun _ h => by cases h) fnExactRunsFrom_row_tie rfl ⟨rfl, rfl⟩ (by kernel_rfl) rfl plain jg

#print axioms exactRunsFrom_card
end Go.Proofs.YthmikeldlbjblaaGreatDoor
