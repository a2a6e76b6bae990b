/-
  The law of FirstPair is true at every text: no condition. The card.
-/
import Derived.Test.YtinillnccfgooaaDoorCards
import Derived.Test.YtinillnccfgooaaDoorTie
import Derived.Test.YtinillnccfgooaaDoorFpP
import Derived.Test.YtinillnccfgooaaDoorTabL
import Derived.ProofKit
import Derived.Lib.SmallJoins
import Derived.ChangeSame
import Derived.JoinedOf
import Derived.JoinedAt
import Derived.RowKit3
import Derived.ShutString
import Derived.OpenShut
import Derived.LaidMore
import Derived.Lay
import Derived.SevenTiedAt
import Derived.Stop.Joined
namespace Go.Proofs.YtinillnccfgooaaDoor
open Go.ChangeShapes Go.WideShapes Go.ChangeAt Go.RowKit Go.Joins
open Go.WideMaps Go.WideElems
open Go.ChangeMaps (open_string shut_string)

set_option maxHeartbeats 1000000 in
theorem eqSame (p q r : Int) (w : World) : Calls Tryd.prog 35 #[.agg #[.int .i64 p, .int .i64 q, .int .i64 r], .agg #[.int .i64 p, .int .i64 q, .int .i64 r]] w fun e w' => e = .returned (.bool true) ∧ Below w.heap.size w w' := by
  go_enter Tryd.func35, Tryd.ntmps35
  go_wp2_with fail
  go_ret
  exact ⟨rfl, ((Below.refl _ _).alloc (Nat.le_refl _) _).alloc (by simp) _⟩

set_option maxRecDepth 100000 in
set_option maxHeartbeats 8000000 in
theorem lawFirstPair_of (a0 a1 a2 b0 b1 b2 : Int) (c : Bool) (s : ByteArray) (w : World) (hT : Tab32 w)
    (c1 : ∀ w, Calls Tryd.prog 33 #[.string s] w fun e w' => e = .returned (.tuple #[.agg #[.int .i64 a0, .int .i64 a1, .int .i64 a2], .agg #[.int .i64 b0, .int .i64 b1, .int .i64 b2], .bool c]) ∧ Below w.heap.size w w')
    (c2 : ∀ w, Tab32 w → Calls Tryd.prog 34 #[.string s] w fun e w' => e = .returned (.tuple #[.agg #[.int .i64 a0, .int .i64 a1, .int .i64 a2], .agg #[.int .i64 b0, .int .i64 b1, .int .i64 b2], .bool c]) ∧ Below w.heap.size w w') :
    Calls Tryd.prog 12 #[.string s] w fun e w' => e = .returned (.bool true) ∧ Below w.heap.size w w' := by
  have C1 := Lib.hid c1
  have C2 := Lib.hid c2
  have HT := Lib.hid hT
  clear c1 c2 hT
  by_cases hl : (s.size : Int) ≤ 1048576
  · go_enter Tryd.func12, Tryd.ntmps12
    go_wp2_with fail
    refine (C1.out _).mono ?_
    rintro e w1 ⟨rfl, hb⟩
    obtain ⟨u1, u2, ub, uz⟩ := two_blk w1 #[.int .i64 a0, .int .i64 a1, .int .i64 a2] #[.int .i64 b0, .int .i64 b1, .int .i64 b2] 32 32
    have U1 := Lib.hid u1
    have U2 := Lib.hid u2
    have HB := Lib.hid (bnext hb ub)
    clear hb u1 u2 ub uz
    go_wp2_with fail
    generalize (w1.alloc (.cells #[.int .i64 a0, .int .i64 a1, .int .i64 a2] 32)).alloc (.cells #[.int .i64 b0, .int .i64 b1, .int .i64 b2] 32) = w2 at *
    refine (C2.out _ (HT.out.below HB.out)).mono ?_
    rintro e w3 ⟨rfl, hb⟩
    obtain ⟨v1, v2, vb, vz⟩ := two_blk w3 #[.int .i64 a0, .int .i64 a1, .int .i64 a2] #[.int .i64 b0, .int .i64 b1, .int .i64 b2] 32 32
    have HB2 := Lib.hid (bnext (bnext HB.out hb) vb)
    have X1 := (U1.out.kept hb).kept vb
    have X2 := (U2.out.kept hb).kept vb
    have S1 := Lib.hid X1
    have S2 := Lib.hid X2
    have S3 := Lib.hid v1
    have S4 := Lib.hid v2
    obtain ⟨q0, q1, q2⟩ := X1.c3
    obtain ⟨q6, q7, q8⟩ := v1.c3
    clear hb X1 X2 v1 v2 vb vz U1 U2
    go_wp2_with fail
    generalize (w3.alloc (.cells #[.int .i64 a0, .int .i64 a1, .int .i64 a2] 32)).alloc (.cells #[.int .i64 b0, .int .i64 b1, .int .i64 b2] 32) = w4 at *
    refine (eqSame a0 a1 a2 _).mono ?_
    rintro e w5 ⟨rfl, hb⟩
    have HB3 := Lib.hid (bnext HB2.out hb)
    obtain ⟨q3, q4, q5⟩ := (S2.out.kept hb).c3
    obtain ⟨r3, r4, r5⟩ := (S4.out.kept hb).c3
    clear hb q0 q1 q2 q6 q7 q8
    go_wp2_with fail
    refine (eqSame b0 b1 b2 _).mono ?_
    rintro e w6 ⟨rfl, hb⟩
    have HB4 := Lib.hid (bnext HB3.out hb)
    clear hb q3 q4 q5 r3 r4 r5
    cases c
    all_goals
      go_wp2_with fail
      go_ret
      exact ⟨rfl, HB4.out⟩
  · go_enter Tryd.func12, Tryd.ntmps12
    go_wp2_with fail
    go_ret
    exact ⟨rfl, Below.refl _ _⟩

theorem pf_or (A : Nat → Nat → Bool) : (∃ i j, PFirst A i j) ∨ ∀ k, k < 27 → ∀ m, m < 27 → A k m = false := by
  have h : ∀ n, n ≤ 27 → (∃ i j, PFirst A i j) ∨ ∀ k, k < n → ∀ m, m < 27 → A k m = false := by
    intro n
    induction n with
    | zero => intro _; exact .inr (fun k hk => by omega)
    | succ n ih =>
      intro hn
      rcases ih (by omega) with h | h
      · exact .inl h
      · rcases first_or (A n) with ⟨j, hj⟩ | he
        · exact .inl ⟨n, j, by omega, hj, h⟩
        · refine .inr fun k hk m hm => ?_
          by_cases e : k = n
          · subst e; exact he m hm
          · exact h k (by omega) m hm
  exact h 27 (Nat.le_refl _)

theorem walkFP (s : ByteArray) (w : World) (hs : s.size ≤ maxLen) (hT : Tab32 w) : Calls Tryd.prog 12 #[.string s] w fun e w' => e = .returned (.bool true) ∧ Below w.heap.size w w' := by
  by_cases h : Rel729 s
  · rcases pf_or (relS s.data.toList) with ⟨i, j, hk⟩ | hk
    · exact lawFirstPair_of _ _ _ _ _ _ _ s w hT (fun w => specFP_yes s i j w h hk hs) (fun w hT => implFP_of s _ true _ _ _ _ _ _ _ w hT (fun w => readRel_yes s h w) (fun w hT => rel_first_yes _ i j hk w hT))
    · exact lawFirstPair_of _ _ _ _ _ _ _ s w hT (fun w => specFP_none s w h hk) (fun w hT => implFP_of s _ true _ _ _ _ _ _ _ w hT (fun w => readRel_yes s h w) (fun w hT => rel_first_none _ hk w hT))
  · exact lawFirstPair_of _ _ _ _ _ _ _ s w hT (fun w => specFP_no s w h hs) (fun w hT => implFP_of s _ false _ _ _ _ _ _ _ w hT (fun w => readRel_no s h w) (fun w hT => rel_first_none _ (fun _ _ _ _ => rfl) w hT))

theorem tabs_of {W : World} (hL : laidMetH Tryd.prog Rows.fnExactFirstPairRow.laid W) : Tab32 W := by
  rw [MakeChecks.laidMetH_plain _ _ _ (by kernel_rfl)] at hL
  exact tab_of_laid hL

theorem walkExactFirstPair (s : ByteArray) (w : World) (hs : s.size ≤ maxLen) (hL : laidMetH Tryd.prog Rows.fnExactFirstPairRow.laid w) : Calls Tryd.prog 12 #[.string s] w fun e w' => e = .returned (.bool true) ∧ Below w.heap.size w w' :=
  walkFP s w hs (tabs_of hL)

theorem Tryd.own : ownKnob Tryd.prog.godebug = none := by kernel_rfl

set_option maxRecDepth 100000 in
set_option maxHeartbeats 2000000 in
theorem lifted (os : Os) (started : os.Started) (H : Type) (enc : TypeId × Value → H) :
    ReturnsInHanded {} Tryd.checked os 12 .any (fun w args => (Rows.fnExactFirstPairSpec.pre enc Tryd.prog Tryd.f12 Rows.fnExactFirstPairRow.domain false w args ∧ laidMetH Tryd.prog Rows.fnExactFirstPairRow.laid w) ∧ sizedMet enc Tryd.prog Tryd.f12 (OpenSpec.ofChange Rows.fnExactFirstPairSpec) false w args)
      (Rows.fnExactFirstPairSpec.post enc Tryd.prog Tryd.f12 false true false false) := by
  refine returnsInHanded_of_change_and (C := Tryd.checked) (X := fun w _ => laidMetH Tryd.prog Rows.fnExactFirstPairRow.laid w) (fun _ _ _ hh h => h.of_heap hh) Tryd.own started (by kernel_rfl) Tryd.func12
    (ChangeSpec.witness_shaped (enc := enc) (C := Tryd.checked) (os := os) (X := fun w _ => laidMetH Tryd.prog Rows.fnExactFirstPairRow.laid w) false (World.laidAll Tryd.prog os Rows.fnExactFirstPairRow.laid) #[.string ByteArray.empty] 8 (World.laidAll_os _ _ _)
      (World.shaped_of_ZipB (by kernel_rfl) (by kernel_rfl)) (by kernel_rfl) (by kernel_rfl) (by kernel_rfl)
      (by rw [MakeChecks.laidMetH_plain _ _ _ (by kernel_rfl)]; exact laidMet_laidAll _ (by kernel_rfl) (by kernel_rfl))) ?_
  intro W base args ds gs before hval0 hW _ _ hL _
  have hval : ∀ (j : Nat) t v, Tryd.f12.params[j]? = some t → args[j]? = some v → Value.okWide Tryd.prog W .any base t v := hval0
  have hW' := hW
  obtain ⟨p, q, hA0, hV, rfl, _, _⟩ := hW
  have hA : DataW.TrodAll enc Tryd.prog W 0 (fun _ => true) true Tryd.f12.params.toList args.toList ds p := hA0
  rw [Tryd.params12] at hA hval
  obtain ⟨v0, d0, rfl, rfl, h0⟩ := trodAll_one hA
  obtain ⟨rfl, rfl⟩ := trodVars_none hV
  obtain ⟨s0, rfl, rfl, rfl, hs0⟩ := open_string Tryd.underlying9 (hval 0 9 v0 rfl rfl) h0
  clear hA0 hval0
  simp only [List.append_nil] at hW'
  refine (walkExactFirstPair s0 W hs0 hL).mono fun e W' ⟨he, hb⟩ => ?_
  subst he
  refine ⟨_, rfl, _, _, _, [], [], [], hW', ?_, ?_, ?_, hb.frame _, fun h => by cases h⟩
  · exact trodAll_mk1 (shut_bool Tryd.underlying4 true)
  · exact trodAll_mk1 (shut_string Tryd.underlying9 hs0)
  · rfl

-- each of the three walks over the program by itself: together they are too much for the kernel's memory
theorem jf1 : (Rows.fnExactFirstPairRow.inPlace == Tryd.prog.inPlace 12) = true := by kernel_rfl
theorem jf2 : (Rows.fnExactFirstPairRow.unfollowed == Tryd.prog.unfollowed 12) = true := by kernel_rfl
theorem jf3 : (Rows.fnExactFirstPairRow.recurses == Tryd.prog.recurses 12) = true := by kernel_rfl
theorem closed : joinedFacts Tryd.prog 12 Tryd.f12 Rows.fnExactFirstPairSpec Rows.fnExactFirstPairRow = true := by
  unfold joinedFacts
  rw [jf1, jf2, jf3]
  kernel_rfl

theorem said : Rows.FnExactFirstPairSaid :=
  OpenClaim.holds_of_wide 12 Tryd.f12 rfl rfl rfl rfl rfl rfl rfl ⟨rfl, rfl, rfl, rfl, rfl⟩ rfl rfl rfl rfl rfl (by kernel_rfl) Tryd.func12 closed
    (of_decide_eq_true (by kernel_rfl)) (by unfold Func.isWrapper; first | (rw [if_pos (by decide +kernel)]; kernel_rfl) | (rw [if_neg (by decide +kernel)]; exact ⟨rfl, rfl⟩))
    (fun os started H enc _ => by rw [OpenClaim.pre_eq_preRow]; exact lifted os started H enc)

theorem plain (f : FuncId) (fn : Func) (hf : Tryd.pinned.checked.prog.funcNamed Rows.fnExactFirstPairRow.func = some f) (hfn : Tryd.pinned.checked.prog.funcs[f]? = some fn) :
    true = Tryd.pinned.checked.prog.looks [] ∧ ∀ (j : Nat) t, fn.params[j]? = some t → Tryd.pinned.checked.prog.wantsStandIn t = false := by
  obtain rfl : f = 12 := Option.some.inj ((show Tryd.prog.funcNamed Rows.fnExactFirstPairRow.func = some 12 by kernel_rfl).symm.trans hf) |>.symm
  obtain rfl : fn = Tryd.f12 := (Option.some.inj (Tryd.func12.symm.trans hfn)).symm
  refine ⟨by kernel_rfl, fun j t ht => ?_⟩
  rw [Tryd.params12] at ht
  have hm : t ∈ [9] := by simpa using Array.mem_of_getElem? ht
  have hall : ([9].all fun u => !Tryd.prog.wantsStandIn u) = true := by kernel_rfl
  exact (show Tryd.prog.wantsStandIn t = false by simpa using List.all_eq_true.1 hall t hm)

theorem exactFirstPair_card : Rows.FnExactFirstPairCardSaid :=
  Claim7.holds_tied_plain_at .later [] _ _ _ _ said (fun _ h => by cases h) (by kernel_rfl) (fun _ h => by cases h) fnExactFirstPair_row_tie rfl ⟨rfl, rfl⟩ (by kernel_rfl) rfl plain (by kernel_rfl)

#print axioms exactFirstPair_card
end Go.Proofs.YtinillnccfgooaaDoor
