/-
  The law of JoinedFree is true at all texts: no condition. The card.
-/
import Derived.Test.YtinjmdjnkneidaaGreatDoorCards
import Derived.Test.YtinjmdjnkneidaaGreatDoorTie
import Derived.Test.YtinjmdjnkneidaaGreatDoorPf0
import Derived.ProofKit
import Derived.Lib.SmallJoins
import Derived.ChangeSame
import Derived.JoinedOf
import Derived.JoinedAt
import Derived.RowKit3
import Derived.ShutString
import Derived.OpenShut
import Derived.LaidMore
import Derived.Lay
import Derived.SevenTiedAt
import Derived.Stop.Joined
namespace Go.Proofs.YtinjmdjnkneidaaGreatDoor
open Go.ChangeShapes Go.WideShapes Go.ChangeAt Go.RowKit Go.Joins
open Go.WideMaps Go.WideElems Tm
open Go.ChangeMaps (open_string shut_string)
theorem trodAll_five {H : Type} {enc : TypeId × Value → H} {P : Program} {w : World} {base : Nat} {spare : Nat → Bool} {held : Bool} {t t' t'' t3 t4 : TypeId} {args : Array Value} {ds : List (DataW H)} {ps : List MemPlace} (h : DataW.TrodAll enc P w base spare held [t, t', t'', t3, t4] args.toList ds ps) :
    ∃ v v' v'' v3 v4 d d' d'' d3 d4 p p' p'' p3 p4, args = #[v, v', v'', v3, v4] ∧ ds = [d, d', d'', d3, d4] ∧ ps = p ++ p' ++ p'' ++ p3 ++ p4 ∧ DataW.Trod enc P w base spare held t v d p ∧ DataW.Trod enc P w base spare held t' v' d' p' ∧ DataW.Trod enc P w base spare held t'' v'' d'' p'' ∧ DataW.Trod enc P w base spare held t3 v3 d3 p3 ∧ DataW.Trod enc P w base spare held t4 v4 d4 p4 := by
  obtain ⟨v, vs, d, ds', p, q, hargs, rfl, rfl, hd, hrest⟩ := trodAll_cons h
  obtain ⟨v', vs', d', ds'', p', q', rfl, rfl, rfl, hd', hrest'⟩ := trodAll_cons hrest
  obtain ⟨v'', vs'', d'', dsx, p'', q'', rfl, rfl, rfl, hd'', hrest''⟩ := trodAll_cons hrest'
  obtain ⟨v3, vs3, d3, ds3, p3, q3, rfl, rfl, rfl, hd3, hrest3⟩ := trodAll_cons hrest''
  obtain ⟨v4, vs4, d4, ds4, p4, q4, rfl, rfl, rfl, hd4, hrest4⟩ := trodAll_cons hrest3
  obtain ⟨rfl, rfl, rfl⟩ := trodAll_nil hrest4
  exact ⟨v, v', v'', v3, v4, d, d', d'', d3, d4, p, p', p'', p3, p4, by cases args; simp_all, rfl, by simp, hd, hd', hd'', hd3, hd4⟩
theorem trodAll_mk5 {H : Type} {enc : TypeId × Value → H} {P : Program} {w : World} {base : Nat} {spare : Nat → Bool} {held : Bool} {t t' t'' t3 t4 : TypeId} {v v' v'' v3 v4 : Value} {d d' d'' d3 d4 : DataW H} {p p' p'' p3 p4 : List MemPlace} (h : DataW.Trod enc P w base spare held t v d p) (h' : DataW.Trod enc P w base spare held t' v' d' p')
    (h'' : DataW.Trod enc P w base spare held t'' v'' d'' p'') (h3 : DataW.Trod enc P w base spare held t3 v3 d3 p3) (h4 : DataW.Trod enc P w base spare held t4 v4 d4 p4) : DataW.TrodAll enc P w base spare held [t, t', t'', t3, t4] [v, v', v'', v3, v4] [d, d', d'', d3, d4] (p ++ (p' ++ (p'' ++ (p3 ++ p4)))) := ⟨p, _, h, ⟨p', _, h', trodAll_mk3 h'' h3 h4, rfl⟩, rfl⟩

set_option maxRecDepth 100000 in
set_option maxHeartbeats 4000000 in
theorem law_of (r0 : ByteArray) (r1 : Bool) (s0 s1 s2 s3 s4 : ByteArray) (w : World)
    (c1 : ∀ w, Calls Tryz.prog 30 #[.string s0, .string s1, .string s2, .string s3, .string s4] w fun e w' => e = .returned (.tuple #[.string r0, .bool r1]) ∧ Below w.heap.size w w')
    (c2 : ∀ w, Calls Tryz.prog 31 #[.string s0, .string s1, .string s2, .string s3, .string s4] w fun e w' => e = .returned (.tuple #[.string r0, .bool r1]) ∧ Below w.heap.size w w') :
    Calls Tryz.prog 10 #[.string s0, .string s1, .string s2, .string s3, .string s4] w fun e w' => e = .returned (.bool true) ∧ Below w.heap.size w w' := by
  have C1 := Lib.hid c1
  have C2 := Lib.hid c2
  clear c1 c2
  by_cases hl0 : (s0.size : Int) ≤ 1048576
  · by_cases hl1 : (s1.size : Int) ≤ 1048576
    · by_cases hl2 : (s2.size : Int) ≤ 1048576
      · by_cases hl3 : (s3.size : Int) ≤ 1048576
        · by_cases hl4 : (s4.size : Int) ≤ 1048576
          · go_enter Tryz.func10, Tryz.ntmps10
            go_wp2_with fail
            refine (C1.out _).mono ?_
            rintro e w2 ⟨rfl, hb⟩
            have HB2 := Lib.hid hb
            clear hb
            go_wp2_with fail
            refine (C2.out _).mono ?_
            rintro e w3 ⟨rfl, hb⟩
            have HB3 := Lib.hid (bnext HB2.out hb)
            clear hb
            cases r1
            all_goals
              go_wp2_with fail
              go_ret
              exact ⟨rfl, HB3.out⟩
          · go_enter Tryz.func10, Tryz.ntmps10
            go_wp2_with fail
            go_ret
            exact ⟨rfl, Below.refl _ _⟩
        · go_enter Tryz.func10, Tryz.ntmps10
          go_wp2_with fail
          go_ret
          exact ⟨rfl, Below.refl _ _⟩
      · go_enter Tryz.func10, Tryz.ntmps10
        go_wp2_with fail
        go_ret
        exact ⟨rfl, Below.refl _ _⟩
    · go_enter Tryz.func10, Tryz.ntmps10
      go_wp2_with fail
      go_ret
      exact ⟨rfl, Below.refl _ _⟩
  · go_enter Tryz.func10, Tryz.ntmps10
    go_wp2_with fail
    go_ret
    exact ⟨rfl, Below.refl _ _⟩


theorem jf_spec (s0 s1 s2 s3 s4 y x : ByteArray) (b1 b2 : Bool) (hx : b1 = false → x = ⟨#[]⟩ ∧ b2 = false)
    (c1 : ∀ w, Calls Tryz.prog 17 #[.string s2, .string s3, .string s4] w fun e w' => e = .returned (.tuple #[.string y, .bool b1]) ∧ Below w.heap.size w w')
    (c2 : ∀ w, Calls Tryz.prog 17 #[.string s0, .string s1, .string y] w fun e w' => e = .returned (.tuple #[.string x, .bool b2]) ∧ Below w.heap.size w w') (w : World) :
    Calls Tryz.prog 30 #[.string s0, .string s1, .string s2, .string s3, .string s4] w fun e w' => e = .returned (.tuple #[.string x, .bool b2]) ∧ Below w.heap.size w w' := by
  have C1 := Lib.hid c1
  have C2 := Lib.hid c2
  clear c1 c2
  cases b1 with
  | false =>
    obtain ⟨rfl, rfl⟩ := hx rfl
    clear hx
    go_enter Tryz.func30, Tryz.ntmps30
    go_wp2_with fail
    refine (C1.out _).mono ?_
    rintro e w2 ⟨rfl, hb⟩
    have HB2 := Lib.hid hb
    clear hb
    go_wp2_with fail
    go_ret2
    exact ⟨rfl, HB2.out⟩
  | true =>
    clear hx
    go_enter Tryz.func30, Tryz.ntmps30
    go_wp2_with fail
    refine (C1.out _).mono ?_
    rintro e w2 ⟨rfl, hb⟩
    have HB2 := Lib.hid hb
    clear hb
    go_wp2_with fail
    refine (C2.out _).mono ?_
    rintro e w3 ⟨rfl, hb⟩
    have HB3 := Lib.hid (bnext HB2.out hb)
    clear hb
    go_wp2_with fail
    go_ret2
    exact ⟨rfl, HB3.out⟩
theorem jf_impl (s0 s1 s2 s3 s4 y x : ByteArray) (b1 b2 : Bool)
    (c1 : ∀ w, Calls Tryz.prog 18 #[.string s2, .string s3, .string s4] w fun e w' => e = .returned (.tuple #[.string y, .bool b1]) ∧ Below w.heap.size w w')
    (c2 : ∀ w, Calls Tryz.prog 18 #[.string s0, .string s1, .string y] w fun e w' => e = .returned (.tuple #[.string x, .bool b2]) ∧ Below w.heap.size w w') (w : World) :
    Calls Tryz.prog 31 #[.string s0, .string s1, .string s2, .string s3, .string s4] w fun e w' => e = .returned (.tuple #[.string x, .bool b2]) ∧ Below w.heap.size w w' := by
  have C1 := Lib.hid c1
  have C2 := Lib.hid c2
  clear c1 c2
  go_enter Tryz.func31, Tryz.ntmps31
  go_wp2_with fail
  refine (C1.out _).mono ?_
  rintro e w2 ⟨rfl, hb⟩
  have HB2 := Lib.hid hb
  clear hb
  go_wp2_with fail
  refine (C2.out _).mono ?_
  rintro e w3 ⟨rfl, hb⟩
  have HB3 := Lib.hid (bnext HB2.out hb)
  clear hb
  go_wp2_with fail
  go_ret2
  exact ⟨rfl, HB3.out⟩

theorem walkExactJoinedFree (s0 s1 s2 s3 s4 : ByteArray) (w : World) (_hs0 : s0.size ≤ maxLen) (_hs1 : s1.size ≤ maxLen) (_hs2 : s2.size ≤ maxLen) (_hs3 : s3.size ≤ maxLen) (_hs4 : s4.size ≤ maxLen) :
    Calls Tryz.prog 10 #[.string s0, .string s1, .string s2, .string s3, .string s4] w fun e w' => e = .returned (.bool true) ∧ Below w.heap.size w w' := by
  obtain ⟨y, b1, hy, ⟨_, _, y1⟩, c1, d1⟩ := pf_any2 s2 s3 s4 _hs4
  obtain ⟨x, b2, _, ⟨_, x2, x3⟩, c2, d2⟩ := pf_any2 s0 s1 y hy
  have hx : b1 = false → x = ⟨#[]⟩ ∧ b2 = false := fun h => by
    have e := y1 h
    subst e
    cases b2 with
    | false => exact ⟨x3 rfl, rfl⟩
    | true => have := (x2 rfl).size; cases this
  exact law_of x b2 _ _ _ _ _ w (fun w => jf_spec s0 s1 s2 s3 s4 y x b1 b2 hx c1 c2 w) (fun w => jf_impl s0 s1 s2 s3 s4 y x b1 b2 d1 d2 w)


theorem Tryz.own : ownKnob Tryz.prog.godebug = none := by kernel_rfl

set_option maxRecDepth 100000 in
set_option maxHeartbeats 2000000 in
theorem lifted (os : Os) (started : os.Started) (H : Type) (enc : TypeId × Value → H) :
    ReturnsInHanded {} Tryz.checked os 10 .any (fun w args => (Rows.fnExactJoinedFreeSpec.pre enc Tryz.prog Tryz.f10 Rows.fnExactJoinedFreeRow.domain false w args ∧ laidMetH Tryz.prog Rows.fnExactJoinedFreeRow.laid w) ∧ sizedMet enc Tryz.prog Tryz.f10 (OpenSpec.ofChange Rows.fnExactJoinedFreeSpec) false w args)
      (Rows.fnExactJoinedFreeSpec.post enc Tryz.prog Tryz.f10 false true false false) := by
  refine returnsInHanded_of_change_and (C := Tryz.checked) (X := fun w _ => laidMetH Tryz.prog Rows.fnExactJoinedFreeRow.laid w) (fun _ _ _ hh h => h.of_heap hh) Tryz.own started (by kernel_rfl) Tryz.func10
    (ChangeSpec.witness_shaped (enc := enc) (C := Tryz.checked) (os := os) (X := fun w _ => laidMetH Tryz.prog Rows.fnExactJoinedFreeRow.laid w) false (World.laidAll Tryz.prog os Rows.fnExactJoinedFreeRow.laid) #[.string ByteArray.empty, .string ByteArray.empty, .string ByteArray.empty, .string ByteArray.empty, .string ByteArray.empty] 8 (World.laidAll_os _ _ _)
      (World.shaped_of_ZipB (by kernel_rfl) (by kernel_rfl)) (by kernel_rfl) (by kernel_rfl) (by kernel_rfl)
      (by rw [MakeChecks.laidMetH_plain _ _ _ (by kernel_rfl)]; exact laidMet_laidAll _ (by kernel_rfl) (by kernel_rfl))) ?_
  intro W base args ds gs before hval0 hW _ _ hL _
  have hval : ∀ (j : Nat) t v, Tryz.f10.params[j]? = some t → args[j]? = some v → Value.okWide Tryz.prog W .any base t v := hval0
  have hW' := hW
  obtain ⟨p, q, hA0, hV, rfl, _, _⟩ := hW
  have hA : DataW.TrodAll enc Tryz.prog W 0 (fun _ => true) true Tryz.f10.params.toList args.toList ds p := hA0
  rw [Tryz.params10] at hA hval
  obtain ⟨v0, v1, v2, v3, v4, d0, d1, d2, d3, d4, p0, p1, p2, p3, p4, rfl, rfl, rfl, h0, h1, h2, h3, h4⟩ := trodAll_five hA
  obtain ⟨rfl, rfl⟩ := trodVars_none hV
  obtain ⟨s0, rfl, rfl, rfl, hs0⟩ := open_string Tryz.underlying9 (hval 0 9 v0 rfl rfl) h0
  obtain ⟨s1, rfl, rfl, rfl, hs1⟩ := open_string Tryz.underlying9 (hval 1 9 v1 rfl rfl) h1
  obtain ⟨s2, rfl, rfl, rfl, hs2⟩ := open_string Tryz.underlying9 (hval 2 9 v2 rfl rfl) h2
  obtain ⟨s3, rfl, rfl, rfl, hs3⟩ := open_string Tryz.underlying9 (hval 3 9 v3 rfl rfl) h3
  obtain ⟨s4, rfl, rfl, rfl, hs4⟩ := open_string Tryz.underlying9 (hval 4 9 v4 rfl rfl) h4
  clear hA0 hval0
  simp only [List.append_nil] at hW'
  refine (walkExactJoinedFree s0 s1 s2 s3 s4 W hs0 hs1 hs2 hs3 hs4).mono fun e W' ⟨he, hb⟩ => ?_
  subst he
  refine ⟨_, rfl, _, _, _, [], [], [], hW', ?_, ?_, ?_, hb.frame _, fun h => by cases h⟩
  · exact trodAll_mk1 (shut_bool Tryz.underlying4 true)
  · exact trodAll_mk5 (shut_string Tryz.underlying9 hs0) (shut_string Tryz.underlying9 hs1) (shut_string Tryz.underlying9 hs2) (shut_string Tryz.underlying9 hs3) (shut_string Tryz.underlying9 hs4)
  · rfl

-- each of the three walks over the program by itself: together they are too much for the kernel's memory
theorem jf1 : (Rows.fnExactJoinedFreeRow.inPlace == Tryz.prog.inPlace 10) = true := by kernel_rfl
theorem jf2 : (Rows.fnExactJoinedFreeRow.unfollowed == Tryz.prog.unfollowed 10) = true := by kernel_rfl
theorem jf3 : (Rows.fnExactJoinedFreeRow.recurses == Tryz.prog.recurses 10) = true := by kernel_rfl
theorem jf4 : (Rows.fnExactJoinedFreeRow.named == Tryz.prog.varsNamed 10) = true := by kernel_rfl
theorem jf5 : laidOutB Tryz.prog = true := by kernel_rfl
theorem jf6 : mapsRowed Tryz.prog = true := by kernel_rfl
theorem jf7 : Tryz.prog.stopsHeard = true := by kernel_rfl
theorem jg : false = (Rows.fnExactJoinedFreeRow).goesBy Tryz.pinned.checked.prog := by kernel_rfl
theorem closed : joinedFacts Tryz.prog 10 Tryz.f10 Rows.fnExactJoinedFreeSpec Rows.fnExactJoinedFreeRow = true := by
  unfold joinedFacts
  rw [jf1, jf2, jf3, jf4, jf5, jf6, jf7]
  kernel_rfl

theorem said : Rows.FnExactJoinedFreeSaid :=
  OpenClaim.holds_of_wide 10 Tryz.f10 rfl rfl rfl rfl rfl rfl rfl ⟨rfl, rfl, rfl, rfl, rfl⟩ rfl rfl rfl rfl rfl (by kernel_rfl) Tryz.func10 closed
    (of_decide_eq_true (by kernel_rfl)) (by unfold Func.isWrapper; first | (rw [if_pos (by decide +kernel)]; kernel_rfl) | (rw [if_neg (by decide +kernel)]; exact ⟨rfl, rfl⟩))
    (fun os started H enc _ => by rw [OpenClaim.pre_eq_preRow]; exact lifted os started H enc)

theorem plain (f : FuncId) (fn : Func) (hf : Tryz.pinned.checked.prog.funcNamed Rows.fnExactJoinedFreeRow.func = some f) (hfn : Tryz.pinned.checked.prog.funcs[f]? = some fn) :
    true = Tryz.pinned.checked.prog.looks [] ∧ ∀ (j : Nat) t, fn.params[j]? = some t → Tryz.pinned.checked.prog.wantsStandIn t = false := by
  obtain rfl : f = 10 := Option.some.inj ((show Tryz.prog.funcNamed Rows.fnExactJoinedFreeRow.func = some 10 by kernel_rfl).symm.trans hf) |>.symm
  obtain rfl : fn = Tryz.f10 := (Option.some.inj (Tryz.func10.symm.trans hfn)).symm
  refine ⟨by kernel_rfl, fun j t ht => ?_⟩
  rw [Tryz.params10] at ht
  have hm : t ∈ [9, 9, 9, 9, 9] := by simpa using Array.mem_of_getElem? ht
  have hall : ([9, 9, 9, 9, 9].all fun u => !Tryz.prog.wantsStandIn u) = true := by kernel_rfl
  exact (show Tryz.prog.wantsStandIn t = false by simpa using List.all_eq_true.1 hall t hm)

theorem exactJoinedFree_card : Rows.FnExactJoinedFreeCardSaid :=
  Claim7.holds_tied_plain_at .later [] _ _ _ _ said (fun _ h => by cases h) (by kernel_rfl) (fun _ h => by cases h) fnExactJoinedFree_row_tie rfl ⟨rfl, rfl⟩ (by kernel_rfl) rfl plain jg

#print axioms exactJoinedFree_card
end Go.Proofs.YtinjmdjnkneidaaGreatDoor
