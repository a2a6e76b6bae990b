/-
  AffectedVars: both sides.
-/
import Derived.Test.YtlhmdpkenkibiaaGreatDoorSo0
namespace Go.Proofs.YtlhmdpkenkibiaaGreatDoor
open Go.RowKit Tm Go.Great


set_option maxHeartbeats 4000000 in
theorem cl_af (s t v : ByteArray) (b : Bool) (g h : Nat) (w : World) (hg : Blk w g #[.string s] 9) (hh : Blk w h #[.string t] 9) (x : ∀ w, Calls Tryz.prog 21 #[.string s, .string t, .string ⟨#[120, 121, 122]⟩, .string v] w fun e w' => e = .returned (.bool b) ∧ Below w.heap.size w w') :
    Calls Tryz.prog 87 #[.string v, .pointer (some ⟨g, 0, none⟩), .pointer (some ⟨h, 0, none⟩)] w fun e w' => e = .returned (.bool (!b)) ∧ Below w.heap.size w w' := by
  have X := Lib.hid x
  have q0 := hg.c1
  have q1 := hh.c1
  clear x hg hh
  go_enter Tryz.func87, Tryz.ntmps87
  go_wp2_with fail
  refine (X.out _).mono ?_
  rintro e w' ⟨rfl, hb⟩
  have HB := Lib.hid hb
  clear hb
  go_wp2_with fail
  go_ret
  exact ⟨rfl, HB.out⟩
structure AfS (w V : World) (g h : Nat) (s t : ByteArray) : Prop where
  r0 : Blk V g #[.string s] 9
  r1 : Blk V h #[.string t] 9
  rb : Below w.heap.size w V
theorem AfS.iterAt {w V : World} {g h : Nat} {s t : ByteArray} (k : AfS w V g h s t) {K : Nat} (hg : g < K) (hh : h < K) (hw : w.heap.size ≤ K) (x : ByteArray) (p : Nat) : AfS w (V.iterAt K x p) g h s t :=
  ⟨(Lib.iterAt_other V K _ x p (by omega)).trans k.r0, (Lib.iterAt_other V K _ x p (by omega)).trans k.r1, Lib.below_iterAt k.rb hw x p⟩
theorem AfS.kept {w V V' : World} {g h : Nat} {s t : ByteArray} (k : AfS w V g h s t) (hb : Below V.heap.size V V') : AfS w V' g h s t := ⟨k.r0.kept hb, k.r1.kept hb, bnext k.rb hb⟩
set_option maxRecDepth 100000 in
set_option maxHeartbeats 8000000 in
theorem vw_af (s t : ByteArray) (b0 b1 b2 : Bool) (g h : Nat) (w : World) (hg : Blk w g #[.string s] 9) (hh : Blk w h #[.string t] 9)
    (x0 : ∀ w, Calls Tryz.prog 21 #[.string s, .string t, .string ⟨#[120, 121, 122]⟩, .string ⟨#[120]⟩] w fun e w' => e = .returned (.bool b0) ∧ Below w.heap.size w w')
    (x1 : ∀ w, Calls Tryz.prog 21 #[.string s, .string t, .string ⟨#[120, 121, 122]⟩, .string ⟨#[121]⟩] w fun e w' => e = .returned (.bool b1) ∧ Below w.heap.size w w')
    (x2 : ∀ w, Calls Tryz.prog 21 #[.string s, .string t, .string ⟨#[120, 121, 122]⟩, .string ⟨#[122]⟩] w fun e w' => e = .returned (.bool b2) ∧ Below w.heap.size w w') :
    Calls Tryz.prog 86 #[.func (.func 87) #[] #[.pointer (some ⟨g, 0, none⟩), .pointer (some ⟨h, 0, none⟩)]] w fun e w' => e = .returned (.string (bs (ltr (!b0) 120 ++ (ltr (!b1) 121 ++ ltr (!b2) 122)))) ∧ Below w.heap.size w w' := by
  have X0 := Lib.hid x0
  have X1 := Lib.hid x1
  have X2 := Lib.hid x2
  have E0 : Utf8.encode 120 = ⟨#[120]⟩ := rfl
  have E1 : Utf8.encode 121 = ⟨#[121]⟩ := rfl
  have E2 : Utf8.encode 122 = ⟨#[122]⟩ := rfl
  have HI0 := Lib.hid (World.iter_heap w ⟨#[120, 121, 122]⟩ 0)
  have AG0 : Hid (AfS w (w.iter ⟨#[120, 121, 122]⟩ 0) g h s t) := ⟨(hg.alloc (.stringIter ⟨#[120, 121, 122]⟩ 0)), (hh.alloc (.stringIter ⟨#[120, 121, 122]⟩ 0)), (Below.refl _ _).alloc (Nat.le_refl _) (.stringIter ⟨#[120, 121, 122]⟩ 0)⟩
  have HG := Lib.hid hg.lt
  have HH := Lib.hid hh.lt
  clear x0 x1 x2 hg hh
  cases b0 <;> cases b1 <;> cases b2
  all_goals
    go_enter Tryz.func86, Tryz.ntmps86
    go_wp2_with fail
    generalize w.iter ⟨#[120, 121, 122]⟩ 0 = V0 at *
    refine wp_loop_rounds 4 ?_
    have nx : ∀ ty, (Instr.next (.pointer (some ⟨w.heap.size, 0, none⟩)) true ty).run Tryz.prog V0 = .ok (.tuple #[.bool true, .int .i64 0, .int .i32 120]) (V0.iterAt w.heap.size ⟨#[120, 121, 122]⟩ 1) := fun ty => Lib.run_next_ascii_at V0 _ ⟨#[120, 121, 122]⟩ 0 ty HI0.out (by decide) (by decide)
    have HJ := Lib.hid (Lib.iterAt_heap V0 w.heap.size ⟨#[120, 121, 122]⟩ 0 1 HI0.out)
    have AJ := Lib.hid (AG0.out.iterAt HG.out HH.out (Nat.le_refl _) ⟨#[120, 121, 122]⟩ 1)
    have C := Lib.hid (cl_af s t ⟨#[120]⟩ _ g h _ AJ.out.r0 AJ.out.r1 X0.out)
    rw [rounds_succ]
    go_wp2_with fail
    clear nx HI0 AG0
    refine C.out.mono ?_
    rintro e V1 ⟨rfl, hb⟩
    have HI1 := Lib.hid ((hb.block w.heap.size ((Array.getElem?_eq_some_iff.1 HJ.out).1)).trans HJ.out)
    have AG1 := Lib.hid (AJ.out.kept hb)
    clear hb HJ AJ C
    go_wp2_with fail
    have nx : ∀ ty, (Instr.next (.pointer (some ⟨w.heap.size, 0, none⟩)) true ty).run Tryz.prog V1 = .ok (.tuple #[.bool true, .int .i64 1, .int .i32 121]) (V1.iterAt w.heap.size ⟨#[120, 121, 122]⟩ 2) := fun ty => Lib.run_next_ascii_at V1 _ ⟨#[120, 121, 122]⟩ 1 ty HI1.out (by decide) (by decide)
    have HJ := Lib.hid (Lib.iterAt_heap V1 w.heap.size ⟨#[120, 121, 122]⟩ 1 2 HI1.out)
    have AJ := Lib.hid (AG1.out.iterAt HG.out HH.out (Nat.le_refl _) ⟨#[120, 121, 122]⟩ 2)
    have C := Lib.hid (cl_af s t ⟨#[121]⟩ _ g h _ AJ.out.r0 AJ.out.r1 X1.out)
    rw [rounds_succ]
    go_wp2_with fail
    clear nx HI1 AG1
    refine C.out.mono ?_
    rintro e V2 ⟨rfl, hb⟩
    have HI2 := Lib.hid ((hb.block w.heap.size ((Array.getElem?_eq_some_iff.1 HJ.out).1)).trans HJ.out)
    have AG2 := Lib.hid (AJ.out.kept hb)
    clear hb HJ AJ C
    go_wp2_with fail
    have nx : ∀ ty, (Instr.next (.pointer (some ⟨w.heap.size, 0, none⟩)) true ty).run Tryz.prog V2 = .ok (.tuple #[.bool true, .int .i64 2, .int .i32 122]) (V2.iterAt w.heap.size ⟨#[120, 121, 122]⟩ 3) := fun ty => Lib.run_next_ascii_at V2 _ ⟨#[120, 121, 122]⟩ 2 ty HI2.out (by decide) (by decide)
    have HJ := Lib.hid (Lib.iterAt_heap V2 w.heap.size ⟨#[120, 121, 122]⟩ 2 3 HI2.out)
    have AJ := Lib.hid (AG2.out.iterAt HG.out HH.out (Nat.le_refl _) ⟨#[120, 121, 122]⟩ 3)
    have C := Lib.hid (cl_af s t ⟨#[122]⟩ _ g h _ AJ.out.r0 AJ.out.r1 X2.out)
    rw [rounds_succ]
    go_wp2_with fail
    clear nx HI2 AG2
    refine C.out.mono ?_
    rintro e V3 ⟨rfl, hb⟩
    have HI3 := Lib.hid ((hb.block w.heap.size ((Array.getElem?_eq_some_iff.1 HJ.out).1)).trans HJ.out)
    have AG3 := Lib.hid (AJ.out.kept hb)
    clear hb HJ AJ C
    go_wp2_with fail
    have nx : ∀ ty, (Instr.next (.pointer (some ⟨w.heap.size, 0, none⟩)) true ty).run Tryz.prog V3 = .ok (.tuple #[.bool false]) V3 := fun ty => Lib.run_next_end_at V3 _ ⟨#[120, 121, 122]⟩ 3 ty HI3.out (by decide)
    rw [rounds_succ]
    go_wp2_with fail
    go_ret
    exact ⟨rfl, AG3.out.rb⟩
set_option maxRecDepth 100000 in
set_option maxHeartbeats 8000000 in
theorem af_impl (s t : ByteArray) (b0 b1 b2 : Bool) (w : World)
    (v1 : ∀ w, Calls Tryz.prog 46 #[.string s] w fun e w' => e = .returned (.bool true) ∧ Below w.heap.size w w')
    (v2 : ∀ w, Calls Tryz.prog 46 #[.string t] w fun e w' => e = .returned (.bool true) ∧ Below w.heap.size w w')
    (x0 : ∀ w, Calls Tryz.prog 21 #[.string s, .string t, .string ⟨#[120, 121, 122]⟩, .string ⟨#[120]⟩] w fun e w' => e = .returned (.bool b0) ∧ Below w.heap.size w w')
    (x1 : ∀ w, Calls Tryz.prog 21 #[.string s, .string t, .string ⟨#[120, 121, 122]⟩, .string ⟨#[121]⟩] w fun e w' => e = .returned (.bool b1) ∧ Below w.heap.size w w')
    (x2 : ∀ w, Calls Tryz.prog 21 #[.string s, .string t, .string ⟨#[120, 121, 122]⟩, .string ⟨#[122]⟩] w fun e w' => e = .returned (.bool b2) ∧ Below w.heap.size w w') :
    Calls Tryz.prog 23 #[.string s, .string t] w fun e w' => e = .returned (.string (bs (ltr (!b0) 120 ++ (ltr (!b1) 121 ++ ltr (!b2) 122)))) ∧ Below w.heap.size w w' := by
  have V1 := Lib.hid v1
  have V2 := Lib.hid v2
  have X0 := Lib.hid x0
  have X1 := Lib.hid x1
  have X2 := Lib.hid x2
  have E0 : Utf8.encode 120 = ⟨#[120]⟩ := rfl
  have E1 : Utf8.encode 121 = ⟨#[121]⟩ := rfl
  have E2 : Utf8.encode 122 = ⟨#[122]⟩ := rfl
  clear v1 v2 x0 x1 x2
  obtain ⟨k0, k1, kb, kz⟩ := two_blk w #[.string s] #[.string t] 9 9
  have K0 := Lib.hid k0
  have K1 := Lib.hid k1
  have KB := Lib.hid kb
  clear k0 k1 kb kz
  generalize hres : bs (ltr (!b0) 120 ++ (ltr (!b1) 121 ++ ltr (!b2) 122)) = res
  have VW := fun V hg hh => Lib.hid (vw_af s t b0 b1 b2 w.heap.size (w.heap.size + 1) V hg hh X0.out X1.out X2.out)
  rw [hres] at VW
  replace VW := Lib.hid VW
  clear hres
  go_enter Tryz.func23, Tryz.ntmps23
  go_wp2_with fail
  generalize (w.alloc (.cells #[.string s] 9)).alloc (.cells #[.string t] 9) = wa at *
  refine (V1.out _).mono ?_
  rintro e w1 ⟨rfl, hb⟩
  have J0 := Lib.hid (K0.out.kept hb)
  have J1 := Lib.hid (K1.out.kept hb)
  have JB := Lib.hid (bnext KB.out hb)
  have q0 := J0.out.c1
  have q1 := J1.out.c1
  clear hb
  go_wp2_with fail
  clear q0 q1
  refine (V2.out _).mono ?_
  rintro e wb ⟨rfl, hb⟩
  have L0 := Lib.hid (J0.out.kept hb)
  have L1 := Lib.hid (J1.out.kept hb)
  have LB := Lib.hid (bnext JB.out hb)
  have q0 := L0.out.c1
  have q1 := L1.out.c1
  clear hb J0 J1 JB K0 K1 KB
  go_wp2_with fail
  clear q0 q1
  refine (VW.out _ L0.out L1.out).out.mono ?_
  rintro e wc ⟨rfl, hb⟩
  have LC := Lib.hid (bnext LB.out hb)
  clear hb
  go_wp2_with fail
  go_ret
  exact ⟨rfl, LC.out⟩

set_option maxRecDepth 100000 in
set_option maxHeartbeats 4000000 in
theorem af_impl_no (s t : ByteArray) (h : ¬ (PV s ∧ PV t)) (w : World) : Calls Tryz.prog 23 #[.string s, .string t] w fun e w' => e = .returned (.string ⟨#[]⟩) ∧ Below w.heap.size w w' := by
  obtain ⟨k0, k1, kb, kz⟩ := two_blk w #[.string s] #[.string t] 9 9
  have K0 := Lib.hid k0
  have K1 := Lib.hid k1
  have KB := Lib.hid kb
  clear k0 k1 kb kz
  by_cases h1 : PV s
  · have h2 : ¬ PV t := fun h2 => h ⟨h1, h2⟩
    obtain ⟨⟨p, hp, he⟩, hl⟩ := h1
    have V1 := fun w => Lib.hid (implPV_yes s w hp he hl)
    have V2 := fun w => Lib.hid (implPV_no t w h2)
    clear h hp he hl h2
    go_enter Tryz.func23, Tryz.ntmps23
    go_wp2_with fail
    generalize (w.alloc (.cells #[.string s] 9)).alloc (.cells #[.string t] 9) = wa at *
    refine (V1 _).out.mono ?_
    rintro e w1 ⟨rfl, hb⟩
    have J0 := Lib.hid (K0.out.kept hb)
    have J1 := Lib.hid (K1.out.kept hb)
    have JB := Lib.hid (bnext KB.out hb)
    have q0 := J0.out.c1
    have q1 := J1.out.c1
    clear hb
    go_wp2_with fail
    clear q0 q1
    refine (V2 _).out.mono ?_
    rintro e wb ⟨rfl, hb⟩
    have LB := Lib.hid (bnext JB.out hb)
    clear hb
    go_wp2_with fail
    go_ret
    exact ⟨rfl, LB.out⟩
  · have V1 := fun w => Lib.hid (implPV_no s w h1)
    clear h h1
    go_enter Tryz.func23, Tryz.ntmps23
    go_wp2_with fail
    generalize (w.alloc (.cells #[.string s] 9)).alloc (.cells #[.string t] 9) = wa at *
    refine (V1 _).out.mono ?_
    rintro e w1 ⟨rfl, hb⟩
    have LB := Lib.hid (bnext KB.out hb)
    clear hb
    go_wp2_with fail
    go_ret
    exact ⟨rfl, LB.out⟩

theorem xt0 : (⟨#[120, 121, 122]⟩ : ByteArray).extract 0 1 = ⟨#[120]⟩ := by decide +kernel
theorem xt1 : (⟨#[120, 121, 122]⟩ : ByteArray).extract 1 2 = ⟨#[121]⟩ := by decide +kernel
theorem xt2 : (⟨#[120, 121, 122]⟩ : ByteArray).extract 2 3 = ⟨#[122]⟩ := by decide +kernel
set_option maxRecDepth 100000 in
set_option maxHeartbeats 8000000 in
theorem af_spec (s t : ByteArray) (b0 b1 b2 : Bool) (w : World)
    (v1 : ∀ w, Calls Tryz.prog 85 #[.string s] w fun e w' => e = .returned (.bool true) ∧ Below w.heap.size w w')
    (v2 : ∀ w, Calls Tryz.prog 85 #[.string t] w fun e w' => e = .returned (.bool true) ∧ Below w.heap.size w w')
    (x0 : ∀ w, Calls Tryz.prog 20 #[.string s, .string t, .string ⟨#[120, 121, 122]⟩, .string ⟨#[120]⟩] w fun e w' => e = .returned (.bool b0) ∧ Below w.heap.size w w')
    (x1 : ∀ w, Calls Tryz.prog 20 #[.string s, .string t, .string ⟨#[120, 121, 122]⟩, .string ⟨#[121]⟩] w fun e w' => e = .returned (.bool b1) ∧ Below w.heap.size w w')
    (x2 : ∀ w, Calls Tryz.prog 20 #[.string s, .string t, .string ⟨#[120, 121, 122]⟩, .string ⟨#[122]⟩] w fun e w' => e = .returned (.bool b2) ∧ Below w.heap.size w w') :
    Calls Tryz.prog 22 #[.string s, .string t] w fun e w' => e = .returned (.string (bs (ltr (!b0) 120 ++ (ltr (!b1) 121 ++ ltr (!b2) 122)))) ∧ Below w.heap.size w w' := by
  rw [← xt0] at x0
  rw [← xt1] at x1
  rw [← xt2] at x2
  have V1 := Lib.hid v1
  have V2 := Lib.hid v2
  have X0 := Lib.hid x0
  have X1 := Lib.hid x1
  have X2 := Lib.hid x2
  have F0 := xt0
  have F1 := xt1
  have F2 := xt2
  clear v1 v2 x0 x1 x2
  have HB := Lib.hid (Below.refl w.heap.size w)
  cases b0 <;> cases b1 <;> cases b2
  all_goals
    go_enter Tryz.func22, Tryz.ntmps22
    go_wp2_with fail
    refine wp_loop_rounds 4 ?_
    rw [rounds_succ]
    go_wp2_with fail
    refine (V1.out _).mono ?_
    rintro e w1 ⟨rfl, hb⟩
    replace HB := Lib.hid (bnext HB.out hb)
    clear hb
    go_wp2_with fail
    refine (V2.out _).mono ?_
    rintro e w1 ⟨rfl, hb⟩
    replace HB := Lib.hid (bnext HB.out hb)
    clear hb
    go_wp2_with fail
    refine (X0.out _).mono ?_
    rintro e w1 ⟨rfl, hb⟩
    replace HB := Lib.hid (bnext HB.out hb)
    clear hb
    go_wp2_with fail
    rw [rounds_succ]
    go_wp2_with fail
    refine (V1.out _).mono ?_
    rintro e w1 ⟨rfl, hb⟩
    replace HB := Lib.hid (bnext HB.out hb)
    clear hb
    go_wp2_with fail
    refine (V2.out _).mono ?_
    rintro e w1 ⟨rfl, hb⟩
    replace HB := Lib.hid (bnext HB.out hb)
    clear hb
    go_wp2_with fail
    refine (X1.out _).mono ?_
    rintro e w1 ⟨rfl, hb⟩
    replace HB := Lib.hid (bnext HB.out hb)
    clear hb
    go_wp2_with fail
    rw [rounds_succ]
    go_wp2_with fail
    refine (V1.out _).mono ?_
    rintro e w1 ⟨rfl, hb⟩
    replace HB := Lib.hid (bnext HB.out hb)
    clear hb
    go_wp2_with fail
    refine (V2.out _).mono ?_
    rintro e w1 ⟨rfl, hb⟩
    replace HB := Lib.hid (bnext HB.out hb)
    clear hb
    go_wp2_with fail
    refine (X2.out _).mono ?_
    rintro e w1 ⟨rfl, hb⟩
    replace HB := Lib.hid (bnext HB.out hb)
    clear hb
    go_wp2_with fail
    rw [rounds_succ]
    go_wp2_with fail
    go_ret
    exact ⟨rfl, HB.out⟩
set_option maxHeartbeats 4000000 in
theorem af_spec_no (s t : ByteArray) (h : ¬ (PV s ∧ PV t)) (w : World) : Calls Tryz.prog 22 #[.string s, .string t] w fun e w' => e = .returned (.string ⟨#[]⟩) ∧ Below w.heap.size w w' := by
  have HB := Lib.hid (Below.refl w.heap.size w)
  by_cases h1 : PV s
  · have h2 : ¬ PV t := fun h2 => h ⟨h1, h2⟩
    have V1 := fun w => Lib.hid (h1.t w)
    have V2 := fun w => Lib.hid (PV.f h2 w)
    clear h h1 h2
    go_enter Tryz.func22, Tryz.ntmps22
    go_wp2_with fail
    refine wp_loop_rounds 1 ?_
    rw [rounds_succ]
    go_wp2_with fail
    refine (V1 _).out.mono ?_
    rintro e w1 ⟨rfl, hb⟩
    replace HB := Lib.hid (bnext HB.out hb)
    clear hb
    go_wp2_with fail
    refine (V2 _).out.mono ?_
    rintro e w1 ⟨rfl, hb⟩
    replace HB := Lib.hid (bnext HB.out hb)
    clear hb
    go_wp2_with fail
    go_ret
    exact ⟨rfl, HB.out⟩
  · have V1 := fun w => Lib.hid (PV.f h1 w)
    clear h h1
    go_enter Tryz.func22, Tryz.ntmps22
    go_wp2_with fail
    refine wp_loop_rounds 1 ?_
    rw [rounds_succ]
    go_wp2_with fail
    refine (V1 _).out.mono ?_
    rintro e w1 ⟨rfl, hb⟩
    replace HB := Lib.hid (bnext HB.out hb)
    clear hb
    go_wp2_with fail
    go_ret
    exact ⟨rfl, HB.out⟩
/-- Both sides, at any texts. -/
theorem af_any2 (s t : ByteArray) : ∃ x : ByteArray, (∀ w, Calls Tryz.prog 22 #[.string s, .string t] w fun e w' => e = .returned (.string x) ∧ Below w.heap.size w w') ∧ ∀ w, Calls Tryz.prog 23 #[.string s, .string t] w fun e w' => e = .returned (.string x) ∧ Below w.heap.size w w' := by
  by_cases h : PV s ∧ PV t
  · obtain ⟨h1, h2⟩ := h
    have v1 := fun w => h1.t w
    have v2 := fun w => h2.t w
    obtain ⟨⟨p, hp, hs⟩, hl⟩ := h1
    obtain ⟨⟨q, hq, ht⟩, hn⟩ := h2
    obtain ⟨b0, c0, d0⟩ := so_any2 s t ⟨#[120, 121, 122]⟩ ⟨#[120]⟩ (by decide) (by decide)
    obtain ⟨b1, c1, d1⟩ := so_any2 s t ⟨#[120, 121, 122]⟩ ⟨#[121]⟩ (by decide) (by decide)
    obtain ⟨b2, c2, d2⟩ := so_any2 s t ⟨#[120, 121, 122]⟩ ⟨#[122]⟩ (by decide) (by decide)
    exact ⟨_, fun w => af_spec s t b0 b1 b2 w v1 v2 c0 c1 c2, fun w => af_impl s t b0 b1 b2 w (fun w => implPV_yes s w hp hs hl) (fun w => implPV_yes t w hq ht hn) d0 d1 d2⟩
  · exact ⟨_, fun w => af_spec_no s t h w, fun w => af_impl_no s t h w⟩
end Go.Proofs.YtlhmdpkenkibiaaGreatDoor
