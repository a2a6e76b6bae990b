/-
  SomeVar, AllVar, PredVars of the program.
-/
import Derived.Test.YtnhadmeadegckaaQnt
namespace Go.Proofs.Ytnhadmeadegckaa
open Go.RowKit Tm

set_option maxHeartbeats 1000000 in
theorem implAll (c : UInt8) (hc : c = 120 ∨ c = 121 ∨ c = 122) (F : Nat → Bool) (w : World) :
    Calls Try.prog 70 #[.int .u32 (nb 27 F), .string ⟨#[c]⟩] w fun e w' => e = .returned (.int .u32 (nb 27 (allF c F))) ∧ Below w.heap.size w w' := by
  have N1 := fun w => Lib.hid (implNot F w)
  have N2 := fun w => Lib.hid (implNot (someF c (fun j => !F j)) w)
  have P := fun w => Lib.hid (implSome c hc (fun j => !F j) w)
  clear hc
  go_enter Try.func70, Try.ntmps70
  go_wp2_with fail
  refine (N1 _).out.mono ?_
  rintro e w' ⟨rfl, rfl⟩
  go_wp2_with fail
  refine (P _).out.mono ?_
  rintro e w1 ⟨rfl, hb⟩
  have HB := Lib.hid hb
  clear hb
  go_wp2_with fail
  refine (N2 _).out.mono ?_
  rintro e w' ⟨rfl, rfl⟩
  go_wp2_with fail
  go_ret
  exact ⟨rfl, HB.out⟩

def depB (c : UInt8) (F : Nat → Bool) : Bool := ((nb 27 (someF c F) : Nat) : Int) != ((nb 27 F : Nat) : Int)

set_option maxHeartbeats 1000000 in
theorem implDep (c : UInt8) (hc : c = 120 ∨ c = 121 ∨ c = 122) (F : Nat → Bool) (w : World) :
    Calls Try.prog 52 #[.int .u32 (nb 27 F), .string ⟨#[c]⟩] w fun e w' => e = .returned (.bool (depB c F)) ∧ Below w.heap.size w w' := by
  have P := fun w => Lib.hid (implSome c hc F w)
  clear hc
  go_enter Try.func52, Try.ntmps52
  go_wp2_with fail
  refine (P _).out.mono ?_
  rintro e w1 ⟨rfl, hb⟩
  have HB := Lib.hid hb
  clear hb
  go_wp2_with fail
  go_ret
  exact ⟨rfl, HB.out⟩

set_option maxHeartbeats 1000000 in
theorem implReadQ_yes (p v : ByteArray) (w : World) (hp : Set27 p) (hv : IsVar v) : Calls Try.prog 68 #[.string p, .string v] w fun e w' => e = .returned (.tuple #[.int .u32 (nb 27 (hs p.data.toList)), .bool true]) ∧ w = w' := by
  have C := fun w => Lib.hid (implRead_yes p w hp)
  have V := fun w => Lib.hid (implIsVar_yes v w hv)
  clear hv
  go_enter Try.func68, Try.ntmps68
  go_wp2_with fail
  refine (C _).out.mono ?_
  rintro e w' ⟨rfl, rfl⟩
  go_wp2_with fail
  refine (V _).out.mono ?_
  rintro e w' ⟨rfl, rfl⟩
  go_wp2_with fail
  go_ret2
  exact ⟨rfl, rfl⟩
set_option maxHeartbeats 1000000 in
theorem implReadQ_no (p v : ByteArray) (w : World) (hm : v.size ≤ maxLen) (h : ¬ (Set27 p ∧ IsVar v)) : Calls Try.prog 68 #[.string p, .string v] w fun e w' => e = .returned (.tuple #[.int .u32 0, .bool false]) ∧ w = w' := by
  by_cases hp : Set27 p
  · have C := fun w => Lib.hid (implRead_yes p w hp)
    have V := fun w => Lib.hid (implIsVar_no v w hm (fun hv => h ⟨hp, hv⟩))
    clear h
    go_enter Try.func68, Try.ntmps68
    go_wp2_with fail
    refine (C _).out.mono ?_
    rintro e w' ⟨rfl, rfl⟩
    go_wp2_with fail
    refine (V _).out.mono ?_
    rintro e w' ⟨rfl, rfl⟩
    go_wp2_with fail
    go_ret2
    exact ⟨rfl, rfl⟩
  · have C := fun w => Lib.hid (implRead_no p w hp)
    clear h hp
    go_enter Try.func68, Try.ntmps68
    go_wp2_with fail
    refine (C _).out.mono ?_
    rintro e w' ⟨rfl, rfl⟩
    go_wp2_with fail
    go_ret2
    exact ⟨rfl, rfl⟩

set_option maxHeartbeats 1000000 in
theorem implSomeV_yes (p v : ByteArray) (c : UInt8) (w : World) (hp : Set27 p) (hv : v = ⟨#[c]⟩) (hc : c = 120 ∨ c = 121 ∨ c = 122) : Calls Try.prog 36 #[.string p, .string v] w fun e w' => e = .returned (.tuple #[.string (bs (tb (someF c (hs p.data.toList)))), .bool true]) ∧ Below w.heap.size w w' := by
  have hiv : IsVar v := by rcases hc with rfl | rfl | rfl <;> simp [IsVar, hv]
  have C := fun w => Lib.hid (implReadQ_yes p v w hp hiv)
  subst hv
  have P := fun w => Lib.hid (implSome c hc (hs p.data.toList) w)
  have X := fun w => Lib.hid (implText (someF c (hs p.data.toList)) w)
  clear hc hiv
  go_enter Try.func36, Try.ntmps36
  go_wp2_with fail
  refine (C _).out.mono ?_
  rintro e w' ⟨rfl, rfl⟩
  go_wp2_with fail
  refine (P _).out.mono ?_
  rintro e w1 ⟨rfl, hb⟩
  have HB := Lib.hid hb
  clear hb
  go_wp2_with fail
  refine (X _).out.mono ?_
  rintro e w2 ⟨rfl, hb⟩
  have HB2 := Lib.hid (bnext HB.out hb)
  clear hb
  go_wp2_with fail
  go_ret2
  exact ⟨rfl, HB2.out⟩
set_option maxHeartbeats 1000000 in
theorem implSomeV_no (p v : ByteArray) (w : World) (hm : v.size ≤ maxLen) (h : ¬ (Set27 p ∧ IsVar v)) : Calls Try.prog 36 #[.string p, .string v] w fun e w' => e = .returned (.tuple #[.string (bs []), .bool false]) ∧ Below w.heap.size w w' := by
  have C := fun w => Lib.hid (implReadQ_no p v w hm h)
  clear h
  go_enter Try.func36, Try.ntmps36
  go_wp2_with fail
  refine (C _).out.mono ?_
  rintro e w' ⟨rfl, rfl⟩
  go_wp2_with fail
  go_ret2
  exact ⟨rfl, Below.refl _ _⟩
set_option maxHeartbeats 1000000 in
theorem implAllV_yes (p v : ByteArray) (c : UInt8) (w : World) (hp : Set27 p) (hv : v = ⟨#[c]⟩) (hc : c = 120 ∨ c = 121 ∨ c = 122) : Calls Try.prog 37 #[.string p, .string v] w fun e w' => e = .returned (.tuple #[.string (bs (tb (allF c (hs p.data.toList)))), .bool true]) ∧ Below w.heap.size w w' := by
  have hiv : IsVar v := by rcases hc with rfl | rfl | rfl <;> simp [IsVar, hv]
  have C := fun w => Lib.hid (implReadQ_yes p v w hp hiv)
  subst hv
  have P := fun w => Lib.hid (implAll c hc (hs p.data.toList) w)
  have X := fun w => Lib.hid (implText (allF c (hs p.data.toList)) w)
  clear hc hiv
  go_enter Try.func37, Try.ntmps37
  go_wp2_with fail
  refine (C _).out.mono ?_
  rintro e w' ⟨rfl, rfl⟩
  go_wp2_with fail
  refine (P _).out.mono ?_
  rintro e w1 ⟨rfl, hb⟩
  have HB := Lib.hid hb
  clear hb
  go_wp2_with fail
  refine (X _).out.mono ?_
  rintro e w2 ⟨rfl, hb⟩
  have HB2 := Lib.hid (bnext HB.out hb)
  clear hb
  go_wp2_with fail
  go_ret2
  exact ⟨rfl, HB2.out⟩
set_option maxHeartbeats 1000000 in
theorem implAllV_no (p v : ByteArray) (w : World) (hm : v.size ≤ maxLen) (h : ¬ (Set27 p ∧ IsVar v)) : Calls Try.prog 37 #[.string p, .string v] w fun e w' => e = .returned (.tuple #[.string (bs []), .bool false]) ∧ Below w.heap.size w w' := by
  have C := fun w => Lib.hid (implReadQ_no p v w hm h)
  clear h
  go_enter Try.func37, Try.ntmps37
  go_wp2_with fail
  refine (C _).out.mono ?_
  rintro e w' ⟨rfl, rfl⟩
  go_wp2_with fail
  go_ret2
  exact ⟨rfl, Below.refl _ _⟩
def lst (b : Bool) (c : UInt8) : List UInt8 := if b then [c] else []
def depL (F : Nat → Bool) : List UInt8 := lst (depB 120 F) 120 ++ lst (depB 121 F) 121 ++ lst (depB 122 F) 122

def xyz : ByteArray := ⟨#[120, 121, 122]⟩
set_option maxRecDepth 100000 in
set_option maxHeartbeats 8000000 in
theorem implPV_yes (p : ByteArray) (w : World) (hp : Set27 p) : Calls Try.prog 15 #[.string p] w fun e w' => e = .returned (.string (bs (depL (hs p.data.toList)))) ∧ Below w.heap.size w w' := by
  have C := fun w => Lib.hid (implRead_yes p w hp)
  have P0 := fun w => Lib.hid (implDep 120 (by simp) (hs p.data.toList) w)
  have P1 := fun w => Lib.hid (implDep 121 (by simp) (hs p.data.toList) w)
  have P2 := fun w => Lib.hid (implDep 122 (by simp) (hs p.data.toList) w)
  have E0 : Utf8.encode 120 = ⟨#[120]⟩ := rfl
  have E1 : Utf8.encode 121 = ⟨#[121]⟩ := rfl
  have E2 : Utf8.encode 122 = ⟨#[122]⟩ := rfl
  unfold depL
  generalize depB 120 (hs p.data.toList) = b0 at *
  generalize depB 121 (hs p.data.toList) = b1 at *
  generalize depB 122 (hs p.data.toList) = b2 at *
  cases b0 <;> cases b1 <;> cases b2
  all_goals
    go_enter Try.func15, Try.ntmps15
    go_wp2_with fail
    refine (C _).out.mono ?_
    rintro e w' ⟨rfl, rfl⟩
    go_wp2_with fail
    have HI := Lib.hid (World.iter_heap w ⟨#[120, 121, 122]⟩ 0)
    have HB := Lib.hid ((Below.refl _ w).alloc (Nat.le_refl _) (.stringIter ⟨#[120, 121, 122]⟩ 0))
    generalize hW : w.iter ⟨#[120, 121, 122]⟩ 0 = W at *
    rw [show w.alloc (.stringIter ⟨#[120, 121, 122]⟩ 0) = W from hW] at HB
    clear hW
    have HI0 := HI
    clear HI
    have HB0 := HB
    clear HB
    refine wp_loop_rounds 4 ?_
    have nx0 : ∀ ty, (Instr.next (.pointer (some ⟨w.heap.size, 0, none⟩)) true ty).run Try.prog W = .ok (.tuple #[.bool true, .int .i64 0, .int .i32 120]) (W.iterAt w.heap.size ⟨#[120, 121, 122]⟩ 1) := fun ty => Lib.run_next_ascii_at W w.heap.size ⟨#[120, 121, 122]⟩ 0 ty HI0.out (by decide) (by decide)
    rw [rounds_succ]
    go_wp2_with fail
    clear nx0
    have HA0 := Lib.hid (Lib.below_iterAt (k := w.heap.size) HB0.out (Nat.le_refl _) ⟨#[120, 121, 122]⟩ 1)
    have HJ0 := Lib.hid (Lib.iterAt_heap W w.heap.size ⟨#[120, 121, 122]⟩ 0 1 HI0.out)
    refine (P0 _).out.mono ?_
    rintro e w1 ⟨rfl, hb⟩
    have HB1 := Lib.hid (bnext HA0.out hb)
    have HI1 := Lib.hid ((hb.block w.heap.size ((Array.getElem?_eq_some_iff.1 HJ0.out).1)).trans HJ0.out)
    clear hb
    go_wp2_with fail
    have nx1 : ∀ ty, (Instr.next (.pointer (some ⟨w.heap.size, 0, none⟩)) true ty).run Try.prog w1 = .ok (.tuple #[.bool true, .int .i64 1, .int .i32 121]) (w1.iterAt w.heap.size ⟨#[120, 121, 122]⟩ 2) := fun ty => Lib.run_next_ascii_at w1 w.heap.size ⟨#[120, 121, 122]⟩ 1 ty HI1.out (by decide) (by decide)
    rw [rounds_succ]
    go_wp2_with fail
    clear nx1
    have HA1 := Lib.hid (Lib.below_iterAt (k := w.heap.size) HB1.out (Nat.le_refl _) ⟨#[120, 121, 122]⟩ 2)
    have HJ1 := Lib.hid (Lib.iterAt_heap w1 w.heap.size ⟨#[120, 121, 122]⟩ 1 2 HI1.out)
    refine (P1 _).out.mono ?_
    rintro e w2 ⟨rfl, hb⟩
    have HB2 := Lib.hid (bnext HA1.out hb)
    have HI2 := Lib.hid ((hb.block w.heap.size ((Array.getElem?_eq_some_iff.1 HJ1.out).1)).trans HJ1.out)
    clear hb
    go_wp2_with fail
    have nx2 : ∀ ty, (Instr.next (.pointer (some ⟨w.heap.size, 0, none⟩)) true ty).run Try.prog w2 = .ok (.tuple #[.bool true, .int .i64 2, .int .i32 122]) (w2.iterAt w.heap.size ⟨#[120, 121, 122]⟩ 3) := fun ty => Lib.run_next_ascii_at w2 w.heap.size ⟨#[120, 121, 122]⟩ 2 ty HI2.out (by decide) (by decide)
    rw [rounds_succ]
    go_wp2_with fail
    clear nx2
    have HA2 := Lib.hid (Lib.below_iterAt (k := w.heap.size) HB2.out (Nat.le_refl _) ⟨#[120, 121, 122]⟩ 3)
    have HJ2 := Lib.hid (Lib.iterAt_heap w2 w.heap.size ⟨#[120, 121, 122]⟩ 2 3 HI2.out)
    refine (P2 _).out.mono ?_
    rintro e w3 ⟨rfl, hb⟩
    have HB3 := Lib.hid (bnext HA2.out hb)
    have HI3 := Lib.hid ((hb.block w.heap.size ((Array.getElem?_eq_some_iff.1 HJ2.out).1)).trans HJ2.out)
    clear hb
    go_wp2_with fail
    have nx3 : ∀ ty, (Instr.next (.pointer (some ⟨w.heap.size, 0, none⟩)) true ty).run Try.prog w3 = .ok (.tuple #[.bool false]) w3 := fun ty => Lib.run_next_end_at w3 w.heap.size ⟨#[120, 121, 122]⟩ 3 ty HI3.out (by decide)
    rw [rounds_succ]
    go_wp2_with fail
    go_ret
    exact ⟨rfl, HB3.out⟩

set_option maxHeartbeats 1000000 in
theorem implPV_no (p : ByteArray) (w : World) (hp : ¬ Set27 p) : Calls Try.prog 15 #[.string p] w fun e w' => e = .returned (.string (bs [])) ∧ Below w.heap.size w w' := by
  have C := fun w => Lib.hid (implRead_no p w hp)
  clear hp
  go_enter Try.func15, Try.ntmps15
  go_wp2_with fail
  refine (C _).out.mono ?_
  rintro e w' ⟨rfl, rfl⟩
  go_wp2_with fail
  go_ret
  exact ⟨rfl, Below.refl _ _⟩
end Go.Proofs.Ytnhadmeadegckaa
