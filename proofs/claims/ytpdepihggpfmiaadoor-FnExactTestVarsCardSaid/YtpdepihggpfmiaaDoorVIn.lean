/-
  impl.variablesIn: the letters of variables that occur in a text, in order.
-/
import Derived.Test.YtpdepihggpfmiaaDoorSpecVars
import Derived.Test.YtpdepihggpfmiaaDoorBlk
import Derived.Test.YtpdepihggpfmiaaDoorShelf
import Derived.Lib.OthersKept
namespace Go.Proofs.YtpdepihggpfmiaaDoor
open Go.RowKit Tm

theorem vi_fnd (l : List UInt8) (c : UInt8) : decide (0 ≤ Lib.indexByte l c) = decide (0 ≤ fnd l c) := by
  have h : 0 ≤ Lib.indexByte l c ↔ 0 ≤ fnd l c := by
    induction l with
    | nil => simp [Lib.indexByte, fnd]
    | cons b l ih =>
      rw [fnd_cons, ← ih]
      have hge := Lib.indexByte_ge l c
      show 0 ≤ (if b == c then 0 else if Lib.indexByte l c == -1 then -1 else Lib.indexByte l c + 1) ↔ _
      rw [show (c == b) = (b == c) by rw [Bool.eq_iff_iff, beq_iff_eq, beq_iff_eq]; exact eq_comm]
      cases hb : b == c
      · simp
        by_cases h1 : Lib.indexByte l c = -1
        · simp [h1]
        · simp [h1]; omega
      · simp
  by_cases h1 : 0 ≤ fnd l c
  · rw [decide_eq_true h1, decide_eq_true (h.2 h1)]
  · rw [decide_eq_false h1, decide_eq_false (fun h2 => h1 (h.1 h2))]

def viHas (s : ByteArray) (c : UInt8) : Bool := decide (0 ≤ fnd s.data.toList c)
def viL (b : Bool) (c : UInt8) : List UInt8 := if b then [c] else []
theorem vi_one (s : ByteArray) (c : UInt8) (w : World) : Calls Tryd.prog 75 #[.string s, .string ⟨#[c]⟩] w fun e w' => e = .returned (.bool (viHas s c)) ∧ w' = w := by
  refine (Tryd.strings_Contains_one s c w).mono fun e w' ⟨h1, h2⟩ => ⟨?_, h2⟩
  rw [h1, vi_fnd]
  rfl
structure ViS (w V : World) (g : Nat) (s : ByteArray) : Prop where
  r0 : Blk V g #[.string s] 9
  rb : Below w.heap.size w V
theorem ViS.iterAt {w V : World} {g : Nat} {s : ByteArray} (h : ViS w V g s) {K : Nat} (hK : g < K) (hw : w.heap.size ≤ K) (x : ByteArray) (p : Nat) : ViS w (V.iterAt K x p) g s :=
  ⟨(Lib.iterAt_other V K _ x p (by omega)).trans h.r0, Lib.below_iterAt h.rb hw x p⟩
theorem vi_list3 (s : ByteArray) : vlist [120, 121, 122] s.data.toList = viL (viHas s 120) 120 ++ (viL (viHas s 121) 121 ++ viL (viHas s 122) 122) := by
  unfold vlist viL viHas
  simp only [List.filter_cons, List.filter_nil]
  generalize decide (0 ≤ fnd s.data.toList 120) = b0
  generalize decide (0 ≤ fnd s.data.toList 121) = b1
  generalize decide (0 ≤ fnd s.data.toList 122) = b2
  cases b0 <;> cases b1 <;> cases b2 <;> rfl
set_option maxHeartbeats 4000000 in
theorem vi_cl (s v : ByteArray) (b : Bool) (g : Nat) (w : World) (hg : Blk w g #[.string s] 9) (x : ∀ w, Calls Tryd.prog 75 #[.string s, .string v] w fun e w' => e = .returned (.bool b) ∧ w' = w) :
    Calls Tryd.prog 74 #[.string v, .pointer (some ⟨g, 0, none⟩)] w fun e w' => e = .returned (.bool b) ∧ w' = w := by
  have X := Lib.hid x
  have q0 := hg.c1
  clear x hg
  go_enter Tryd.func74, Tryd.ntmps74
  go_wp2_with fail
  refine (X.out _).mono ?_
  rintro e w' ⟨rfl, rfl⟩
  go_wp2_with fail
  go_ret
  exact ⟨rfl, rfl⟩
set_option maxRecDepth 100000 in
set_option maxHeartbeats 8000000 in
theorem vi_vw (s : ByteArray) (b0 b1 b2 : Bool) (g : Nat) (w : World) (hg : Blk w g #[.string s] 9)
    (x0 : ∀ w, Calls Tryd.prog 75 #[.string s, .string ⟨#[120]⟩] w fun e w' => e = .returned (.bool b0) ∧ w' = w)
    (x1 : ∀ w, Calls Tryd.prog 75 #[.string s, .string ⟨#[121]⟩] w fun e w' => e = .returned (.bool b1) ∧ w' = w)
    (x2 : ∀ w, Calls Tryd.prog 75 #[.string s, .string ⟨#[122]⟩] w fun e w' => e = .returned (.bool b2) ∧ w' = w) :
    Calls Tryd.prog 73 #[.func (.func 74) #[] #[.pointer (some ⟨g, 0, none⟩)]] w fun e w' => e = .returned (.string (bs (viL b0 120 ++ (viL b1 121 ++ viL b2 122)))) ∧ Below w.heap.size w w' := by
  have X0 := Lib.hid x0
  have X1 := Lib.hid x1
  have X2 := Lib.hid x2
  have E0 : Utf8.encode 120 = ⟨#[120]⟩ := rfl
  have E1 : Utf8.encode 121 = ⟨#[121]⟩ := rfl
  have E2 : Utf8.encode 122 = ⟨#[122]⟩ := rfl
  have HI0 := Lib.hid (World.iter_heap w ⟨#[120, 121, 122]⟩ 0)
  have AG0 : Hid (ViS w (w.iter ⟨#[120, 121, 122]⟩ 0) g s) := ⟨(hg.alloc (.stringIter ⟨#[120, 121, 122]⟩ 0)), (Below.refl _ _).alloc (Nat.le_refl _) (.stringIter ⟨#[120, 121, 122]⟩ 0)⟩
  have HK := Lib.hid hg.lt
  clear x0 x1 x2 hg
  cases b0 <;> cases b1 <;> cases b2
  all_goals
    go_enter Tryd.func73, Tryd.ntmps73
    go_wp2_with fail
    generalize w.iter ⟨#[120, 121, 122]⟩ 0 = V0 at *
    refine wp_loop_rounds 4 ?_
    have nx : ∀ ty, (Instr.next (.pointer (some ⟨w.heap.size, 0, none⟩)) true ty).run Tryd.prog V0 = .ok (.tuple #[.bool true, .int .i64 0, .int .i32 120]) (V0.iterAt w.heap.size ⟨#[120, 121, 122]⟩ 1) := fun ty => Lib.run_next_ascii_at V0 _ ⟨#[120, 121, 122]⟩ 0 ty HI0.out (by decide) (by decide)
    have HI1 := Lib.hid (Lib.iterAt_heap V0 w.heap.size ⟨#[120, 121, 122]⟩ 0 1 HI0.out)
    have AG1 := Lib.hid (AG0.out.iterAt HK.out (Nat.le_refl _) ⟨#[120, 121, 122]⟩ 1)
    have C := Lib.hid (vi_cl s ⟨#[120]⟩ _ g _ AG1.out.r0 X0.out)
    rw [rounds_succ]
    go_wp2_with fail
    refine C.out.mono ?_
    rintro e w' ⟨rfl, rfl⟩
    go_wp2_with fail
    clear nx C HI0 AG0
    generalize V0.iterAt w.heap.size ⟨#[120, 121, 122]⟩ 1 = V1 at *
    have nx : ∀ ty, (Instr.next (.pointer (some ⟨w.heap.size, 0, none⟩)) true ty).run Tryd.prog V1 = .ok (.tuple #[.bool true, .int .i64 1, .int .i32 121]) (V1.iterAt w.heap.size ⟨#[120, 121, 122]⟩ 2) := fun ty => Lib.run_next_ascii_at V1 _ ⟨#[120, 121, 122]⟩ 1 ty HI1.out (by decide) (by decide)
    have HI2 := Lib.hid (Lib.iterAt_heap V1 w.heap.size ⟨#[120, 121, 122]⟩ 1 2 HI1.out)
    have AG2 := Lib.hid (AG1.out.iterAt HK.out (Nat.le_refl _) ⟨#[120, 121, 122]⟩ 2)
    have C := Lib.hid (vi_cl s ⟨#[121]⟩ _ g _ AG2.out.r0 X1.out)
    rw [rounds_succ]
    go_wp2_with fail
    refine C.out.mono ?_
    rintro e w' ⟨rfl, rfl⟩
    go_wp2_with fail
    clear nx C HI1 AG1
    generalize V1.iterAt w.heap.size ⟨#[120, 121, 122]⟩ 2 = V2 at *
    have nx : ∀ ty, (Instr.next (.pointer (some ⟨w.heap.size, 0, none⟩)) true ty).run Tryd.prog V2 = .ok (.tuple #[.bool true, .int .i64 2, .int .i32 122]) (V2.iterAt w.heap.size ⟨#[120, 121, 122]⟩ 3) := fun ty => Lib.run_next_ascii_at V2 _ ⟨#[120, 121, 122]⟩ 2 ty HI2.out (by decide) (by decide)
    have HI3 := Lib.hid (Lib.iterAt_heap V2 w.heap.size ⟨#[120, 121, 122]⟩ 2 3 HI2.out)
    have AG3 := Lib.hid (AG2.out.iterAt HK.out (Nat.le_refl _) ⟨#[120, 121, 122]⟩ 3)
    have C := Lib.hid (vi_cl s ⟨#[122]⟩ _ g _ AG3.out.r0 X2.out)
    rw [rounds_succ]
    go_wp2_with fail
    refine C.out.mono ?_
    rintro e w' ⟨rfl, rfl⟩
    go_wp2_with fail
    clear nx C HI2 AG2
    generalize V2.iterAt w.heap.size ⟨#[120, 121, 122]⟩ 3 = V3 at *
    have nx : ∀ ty, (Instr.next (.pointer (some ⟨w.heap.size, 0, none⟩)) true ty).run Tryd.prog V3 = .ok (.tuple #[.bool false]) V3 := fun ty => Lib.run_next_end_at V3 _ ⟨#[120, 121, 122]⟩ 3 ty HI3.out (by decide)
    rw [rounds_succ]
    go_wp2_with fail
    go_ret
    exact ⟨rfl, AG3.out.rb⟩
set_option maxHeartbeats 4000000 in
theorem vi_of (s : ByteArray) (b0 b1 b2 : Bool) (w : World)
    (x0 : ∀ w, Calls Tryd.prog 75 #[.string s, .string ⟨#[120]⟩] w fun e w' => e = .returned (.bool b0) ∧ w' = w)
    (x1 : ∀ w, Calls Tryd.prog 75 #[.string s, .string ⟨#[121]⟩] w fun e w' => e = .returned (.bool b1) ∧ w' = w)
    (x2 : ∀ w, Calls Tryd.prog 75 #[.string s, .string ⟨#[122]⟩] w fun e w' => e = .returned (.bool b2) ∧ w' = w) :
    Calls Tryd.prog 64 #[.string s] w fun e w' => e = .returned (.string (bs (viL b0 120 ++ (viL b1 121 ++ viL b2 122)))) ∧ Below w.heap.size w w' := by
  have C := Lib.hid (vi_vw s b0 b1 b2 w.heap.size (w.alloc (.cells #[.string s] 9)) (Blk.new w #[.string s] 9) x0 x1 x2)
  have KB := Lib.hid ((Below.refl w.heap.size w).alloc (Nat.le_refl _) (.cells #[.string s] 9))
  clear x0 x1 x2
  generalize bs (viL b0 120 ++ (viL b1 121 ++ viL b2 122)) = res at *
  go_enter Tryd.func64, Tryd.ntmps64
  go_wp2_with fail
  refine C.out.mono ?_
  rintro e w2 ⟨rfl, hb⟩
  have HB := Lib.hid (bnext KB.out hb)
  clear hb
  go_wp2_with fail
  go_ret
  exact ⟨rfl, HB.out⟩

theorem vIn_any (s : ByteArray) (w : World) : Calls Tryd.prog 64 #[.string s] w fun e w' => e = .returned (.string (bs (vlist [120, 121, 122] s.data.toList))) ∧ Below w.heap.size w w' := by
  rw [vi_list3]
  exact vi_of s _ _ _ w (fun w => vi_one s 120 w) (fun w => vi_one s 121 w) (fun w => vi_one s 122 w)
end Go.Proofs.YtpdepihggpfmiaaDoor
