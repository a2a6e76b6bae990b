/-
  One assignment as a step from the number of a state to the number of the state that it becomes.
-/
import Derived.Test.YtkgdhlpmlpbbkaaGreatTst
import Derived.Test.YtkgdhlpmlpbbkaaGreatSetV
namespace Go.Proofs.YtkgdhlpmlpbbkaaGreat
open Go.RowKit Tm

theorem blk3 {w : World} {b : Nat} {x y z : Value} {t : TypeId} (h : Blk w b #[x, y, z] t) : w.cell? ⟨b, 0, none⟩ = some x ∧ w.cell? ⟨b, 1, none⟩ = some y ∧ w.cell? ⟨b, 2, none⟩ = some z ∧ b < w.heap.size := ⟨h.cell 0, h.cell 1, h.cell 2, h.lt⟩

theorem bswap {w0 w : World} {x y : Obj} (h : Below w0.heap.size w0 (w.alloc x)) (hz : w0.heap.size ≤ w.heap.size) : Below w0.heap.size w0 (w.alloc y) :=
  ⟨h.os, h.tape, h.output, by simp; omega, fun k hk => by
    rw [Below.heap_alloc _ _ _ (by omega), ← h.block k hk, Below.heap_alloc _ _ _ (by omega)]⟩
theorem keep33 {w0 w' : World} {b d : Nat} {x y z p q r : Value} {t u : TypeId} (h : Blk w0 b #[x, y, z] t) (k : Blk w0 d #[p, q, r] u) (hb : Below w0.heap.size w0 w') :
    Below w0.heap.size w0 w' ∧ w'.cell? ⟨b, 0, none⟩ = some x ∧ w'.cell? ⟨b, 1, none⟩ = some y ∧ w'.cell? ⟨b, 2, none⟩ = some z ∧ w'.cell? ⟨d, 0, none⟩ = some p ∧ w'.cell? ⟨d, 1, none⟩ = some q ∧ w'.cell? ⟨d, 2, none⟩ = some r :=
  ⟨hb, (h.kept hb).c3.1, (h.kept hb).c3.2.1, (h.kept hb).c3.2.2, (k.kept hb).c3.1, (k.kept hb).c3.2.1, (k.kept hb).c3.2.2⟩

set_option maxHeartbeats 2000000 in
theorem implStep_of (c : UInt8) (i : Nat) (t : Tm) (B : Nat) (xc : Int) (ya : Option Addr) (yn ym : Nat) (p q r : Int) (w : World) (hi : i < 27) (ht : Ok false false t) (hr : RepT w B t (.int .u8 xc) (.slice ya yn ym))
    (hst : st3 p q r = true)
    (D : ∀ w, Calls Tryz.prog 39 #[.agg #[.int .i64 (ax i), .int .i64 (ay i), .int .i64 (az i)], .string ⟨#[c]⟩, .int .i64 (val (one (ax i) (ay i) (az i)) t)] w fun e w' => e = .returned (.tuple #[.agg #[.int .i64 p, .int .i64 q, .int .i64 r], .bool true]) ∧ Below w.heap.size w w') :
    Calls Tryz.prog 149 #[.agg #[.string ⟨#[c]⟩, .int .u8 xc, .slice ya yn ym], .int .i64 i] w fun e w' => e = .returned (.int .i64 (p + 3 * q + 9 * r)) ∧ Below w.heap.size w w' := by
  have D' := Lib.hid D
  have hat := at_st3 (i := (i : Int)) (by omega) (by omega)
  have hbd := st3_bd hat
  have A := fun w => Lib.hid (implAt_yes i w (by omega) (by omega))
  have V := fun w h => Lib.hid (value_any (ax i) (ay i) (az i) hbd.1 hbd.2.1 hbd.2.2 t B (.int .u8 xc) (.slice ya yn ym) w ht h)
  have I := fun w => Lib.hid (implIx_yes p q r w hst)
  have HR := Lib.hid (hr.below ((Below.refl _ w).alloc (Nat.le_refl _) (.cells #[.string ⟨#[c]⟩, .int .u8 xc, .slice ya yn ym] 115)))
  have HK := Lib.hid (Blk.new w #[.string ⟨#[c]⟩, .int .u8 xc, .slice ya yn ym] 115)
  clear D hat hbd hr hst
  go_enter Tryz.func149, Tryz.ntmps149
  go_wp2_with fail
  refine (A _).out.mono ?_
  rintro e w1 ⟨rfl, hb⟩
  have HB1 := Lib.hid (bbox hb)
  have HK1 := Lib.hid (HK.out.kept hb)
  have HR1 := Lib.hid (HR.out.below hb)
  clear hb HK HR
  obtain ⟨q0, q1, q2, hl1⟩ := blk3 HK1.out
  have HA1 := Lib.hid (Blk.new w1 #[.int .i64 (ax i), .int .i64 (ay i), .int .i64 (az i)] 33)
  have hbx := (Below.refl _ w1).alloc (Nat.le_refl _) (.cells #[.int .i64 (ax i), .int .i64 (ay i), .int .i64 (az i)] 33)
  have HBx := Lib.hid (bnext HB1.out hbx)
  have HRx := Lib.hid (HR1.out.below hbx)
  have HKx := Lib.hid (HK1.out.kept hbx)
  clear hbx
  go_wp2_with fail
  generalize w1.alloc (.cells #[.int .i64 (ax i), .int .i64 (ay i), .int .i64 (az i)] 33) = w0 at *
  clear q0 q1 q2
  obtain ⟨q0, q1, q2⟩ := HKx.out.c3
  obtain ⟨r0, r1, r2⟩ := HA1.out.c3
  have hbb := (Below.refl w0.heap.size w0).drew
  clear hl1
  go_region_held3 (fun w' => Below w0.heap.size w0 w' ∧ w'.cell? ⟨w.heap.size, 0, none⟩ = some (.string ⟨#[c]⟩) ∧ w'.cell? ⟨w.heap.size, 1, none⟩ = some (.int .u8 xc) ∧ w'.cell? ⟨w.heap.size, 2, none⟩ = some (.slice ya yn ym) ∧
      w'.cell? ⟨w1.heap.size, 0, none⟩ = some (.int .i64 (ax i)) ∧ w'.cell? ⟨w1.heap.size, 1, none⟩ = some (.int .i64 (ay i)) ∧ w'.cell? ⟨w1.heap.size, 2, none⟩ = some (.int .i64 (az i)))
    ((first
      | exact keep33 HKx.out HA1.out (by assumption)
      | (go_split_ands; exact keep33 HKx.out HA1.out (bnext (by assumption) hq))
      | (go_split_ands; exact keep33 HKx.out HA1.out (bput (by assumption) _))
      | (go_split_ands; exact keep33 HKx.out HA1.out (bswap (by assumption) hz))
      | (go_split_ands; exact keep33 HKx.out HA1.out (Below.setCell (Below.setCell (Below.setCell (by assumption) (by simp; omega) _) (by simp; omega) _) (by simp; omega) _))
      | (go_split_ands; exact keep33 HKx.out HA1.out (Below.setCell (Below.setCell (Below.setCell (by assumption) (by simp) _) (by simp) _) (by simp) _))))
    (first
      | (go_at_call 144; (with_reducible refine (V _ (HRx.out.below (by go_split_ands; assumption))).out.mono ?_); rintro e w2 ⟨rfl, hq⟩; have hz : w0.heap.size ≤ w2.heap.size := (bnext (by go_split_ands; assumption) hq).size; obtain ⟨hcq, hfq⟩ := bcell hq; have hs := hq.size; try simp at hs; try replace hs := Nat.lt_of_succ_le hs)
      | (go_at_call 39; (with_reducible refine (D'.out _).mono ?_); rintro e w2 ⟨rfl, hq⟩; have hz : w0.heap.size ≤ w2.heap.size := (bnext (by go_split_ands; assumption) hq).size; obtain ⟨hcq, hfq⟩ := bcell hq; have hs := hq.size; try simp at hs; try replace hs := Nat.lt_of_succ_le hs))
  all_goals
    go_split_ands
    have HF := Lib.hid (bnext HBx.out (by assumption))
    go_wp2_with fail
    refine (I _).out.mono ?_
    rintro e w9 ⟨rfl, hb⟩
    have HF2 := Lib.hid (bnext HF.out hb)
    clear hb
    go_wp2_with fail
    go_ret
    exact ⟨rfl, HF2.out⟩
end Go.Proofs.YtkgdhlpmlpbbkaaGreat
