/-
  HasPair of the program at valid states, over the number of a pair (relation.has and pair.number as they stand at 58f2a2e).
-/
import Derived.Test.YtheclmdpiijakaaGreatDoorRt
import Derived.Test.YtheclmdpiijakaaGreatDoorSetJ
import Derived.Test.YtheclmdpiijakaaGreatDoorTopG
import Derived.Deep.RegionHeld3
import Derived.Deep.MidRow
namespace Go.Proofs.YtheclmdpiijakaaGreatDoor
open Go.RowKit Go.Great

set_option maxRecDepth 100000 in
set_option maxHeartbeats 4000000 in
theorem pair_num (x y z x' y' z' : Int) (h : st3 x y z = true) (h' : st3 x' y' z' = true) (w : World) : Calls Tryz.prog 58 #[.agg #[.int .i64 x, .int .i64 y, .int .i64 z, .int .i64 x', .int .i64 y', .int .i64 z']] w fun e w' => e = .returned (.int .i64 ((ixs x y z + 27 * ixs x' y' z' : Nat) : Int)) ∧ Below w.heap.size w w' := by
  have hi := ixs_lt h
  have hi' := ixs_lt h'
  have I := fun w => Lib.hid (implIx_yes x y z w h)
  rw [← hi.2] at I
  have I' := fun w => Lib.hid (implIx_yes x' y' z' w h')
  rw [← hi'.2] at I'
  have l1 := hi.1
  have l2 := hi'.1
  clear hi hi' h h'
  generalize ixs x y z = i at *
  generalize ixs x' y' z' = j at *
  have ew1 : IntKind.i64.wrap (27 * (j : Int)) = 27 * (j : Int) := IntWalk.i64_in _ (by omega)
  have ew2 : IntKind.i64.wrap ((i : Int) + 27 * (j : Int)) = ((i + 27 * j : Nat) : Int) := (IntWalk.i64_in _ (by omega)).trans (by omega)
  obtain ⟨k0, kb, kz⟩ := one_blk w #[.int .i64 x, .int .i64 y, .int .i64 z, .int .i64 x', .int .i64 y', .int .i64 z'] 80
  have K0 := Lib.hid k0
  have KB := Lib.hid kb
  clear k0 kb kz l1 l2
  go_enter Tryz.func58, Tryz.ntmps58
  go_wp2_with fail
  generalize w.alloc (.cells #[.int .i64 x, .int .i64 y, .int .i64 z, .int .i64 x', .int .i64 y', .int .i64 z'] 80) = wx at *
  have q0 := K0.out.cell 0
  have q1 := K0.out.cell 1
  have q2 := K0.out.cell 2
  have q3 := K0.out.cell 3
  have q4 := K0.out.cell 4
  have q5 := K0.out.cell 5
  simp at q0 q1 q2 q3 q4 q5
  have hbb := (Below.refl wx.heap.size wx).drew
  have RG : ∀ w', Below wx.heap.size wx w' → Below wx.heap.size wx w' ∧ w'.cell? ⟨w.heap.size, 0, none⟩ = some (.int .i64 x) ∧ w'.cell? ⟨w.heap.size, 1, none⟩ = some (.int .i64 y) ∧ w'.cell? ⟨w.heap.size, 2, none⟩ = some (.int .i64 z) ∧ w'.cell? ⟨w.heap.size, 3, none⟩ = some (.int .i64 x') ∧ w'.cell? ⟨w.heap.size, 4, none⟩ = some (.int .i64 y') ∧ w'.cell? ⟨w.heap.size, 5, none⟩ = some (.int .i64 z') := fun w' h => ⟨h, ckeep h q0, ckeep h q1, ckeep h q2, ckeep h q3, ckeep h q4, ckeep h q5⟩
  have RG' := Lib.hid RG
  clear RG
  go_region_held3 (fun w' => Below wx.heap.size wx w' ∧ w'.cell? ⟨w.heap.size, 0, none⟩ = some (.int .i64 x) ∧ w'.cell? ⟨w.heap.size, 1, none⟩ = some (.int .i64 y) ∧ w'.cell? ⟨w.heap.size, 2, none⟩ = some (.int .i64 z) ∧ w'.cell? ⟨w.heap.size, 3, none⟩ = some (.int .i64 x') ∧ w'.cell? ⟨w.heap.size, 4, none⟩ = some (.int .i64 y') ∧ w'.cell? ⟨w.heap.size, 5, none⟩ = some (.int .i64 z'))
    ((first
      | exact RG'.out _ (by assumption)
      | (go_split_ands; exact RG'.out _ (by assumption))
      | (go_split_ands; exact RG'.out _ (bnext (by assumption) hq))))
    (first
      | (go_at_call 93; (with_reducible refine (I _).out.mono ?_); rintro e w5 ⟨rfl, hq⟩)
      | (go_at_call 93; (with_reducible refine (I' _).out.mono ?_); rintro e w5 ⟨rfl, hq⟩))
  all_goals
    go_split_ands
    have HF := Lib.hid (bnext KB.out (by assumption))
    go_wp2_with fail
    go_ret
    exact ⟨rfl, HF.out⟩

set_option maxRecDepth 100000 in
set_option maxHeartbeats 4000000 in
theorem rel_hasn (A : Nat → Nat → Bool) (i j : Nat) (hi : i < 27) (hj : j < 27) (w : World) : Calls Tryz.prog 57 #[.agg (relC .u32 A), .int .i64 (i + 27 * j : Nat)] w fun e w' => e = .returned (.bool (A i j)) ∧ Below w.heap.size w w' := by
  obtain ⟨k0, kb, kz⟩ := one_blk w (relC .u32 A) 56
  have c0 := rel_cell k0 hi
  have KB := Lib.hid kb
  have C := fun w => Lib.hid (implHasB (A i) j w hj)
  have h1 : (0 : Int) ≤ (i : Int) := by omega
  have h2 : (i : Int) < 27 := by omega
  obtain ⟨n, hn⟩ : ∃ n : Nat, n = i + 27 * j := ⟨_, rfl⟩
  have hr : ((n : Int)).tmod 27 = (i : Int) := by rw [Int.tmod_eq_emod_of_nonneg (by omega)]; omega
  have hq : ((n : Int)).tdiv 27 = (j : Int) := by rw [Int.tdiv_eq_ediv_of_nonneg (by omega)]; omega
  have hr' : ((n : Int)) % 27 = (i : Int) := by omega
  have hq' : ((n : Int)) / 27 = (j : Int) := by omega
  have hn0 : (0 : Int) ≤ (n : Int) := by omega
  rw [← hn]
  clear k0 kb kz hn
  go_enter Tryz.func57, Tryz.ntmps57
  go_wp2_with (refine wpList_boxTo rfl 56 _ rfl (some 2) rfl w.heap.size rfl (relC .u32 A) (by rfl) ?_)
  generalize w.alloc (.cells (relC .u32 A) 56) = w0 at *
  go_wp2_with fail
  refine (C _).out.mono ?_
  rintro e w2 ⟨rfl, rfl⟩
  go_wp2_with fail
  go_ret
  exact ⟨rfl, KB.out⟩

set_option maxRecDepth 100000 in
set_option maxHeartbeats 8000000 in
theorem implHasPair (s : ByteArray) (x y z x' y' z' : Int) (hs : Rel729 s) (h : st3 x y z = true) (h' : st3 x' y' z' = true) (w : World) : Calls Tryz.prog 25 #[.string s, .agg #[.int .i64 x, .int .i64 y, .int .i64 z], .agg #[.int .i64 x', .int .i64 y', .int .i64 z']] w (BoolIs (relS s.data.toList (ixs x y z) (ixs x' y' z')) w) := by
  have C1 := Lib.hid (readRel_yes s hs)
  have V := fun w => Lib.hid (implStateValid x y z w)
  rw [h] at V
  have V' := fun w => Lib.hid (implStateValid x' y' z' w)
  rw [h'] at V'
  have hi := ixs_lt h
  have hi' := ixs_lt h'
  have PN := fun w => Lib.hid (pair_num x y z x' y' z' h h' w)
  have HH := fun w => rel_hasn (relS s.data.toList) _ _ hi.1 hi'.1 w
  have HH2 : ∀ w, Calls Tryz.prog 57 #[.agg (relC .u32 (relS s.data.toList)).toList.toArray, .int .i64 (ixs x y z + 27 * ixs x' y' z' : Nat)] w fun e w' => e = .returned (.bool (relS s.data.toList (ixs x y z) (ixs x' y' z'))) ∧ Below w.heap.size w w' := fun w => by rw [Array.toArray_toList]; exact HH w
  replace HH := fun w => Lib.hid (HH w)
  replace HH2 := fun w => Lib.hid (HH2 w)
  clear hi hi' hs h h'
  generalize hb0 : relS s.data.toList (ixs x y z) (ixs x' y' z') = b at *
  generalize ixs x y z + 27 * ixs x' y' z' = n at *
  clear hb0
  obtain ⟨b1, b2, bb, bz⟩ := two_blk w #[.int .i64 x, .int .i64 y, .int .i64 z] #[.int .i64 x', .int .i64 y', .int .i64 z'] 39 39
  have B1 := Lib.hid b1
  have B2 := Lib.hid b2
  have KB := Lib.hid bb
  have BZ := Lib.hid bz
  clear b1 b2 bb bz
  go_enter Tryz.func25, Tryz.ntmps25
  go_wp2_with fail
  generalize (w.alloc (.cells #[.int .i64 x, .int .i64 y, .int .i64 z] 39)).alloc (.cells #[.int .i64 x', .int .i64 y', .int .i64 z'] 39) = w0 at *
  refine (C1.out _).mono ?_
  rintro e w1 ⟨rfl, hb⟩
  replace KB := Lib.hid (bnext KB.out hb)
  obtain ⟨p0, pb⟩ := push_blk w1 (relC .u32 noR) (relC .u32 (relS s.data.toList)) 56
  have P0 := Lib.hid p0
  replace B1 := Lib.hid ((B1.out.kept hb).kept pb)
  replace B2 := Lib.hid ((B2.out.kept hb).kept pb)
  replace KB := Lib.hid (bnext KB.out pb)
  have L0 := Lib.hid (one_blk w1 (relC .u32 noR) 56).1
  clear p0 pb hb
  go_wp2_with (first
    | (refine r_alloc rfl rfl (some 7) rfl w1.heap.size rfl ?_)
    | (refine wpList_store_row rfl 56 _ _ rfl w1.heap.size (relC .u32 (relS s.data.toList)) (by rfl) (by rfl) 56 (relC .u32 noR) L0.out (infoR _) (by first | rw [relC_size, relC_size] | rw [relC_size]) (relC_one _ _) ?_))
  clear L0
  generalize hwx : (w1.alloc (.cells (relC .u32 noR) 56)).setRow w1.heap.size (relC .u32 (relS s.data.toList)) = wx at *
  clear hwx
  obtain ⟨g, hg⟩ : ∃ g, w1.heap.size = g := ⟨_, rfl⟩
  rw [hg] at P0 ⊢
  clear hg
  obtain ⟨q0, q1, q2⟩ := B1.out.c3
  obtain ⟨q3, q4, q5⟩ := B2.out.c3
  have qr : wx.rangeAt g 0 (relC .u32 (relS s.data.toList)).toList := fun j v hv => by
    rw [Nat.zero_add, P0.out.cell j]
    simpa using hv
  have hu := undR
  have hinf : (Tryz.prog.info? 56).map (·.size) = some (relC .u32 (relS s.data.toList)).toList.length := by rw [Array.length_toList]; exact infoR _
  have hbb := (Below.refl wx.heap.size wx).drew
  have RG : ∀ w', Below wx.heap.size wx w' → Below wx.heap.size wx w' ∧ w'.cell? ⟨w.heap.size, 0, none⟩ = some (.int .i64 x) ∧ w'.cell? ⟨w.heap.size, 1, none⟩ = some (.int .i64 y) ∧ w'.cell? ⟨w.heap.size, 2, none⟩ = some (.int .i64 z) ∧ w'.cell? ⟨w.heap.size + 1, 0, none⟩ = some (.int .i64 x') ∧ w'.cell? ⟨w.heap.size + 1, 1, none⟩ = some (.int .i64 y') ∧ w'.cell? ⟨w.heap.size + 1, 2, none⟩ = some (.int .i64 z') ∧ w'.rangeAt g 0 (relC .u32 (relS s.data.toList)).toList := fun w' h => ⟨h, ckeep h q0, ckeep h q1, ckeep h q2, ckeep h q3, ckeep h q4, ckeep h q5, fun j v hv => ckeep h (qr j v hv)⟩
  have RG' := Lib.hid RG
  clear RG q0 q1 q2 q3 q4 q5 qr
  go_region_held3 (fun w' => Below wx.heap.size wx w' ∧ w'.cell? ⟨w.heap.size, 0, none⟩ = some (.int .i64 x) ∧ w'.cell? ⟨w.heap.size, 1, none⟩ = some (.int .i64 y) ∧ w'.cell? ⟨w.heap.size, 2, none⟩ = some (.int .i64 z) ∧ w'.cell? ⟨w.heap.size + 1, 0, none⟩ = some (.int .i64 x') ∧ w'.cell? ⟨w.heap.size + 1, 1, none⟩ = some (.int .i64 y') ∧ w'.cell? ⟨w.heap.size + 1, 2, none⟩ = some (.int .i64 z') ∧ w'.rangeAt g 0 (relC .u32 (relS s.data.toList)).toList)
    ((first
      | exact RG'.out _ (by assumption)
      | (go_split_ands; exact RG'.out _ (bnext (by assumption) hq))))
    (first
      | (go_at_call 56; (with_reducible refine (V _).out.mono ?_); rintro e w5 ⟨rfl, hq⟩)
      | (go_at_call 56; (with_reducible refine (V' _).out.mono ?_); rintro e w5 ⟨rfl, hq⟩)
      | (go_at_call 58; (with_reducible refine (PN _).out.mono ?_); rintro e w5 ⟨rfl, hq⟩)
      | (go_at_call 57; (with_reducible refine (HH _).out.mono ?_); rintro e w5 ⟨rfl, hq⟩)
      | (go_at_call 57; (with_reducible refine (HH2 _).out.mono ?_); rintro e w5 ⟨rfl, hq⟩))
  all_goals
    go_split_ands
    have HF := Lib.hid (bnext KB.out (by assumption))
    go_wp2_with fail
    go_ret
    exact ⟨rfl, HF.out⟩
end Go.Proofs.YtheclmdpiijakaaGreatDoor
