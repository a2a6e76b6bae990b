/-
  The program's functions on relations: RelValid, CountRel, AndRel, OrRel, NotRel, TurnRel, ComposeRel, ImageOf, ShadowOf, RelWithin.
-/
import Derived.Test.YtheclmdpiijakaaRo
namespace Go.Proofs.Ytheclmdpiijakaa
open Go.RowKit Go.Great

def TextOk (l : List UInt8) (ok : Bool) (w : World) (e : Ending) (w' : World) : Prop := e = .returned (.tuple #[.string (bs l), .bool ok]) ∧ Below w.heap.size w w'
def BoolIs (b : Bool) (w : World) (e : Ending) (w' : World) : Prop := e = .returned (.bool b) ∧ Below w.heap.size w w'
def IntIs (n : Int) (w : World) (e : Ending) (w' : World) : Prop := e = .returned (.int .i64 n) ∧ Below w.heap.size w w'
theorem push2_blk (w : World) (A0 B0 A B : Array Value) (t u : TypeId) : Blk ((((w.alloc (.cells A0 t)).alloc (.cells B0 u)).setRow w.heap.size A).setRow (w.heap.size + 1) B) w.heap.size A t ∧ Blk ((((w.alloc (.cells A0 t)).alloc (.cells B0 u)).setRow w.heap.size A).setRow (w.heap.size + 1) B) (w.heap.size + 1) B u ∧ Below w.heap.size w ((((w.alloc (.cells A0 t)).alloc (.cells B0 u)).setRow w.heap.size A).setRow (w.heap.size + 1) B) := by
  obtain ⟨h1, h2, h3, h4⟩ := two_blk w A0 B0 t u
  exact ⟨(h1.row A).rowOther (by omega) B, (h2.rowOther (by omega) A).row B, Below.setRow (Below.setRow h3 (Nat.le_refl _) A) (by omega) B⟩

set_option maxRecDepth 100000 in
set_option maxHeartbeats 4000000 in
theorem implRelValid_yes (s : ByteArray) (hs : Rel729 s) (w : World) : Calls Try.prog 10 #[.string s] w (BoolIs true w) := by
  have C1 := Lib.hid (readRel_yes s hs)
  clear hs
  go_enter Try.func10, Try.ntmps10
  go_wp2_with fail
  refine (C1.out _).mono ?_
  rintro e w1 ⟨rfl, hb⟩
  have KB := Lib.hid hb
  clear hb
  obtain ⟨p0, pb⟩ := push_blk w1 (relC .u32 noR) (relC .u32 (relS s.data.toList)) 50
  have P0 := Lib.hid p0
  replace KB := Lib.hid (bnext KB.out pb)
  have L0 := Lib.hid (one_blk w1 (relC .u32 noR) 50).1
  clear p0 pb
  go_wp2_with (first
    | (refine r_alloc rfl rfl (some 3) rfl w1.heap.size rfl ?_)
    | (refine wpList_store_row rfl 50 _ _ rfl w1.heap.size (relC .u32 (relS s.data.toList)) (by rfl) (by rfl) 50 (relC .u32 noR) L0.out (infoR _) (by first | rw [relC_size, relC_size] | rw [relC_size]) (relC_one _ _) ?_)
    | (refine wpList_load_row rfl 50 _ rfl w1.heap.size (by rfl) 50 (relC .u32 (relS s.data.toList)) (0, 0) _ P0.out undR rfl (infoR _) ?_))
  go_ret
  exact ⟨rfl, KB.out⟩

set_option maxRecDepth 100000 in
set_option maxHeartbeats 4000000 in
theorem implRelValid_no (s : ByteArray) (hs : ¬ Rel729 s) (w : World) : Calls Try.prog 10 #[.string s] w (BoolIs false w) := by
  have C1 := Lib.hid (readRel_no s hs)
  clear hs
  go_enter Try.func10, Try.ntmps10
  go_wp2_with fail
  refine (C1.out _).mono ?_
  rintro e w1 ⟨rfl, hb⟩
  have KB := Lib.hid hb
  clear hb
  obtain ⟨p0, pb⟩ := push_blk w1 (relC .u32 noR) (relC .u32 noR) 50
  have P0 := Lib.hid p0
  replace KB := Lib.hid (bnext KB.out pb)
  have L0 := Lib.hid (one_blk w1 (relC .u32 noR) 50).1
  clear p0 pb
  go_wp2_with (first
    | (refine r_alloc rfl rfl (some 3) rfl w1.heap.size rfl ?_)
    | (refine wpList_store_row rfl 50 _ _ rfl w1.heap.size (relC .u32 noR) (by rfl) (by rfl) 50 (relC .u32 noR) L0.out (infoR _) (by first | rw [relC_size, relC_size] | rw [relC_size]) (relC_one _ _) ?_)
    | (refine wpList_load_row rfl 50 _ rfl w1.heap.size (by rfl) 50 (relC .u32 noR) (0, 0) _ P0.out undR rfl (infoR _) ?_))
  go_ret
  exact ⟨rfl, KB.out⟩

set_option maxRecDepth 100000 in
set_option maxHeartbeats 4000000 in
theorem implOrRel_yes (s q : ByteArray) (h : Rel729 s ∧ Rel729 q) (w : World) : Calls Try.prog 36 #[.string s, .string q] w (TextOk (relT (fun i j => relS s.data.toList i j || relS q.data.toList i j)) true w) := by
  have C1 := Lib.hid (readRels_yes s q h.1 h.2)
  clear h
  go_enter Try.func36, Try.ntmps36
  go_wp2_with fail
  refine (C1.out _).mono ?_
  rintro e w1 ⟨rfl, hb⟩
  have KB := Lib.hid hb
  clear hb
  obtain ⟨p0, p1, pb⟩ := push2_blk w1 (relC .u32 noR) (relC .u32 noR) (relC .u32 (relS s.data.toList)) (relC .u32 (relS q.data.toList)) 50 50
  have P0 := Lib.hid p0
  have P1 := Lib.hid p1
  replace KB := Lib.hid (bnext KB.out pb)
  obtain ⟨l0, l1, _, _⟩ := two_blk w1 (relC .u32 noR) (relC .u32 noR) 50 50
  have L0 := Lib.hid l0
  have L1 := Lib.hid (l1.rowOther (g := w1.heap.size) (by omega) (relC .u32 (relS s.data.toList)))
  clear p0 p1 pb l0 l1
  go_wp2_with (first
    | (refine r_alloc rfl rfl (some 6) rfl w1.heap.size rfl ?_)
    | (refine r_alloc rfl rfl (some 7) rfl (w1.heap.size + 1) (by simp) ?_)
    | (refine wpList_store_row rfl 50 _ _ rfl w1.heap.size (relC .u32 (relS s.data.toList)) (by rfl) (by rfl) 50 (relC .u32 noR) L0.out (infoR _) (by first | rw [relC_size, relC_size] | rw [relC_size]) (relC_one _ _) ?_)
    | (refine wpList_store_row rfl 50 _ _ rfl (w1.heap.size + 1) (relC .u32 (relS q.data.toList)) (by rfl) (by rfl) 50 (relC .u32 noR) L1.out (infoR _) (by first | rw [relC_size, relC_size] | rw [relC_size]) (relC_one _ _) ?_)
    | (refine wpList_load_row rfl 50 _ rfl w1.heap.size (by rfl) 50 (relC .u32 (relS s.data.toList)) (0, 0) _ P0.out undR rfl (infoR _) ?_)
    | (refine wpList_load_row rfl 50 _ rfl (w1.heap.size + 1) (by rfl) 50 (relC .u32 (relS q.data.toList)) (0, 0) _ P1.out undR rfl (infoR _) ?_))
  refine (rel_or (relS s.data.toList) (relS q.data.toList) _).mono ?_
  rintro e w2 ⟨rfl, hb⟩
  replace KB := Lib.hid (bnext KB.out hb)
  clear hb
  go_wp2_with fail
  refine (rel_text (fun i j => relS s.data.toList i j || relS q.data.toList i j) _).mono ?_
  rintro e w2 ⟨rfl, hb⟩
  replace KB := Lib.hid (bnext KB.out hb)
  clear hb
  go_wp2_with fail
  go_ret2
  exact ⟨rfl, KB.out⟩

set_option maxRecDepth 100000 in
set_option maxHeartbeats 4000000 in
theorem implOrRel_no (s q : ByteArray) (h : ¬ (Rel729 s ∧ Rel729 q)) (w : World) : Calls Try.prog 36 #[.string s, .string q] w (TextOk [] false w) := by
  have C1 := Lib.hid (readRels_no s q h)
  clear h
  go_enter Try.func36, Try.ntmps36
  go_wp2_with fail
  refine (C1.out _).mono ?_
  rintro e w1 ⟨rfl, hb⟩
  have KB := Lib.hid hb
  clear hb
  obtain ⟨p0, p1, pb⟩ := push2_blk w1 (relC .u32 noR) (relC .u32 noR) (relC .u32 noR) (relC .u32 noR) 50 50
  have P0 := Lib.hid p0
  have P1 := Lib.hid p1
  replace KB := Lib.hid (bnext KB.out pb)
  obtain ⟨l0, l1, _, _⟩ := two_blk w1 (relC .u32 noR) (relC .u32 noR) 50 50
  have L0 := Lib.hid l0
  have L1 := Lib.hid (l1.rowOther (g := w1.heap.size) (by omega) (relC .u32 noR))
  clear p0 p1 pb l0 l1
  go_wp2_with (first
    | (refine r_alloc rfl rfl (some 6) rfl w1.heap.size rfl ?_)
    | (refine r_alloc rfl rfl (some 7) rfl (w1.heap.size + 1) (by simp) ?_)
    | (refine wpList_store_row rfl 50 _ _ rfl w1.heap.size (relC .u32 noR) (by rfl) (by rfl) 50 (relC .u32 noR) L0.out (infoR _) (by first | rw [relC_size, relC_size] | rw [relC_size]) (relC_one _ _) ?_)
    | (refine wpList_store_row rfl 50 _ _ rfl (w1.heap.size + 1) (relC .u32 noR) (by rfl) (by rfl) 50 (relC .u32 noR) L1.out (infoR _) (by first | rw [relC_size, relC_size] | rw [relC_size]) (relC_one _ _) ?_)
    | (refine wpList_load_row rfl 50 _ rfl w1.heap.size (by rfl) 50 (relC .u32 noR) (0, 0) _ P0.out undR rfl (infoR _) ?_)
    | (refine wpList_load_row rfl 50 _ rfl (w1.heap.size + 1) (by rfl) 50 (relC .u32 noR) (0, 0) _ P1.out undR rfl (infoR _) ?_))
  go_ret2
  exact ⟨rfl, KB.out⟩

set_option maxRecDepth 100000 in
set_option maxHeartbeats 4000000 in
theorem implComposeRel_yes (s q : ByteArray) (h : Rel729 s ∧ Rel729 q) (w : World) : Calls Try.prog 7 #[.string s, .string q] w (TextOk (relT (compR (relS s.data.toList) (relS q.data.toList))) true w) := by
  have C1 := Lib.hid (readRels_yes s q h.1 h.2)
  clear h
  go_enter Try.func7, Try.ntmps7
  go_wp2_with fail
  refine (C1.out _).mono ?_
  rintro e w1 ⟨rfl, hb⟩
  have KB := Lib.hid hb
  clear hb
  obtain ⟨p0, p1, pb⟩ := push2_blk w1 (relC .u32 noR) (relC .u32 noR) (relC .u32 (relS s.data.toList)) (relC .u32 (relS q.data.toList)) 50 50
  have P0 := Lib.hid p0
  have P1 := Lib.hid p1
  replace KB := Lib.hid (bnext KB.out pb)
  obtain ⟨l0, l1, _, _⟩ := two_blk w1 (relC .u32 noR) (relC .u32 noR) 50 50
  have L0 := Lib.hid l0
  have L1 := Lib.hid (l1.rowOther (g := w1.heap.size) (by omega) (relC .u32 (relS s.data.toList)))
  clear p0 p1 pb l0 l1
  go_wp2_with (first
    | (refine r_alloc rfl rfl (some 6) rfl w1.heap.size rfl ?_)
    | (refine r_alloc rfl rfl (some 7) rfl (w1.heap.size + 1) (by simp) ?_)
    | (refine wpList_store_row rfl 50 _ _ rfl w1.heap.size (relC .u32 (relS s.data.toList)) (by rfl) (by rfl) 50 (relC .u32 noR) L0.out (infoR _) (by first | rw [relC_size, relC_size] | rw [relC_size]) (relC_one _ _) ?_)
    | (refine wpList_store_row rfl 50 _ _ rfl (w1.heap.size + 1) (relC .u32 (relS q.data.toList)) (by rfl) (by rfl) 50 (relC .u32 noR) L1.out (infoR _) (by first | rw [relC_size, relC_size] | rw [relC_size]) (relC_one _ _) ?_)
    | (refine wpList_load_row rfl 50 _ rfl w1.heap.size (by rfl) 50 (relC .u32 (relS s.data.toList)) (0, 0) _ P0.out undR rfl (infoR _) ?_)
    | (refine wpList_load_row rfl 50 _ rfl (w1.heap.size + 1) (by rfl) 50 (relC .u32 (relS q.data.toList)) (0, 0) _ P1.out undR rfl (infoR _) ?_))
  refine (rel_then (relS s.data.toList) (relS q.data.toList) _).mono ?_
  rintro e w2 ⟨rfl, hb⟩
  replace KB := Lib.hid (bnext KB.out hb)
  clear hb
  go_wp2_with fail
  refine (rel_text (compR (relS s.data.toList) (relS q.data.toList)) _).mono ?_
  rintro e w2 ⟨rfl, hb⟩
  replace KB := Lib.hid (bnext KB.out hb)
  clear hb
  go_wp2_with fail
  go_ret2
  exact ⟨rfl, KB.out⟩

set_option maxRecDepth 100000 in
set_option maxHeartbeats 4000000 in
theorem implComposeRel_no (s q : ByteArray) (h : ¬ (Rel729 s ∧ Rel729 q)) (w : World) : Calls Try.prog 7 #[.string s, .string q] w (TextOk [] false w) := by
  have C1 := Lib.hid (readRels_no s q h)
  clear h
  go_enter Try.func7, Try.ntmps7
  go_wp2_with fail
  refine (C1.out _).mono ?_
  rintro e w1 ⟨rfl, hb⟩
  have KB := Lib.hid hb
  clear hb
  obtain ⟨p0, p1, pb⟩ := push2_blk w1 (relC .u32 noR) (relC .u32 noR) (relC .u32 noR) (relC .u32 noR) 50 50
  have P0 := Lib.hid p0
  have P1 := Lib.hid p1
  replace KB := Lib.hid (bnext KB.out pb)
  obtain ⟨l0, l1, _, _⟩ := two_blk w1 (relC .u32 noR) (relC .u32 noR) 50 50
  have L0 := Lib.hid l0
  have L1 := Lib.hid (l1.rowOther (g := w1.heap.size) (by omega) (relC .u32 noR))
  clear p0 p1 pb l0 l1
  go_wp2_with (first
    | (refine r_alloc rfl rfl (some 6) rfl w1.heap.size rfl ?_)
    | (refine r_alloc rfl rfl (some 7) rfl (w1.heap.size + 1) (by simp) ?_)
    | (refine wpList_store_row rfl 50 _ _ rfl w1.heap.size (relC .u32 noR) (by rfl) (by rfl) 50 (relC .u32 noR) L0.out (infoR _) (by first | rw [relC_size, relC_size] | rw [relC_size]) (relC_one _ _) ?_)
    | (refine wpList_store_row rfl 50 _ _ rfl (w1.heap.size + 1) (relC .u32 noR) (by rfl) (by rfl) 50 (relC .u32 noR) L1.out (infoR _) (by first | rw [relC_size, relC_size] | rw [relC_size]) (relC_one _ _) ?_)
    | (refine wpList_load_row rfl 50 _ rfl w1.heap.size (by rfl) 50 (relC .u32 noR) (0, 0) _ P0.out undR rfl (infoR _) ?_)
    | (refine wpList_load_row rfl 50 _ rfl (w1.heap.size + 1) (by rfl) 50 (relC .u32 noR) (0, 0) _ P1.out undR rfl (infoR _) ?_))
  go_ret2
  exact ⟨rfl, KB.out⟩

end Go.Proofs.Ytheclmdpiijakaa
