/-
  How a run ends at a point behind which none comes: impl.(*walk).end.
-/
import Derived.Test.YtinjmdjnkneidaaGreatDoorWk0
import Derived.Deep.AppendLies
import Derived.RegionTactic
namespace Go.Proofs.YtinjmdjnkneidaaGreatDoor
open Go.RowKit Tm Go.ChangeMaps

def EndPost (BB bw bm : Nat) (sp : Value) (st : Int) (m : Mp) (ev : Value) (E : List Nat) (lo bl : Bool) (w : World) (e : Ending) (w' : World) : Prop :=
  e = .returned (.tuple #[]) ∧ ∃ ev', WkW w' BB bw bm sp st m ev' E lo bl ∧ Kpp (wkP bw bm ev) w w'

set_option maxRecDepth 100000 in
set_option maxHeartbeats 4000000 in
theorem end_other {BB bw bm : Nat} {sp : Value} {st : Int} {m : Mp} {ev : Value} {E : List Nat} {lo bl : Bool} (k i : Nat) (hk : 0 < k) (w : World) (h : WkW w BB bw bm sp st m ev E lo bl) :
    Calls Tryz.prog 209 #[.pointer (some ⟨bw, 0, none⟩), .agg #[.int .i64 k, .int .i64 i]] w (EndPost BB bw bm sp st m ev E lo true w) := by
  have hk' : ((k : Int) == 0) = false := by rw [beq_eq_false_iff_ne]; omega
  have hlt := h.blk.lt
  obtain ⟨_, _, _, _, _, q⟩ := h.cells
  obtain ⟨_, _, fr⟩ := h.free'
  have H := Lib.hid h
  clear h
  go_enter Tryz.func209, Tryz.ntmps209
  go_wp2_with fail
  go_end0
  refine ⟨rfl, ev, (H.out.setBl true).kept ((Below.refl _ _).alloc (Nat.le_refl _) _), ((Kpp.refl _ _).set (q := ⟨bw, 5, none⟩) (.inl rfl) _).next ((Below.refl _ _).alloc (Nat.le_refl _) _)⟩

set_option maxRecDepth 100000 in
set_option maxHeartbeats 4000000 in
theorem end_zero {BB bw bm : Nat} {sp : Value} {st : Int} {m : Mp} {ev : Value} {E : List Nat} {lo bl : Bool} (i : Nat) (w : World) (h : WkW w BB bw bm sp st m ev E lo bl) (hBB : BB ≤ w.heap.size) (hE : E.length ≤ 2000000) :
    Calls Tryz.prog 209 #[.pointer (some ⟨bw, 0, none⟩), .agg #[.int .i64 0, .int .i64 i]] w (EndPost BB bw bm sp st m ev (E ++ [i]) lo bl w) := by
  obtain ⟨i0, hi0, hz0, hz1, hz2⟩ := info_parts infoInt
  have H := Lib.hid h
  have hlt := h.blk.lt
  obtain ⟨_, _, _, q3, _, _⟩ := h.cells
  obtain ⟨f3, _, _⟩ := h.free'
  clear h
  go_enter Tryz.func209, Tryz.ntmps209
  go_wp2_with fail
  have HX := Lib.hid ((Below.refl w.heap.size w).alloc (Nat.le_refl _) (.cells #[.int .i64 0, .int .i64 i] 104))
  have H0 := Lib.hid (H.out.kept HX.out)
  have PB := Lib.hid (Blk.new w #[.int .i64 0, .int .i64 i] 104)
  clear H hlt q3 f3
  generalize w.alloc (.cells #[.int .i64 0, .int .i64 i] 104) = w0 at *
  have p1 : w0.cell? ⟨w.heap.size, 1, none⟩ = some (.int .i64 i) := PB.out.cell 1
  have q3 : w0.cell? ⟨bw, 3, none⟩ = some ev := H0.out.cells.2.2.2.1
  have hlt := H0.out.blk.lt
  have HN := Lib.hid (heap_alloc_new w0 (.cells #[.int .i64 i] 3))
  have HS := Lib.hid HX.out.size
  go_region_law (first
    | (refine step_append_lies _ (by rfl) _ _ _ (by rfl) BB 3 i0 _ 1 8 Tryz.underlying206 hi0 hz0 hz1 hz2 rfl (by omega) ev E.length (enC E) (by simp [Act.eval]) (own_below H0.out.er (by first | exact ((Below.refl _ _).alloc (Nat.le_refl _) _).drew | exact ((Below.refl _ _).drew).alloc (Nat.le_refl _) _)) ⟨w0.heap.size, 0, none⟩ 1 1 [.int .i64 i] (by first | rfl | simp [Act.eval, Act.put]) (by simp) (World.news_of_block (cs := #[.int .i64 i]) (t := 3) (fr := (0, 0)) HN.out) (by simp [Value.oneCell']) (by omega) (by unfold maxLen; omega) (by omega) (by have := HS.out; simp; omega) (w0.heap.size + 1) (by simp) ?_; intro g3 cap3 w4 hown hgrow hat hlt4;
       have D0 := Lib.hid (Blk.grown (H0.out.blk.kept (w' := (w0.alloc (.cells #[.int .i64 i] 3)).drew) ((Below.refl _ _).alloc (Nat.le_refl _) _).drew) hgrow (own_blk H0.out.er H0.out.blk typ_ne1)); have d3 : w4.cell? ⟨bw, 3, none⟩ = some ev := D0.out.cell 3; have g3' := D0.out.free 3)
    | (go_simp))
  all_goals
    have BA : Below w0.heap.size w0 (w0.alloc (.cells #[.int .i64 i] 3)).drew := ((Below.refl _ _).alloc (Nat.le_refl _) _).drew
    have nb1 := own_blk hown D0.out typ_ne1
    have K0 := Lib.hid ((((Kpp.of (P := wkP bw bm ev) HX.out).next BA).grown hgrow (fun k hk => .inr (.inr (.inr hk)))).set (q := ⟨bw, 3, none⟩) (.inl rfl) (.slice (some ⟨g3, 0, none⟩) (E.length + 1) cap3))
    have M0 := Lib.hid (((H0.out.mp.kept BA).grown hgrow (own_map H0.out.er H0.out.mp)).setCell (a := ⟨bw, 3, none⟩) H0.out.ne (.slice (some ⟨g3, 0, none⟩) (E.length + 1) cap3))
    have R0 := Lib.hid (own_set hown (p := ⟨bw, 3, none⟩) nb1 (.slice (some ⟨g3, 0, none⟩) (E.length + 1) cap3))
    have D1 := Lib.hid (D0.out.set 3 (.slice (some ⟨g3, 0, none⟩) (E.length + 1) cap3))
    clear hown hgrow hat hlt4 BA nb1
    go_end0
    refine ⟨rfl, .slice (some ⟨g3, 0, none⟩) (E.length + 1) cap3, ⟨D1.out, M0.out, ?_, H0.out.lw, H0.out.lm⟩, K0.out⟩
    rw [enC_app, List.length_append]
    exact R0.out
theorem end_any {BB bw bm : Nat} {sp : Value} {st : Int} {m : Mp} {ev : Value} {E : List Nat} {lo bl : Bool} (x : Pt) (w : World) (h : WkW w BB bw bm sp st m ev E lo bl) (hBB : BB ≤ w.heap.size) (hE : E.length ≤ 2000000) :
    Calls Tryz.prog 209 #[.pointer (some ⟨bw, 0, none⟩), .agg #[.int .i64 x.1, .int .i64 x.2]] w (EndPost BB bw bm sp st m ev (if x.1 = 0 then E ++ [x.2] else E) lo (if x.1 ≠ 0 then true else bl) w) := by
  by_cases h0 : x.1 = 0
  · rw [h0, if_pos rfl, if_neg (by simp)]
    exact end_zero x.2 w h hBB hE
  · rw [if_neg h0, if_pos h0]
    exact end_other x.1 x.2 (by omega) w h
end Go.Proofs.YtinjmdjnkneidaaGreatDoor
