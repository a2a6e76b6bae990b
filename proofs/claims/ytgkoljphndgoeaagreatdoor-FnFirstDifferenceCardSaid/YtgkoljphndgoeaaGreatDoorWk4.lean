import Derived.Test.YtgkoljphndgoeaaGreatDoorTopF1
namespace Go.Proofs.YtgkoljphndgoeaaGreatDoor
open Go.RowKit Tm Go.ChangeMaps
theorem implWith0 (i : Nat) (w : World) (hi : i < 27) : Calls Tryz.prog 141 #[.int .u32 0, .int .i64 i] w fun e w' => e = .returned (.int .u32 (nb 27 (fun j => j == i) : Nat)) ∧ w = w' := by
 have h := implWithB (fun _ => false) i w hi
 rw [nb_zero 27 (fun _ _ => rfl)] at h
 simpa using h
theorem ends_lt {M : Mdl} {w1 : World} {sp : Value} {st : Nat} {G : List Stp} (hF : Flown M 27 w1 sp st G) {S : Nat → Bool} {m : Mp} {E : List Nat} {lo bl : Bool} (h : Wk M G 27 st S 27 m E lo bl) : ∀ n, n ∈ E → n < 27 := fun n hn => by
 obtain ⟨i, h1, _, h3⟩ := (h.kn _).1 ((h.fin n).1 hn)
 exact (hF.star (x := (st, i)) ⟨hF.lt, h1⟩ h3).2
def OutPost (M : Mdl) (G : List Stp) (st : Nat) (S : Nat → Bool) (w : World) (e : Ending) (w' : World) : Prop := ∃ m E lo bl, e = .returned (.agg #[.int .u32 (nb 27 (inE E) : Nat), .bool lo, .bool bl]) ∧ Wk M G 27 st S 27 m E lo bl ∧ Below w.heap.size w w'
set_option maxRecDepth 1000000 in
set_option maxHeartbeats 4000000 in
theorem outcome_any {M : Mdl} {w1 : World} {sp : Value} {st : Nat} {G : List Stp} (hF : Flown M 27 w1 sp st G) (i : Nat) (hi : i < 27) (w : World) (hb : Below w1.heap.size w1 w) :
  Calls Tryz.prog 116 #[.agg #[sp, .int .i64 st], .int .i64 i] w (OutPost M G st (fun j => j == i) w) := by
 obtain ⟨rb, cap, rfl⟩ := hF.sl
 have HF := Lib.hid hF
 have b1 := (Below.refl w.heap.size w).alloc (Nat.le_refl _) (.cells #[.slice (some ⟨rb, 0, none⟩) G.length cap, .int .i64 st] 131)
 have f1 := Blk.new w #[.slice (some ⟨rb, 0, none⟩) G.length cap, .int .i64 st] 131
 have z1 : (w.alloc (.cells #[.slice (some ⟨rb, 0, none⟩) G.length cap, .int .i64 st] 131)).heap.size = w.heap.size + 1 := by simp
 have o1 := Blk.new (w.alloc (.cells #[.slice (some ⟨rb, 0, none⟩) G.length cap, .int .i64 st] 131)) #[.int .u32 0, .bool false, .bool false] 127
 rw [z1] at o1
 have f2 := f1.alloc (.cells #[.int .u32 0, .bool false, .bool false] 127)
 have b2 := b1.alloc (by omega) (.cells #[.int .u32 0, .bool false, .bool false] 127)
 have E := fun w => Lib.hid (implWith0 i w hi)
 clear b1 f1 z1 hF
 go_enter Tryz.func116, Tryz.ntmps116
 go_wp2_with fail
 generalize (w.alloc (.cells #[.slice (some ⟨rb, 0, none⟩) G.length cap, .int .i64 st] 131)).alloc (.cells #[.int .u32 0, .bool false, .bool false] 127) = w2 at *
 have j0 := f2.cell 0
 have j1 := f2.cell 1
 simp at j0 j1
 have b3 := b2.drew
 have C := fun w' (h : Below w.heap.size w w') => Lib.hid (walkFrom_any HF.out (Nat.le_refl _) (by omega) (fun j => j == i) w' (hb.trans (h.mono hb.size)))
 have O := Lib.hid o1
 clear hb f2 o1
 go_region_with (first
  | (go_at_call 141; (with_reducible refine (E _).out.mono ?_); rintro e w3 ⟨rfl, rfl⟩)
  | (go_at_call 179; (refine (C _ b3).out.mono ?_); rintro e w4 ⟨bw, bm, m, ev, E2, lo, bl, rfl, k1, k2, k3⟩))
 all_goals
  have O2 := Lib.hid (Blk.kept (Blk.drew O.out) k3)
  have B4 := Lib.hid (b3.trans (k3.mono b3.size))
  have K1 := Lib.hid k1
  have K2 := Lib.hid k2
  have r0 := O2.out.free 0
  have r1 := O2.out.free 1
  have r2 := O2.out.free 2
  have s0 := O2.out.cell 0
  have s1 := O2.out.cell 1
  have s2 := O2.out.cell 2
  simp only [List.getElem?_toArray, List.getElem?_cons_zero, List.getElem?_cons_succ] at s0 s1 s2
  obtain ⟨_, _, _, q3, q4, q5⟩ := k1.cells
  have hlb := k1.blk.lt
  have SO := Lib.hid (setOf_any E2 (ends_lt HF.out k2) w2.drew.heap.size ev w4.drew (World.ownsRow.drew k1.er))
  clear k1 k2 k3 j0 j1 C
  go_wp2_with fail
  go_region_with (go_at_call 180; (with_reducible refine SO.out.mono ?_); rintro e w5 ⟨rfl, rfl⟩)
  all_goals
   have PB : Hid (Below w.heap.size w (((w4.setCell ⟨w.heap.size + 1, 0, none⟩ (.int .u32 (nb 27 (inE E2) : Nat))).setCell ⟨w.heap.size + 1, 1, none⟩ (.bool lo)).setCell ⟨w.heap.size + 1, 2, none⟩ (.bool bl)).drew) :=
    (((B4.out.setCell (p := ⟨w.heap.size + 1, 0, none⟩) (by show w.heap.size ≤ w.heap.size + 1; omega) _).setCell (p := ⟨w.heap.size + 1, 1, none⟩) (by show w.heap.size ≤ w.heap.size + 1; omega) _).setCell (p := ⟨w.heap.size + 1, 2, none⟩) (by show w.heap.size ≤ w.heap.size + 1; omega) _).drew
   have P3 := (((O2.out.set 0 (.int .u32 (nb 27 (inE E2) : Nat))).set 1 (.bool lo)).set 2 (.bool bl)).drew
   clear s0 s1 s2 r0 r1 r2 q3 q4 q5 SO O2
   generalize (((w4.setCell ⟨w.heap.size + 1, 0, none⟩ (.int .u32 (nb 27 (inE E2) : Nat))).setCell ⟨w.heap.size + 1, 1, none⟩ (.bool lo)).setCell ⟨w.heap.size + 1, 2, none⟩ (.bool bl)).drew = w5 at *
   have a0 : w5.cell? ⟨w.heap.size + 1, 0, none⟩ = some (.int .u32 (nb 27 (inE E2) : Nat)) := P3.cell 0
   have a1 : w5.cell? ⟨w.heap.size + 1, 1, none⟩ = some (.bool lo) := P3.cell 1
   have a2 : w5.cell? ⟨w.heap.size + 1, 2, none⟩ = some (.bool bl) := P3.cell 2
   go_wp2_with fail
   exact bodyPost_ret (v := .agg #[.int .u32 (nb 27 (inE E2) : Nat), .bool lo, .bool bl]) (by simp [results, Tryz.results116, go_sem, a0, a1, a2]) rfl ⟨m, E2, lo, bl, rfl, K2.out, PB.out⟩
end Go.Proofs.YtgkoljphndgoeaaGreatDoor
