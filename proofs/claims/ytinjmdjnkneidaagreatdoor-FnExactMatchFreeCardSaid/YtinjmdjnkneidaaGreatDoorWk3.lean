/-
  A walk from the states of a set: newWalk, walkFrom.
-/
import Derived.Test.YtinjmdjnkneidaaGreatDoorWk2
import Derived.Test.YtinjmdjnkneidaaGreatDoorTopB
namespace Go.Proofs.YtinjmdjnkneidaaGreatDoor
open Go.RowKit Tm Go.ChangeMaps

set_option maxRecDepth 100000 in
set_option maxHeartbeats 4000000 in
theorem newWalk_any (rb n cap : Nat) (st : Int) (w : World) : Calls Tryz.prog 199 #[.agg #[.slice (some ⟨rb, 0, none⟩) n cap, .int .i64 st]] w fun e w' => ∃ bw bm, e = .returned (.pointer (some ⟨bw, 0, none⟩)) ∧ WkW w' w.heap.size bw bm (.slice (some ⟨rb, 0, none⟩) n cap) st (fun _ => none) (.slice none 0 0) [] false false ∧ Below w.heap.size w w' := by
  have hmm := @run_makeMap Tryz.prog
  have f1 := Blk.new w #[.slice (some ⟨rb, 0, none⟩) n cap, .int .i64 st] 61
  have b1 := (Below.refl w.heap.size w).alloc (Nat.le_refl _) (.cells #[.slice (some ⟨rb, 0, none⟩) n cap, .int .i64 st] 61)
  have z1 : (w.alloc (.cells #[.slice (some ⟨rb, 0, none⟩) n cap, .int .i64 st] 61)).heap.size = w.heap.size + 1 := by simp
  generalize hw2 : w.alloc (.cells #[.slice (some ⟨rb, 0, none⟩) n cap, .int .i64 st] 61) = wa at f1 b1 z1
  have m2 : (wa.alloc (.map #[] 0)).heap[wa.heap.size]? = some (.map #[] 0) := by show (wa.heap.push _)[wa.heap.size]? = _; simp
  have b2 := b1.alloc (by omega) (.map #[] 0)
  have z2 : (wa.alloc (.map #[] 0)).heap.size = w.heap.size + 1 + 1 := by rw [← z1]; simp
  rw [z1] at m2
  have hmp : MapAt (wa.alloc (.map #[] 0)) (w.heap.size + 1) (fun _ => none) := ⟨#[], 0, [], m2, rfl, fun _ => rfl⟩
  generalize hwb : wa.alloc (.map #[] 0) = wb at m2 b2 z2 hmp
  have kb := Blk.new wb (wkC (.slice (some ⟨rb, 0, none⟩) n cap) st (w.heap.size + 1) (.slice none 0 0) false false) 214
  have bb := (Below.refl wb.heap.size wb).alloc (Nat.le_refl _) (.cells (wkC (.slice (some ⟨rb, 0, none⟩) n cap) st (w.heap.size + 1) (.slice none 0 0) false false) 214)
  rw [z2] at kb
  have T1 : Hid (WkW (wb.alloc (.cells (wkC (.slice (some ⟨rb, 0, none⟩) n cap) st (w.heap.size + 1) (.slice none 0 0) false false) 214)) w.heap.size (w.heap.size + 1 + 1) (w.heap.size + 1) (.slice (some ⟨rb, 0, none⟩) n cap) st (fun _ => none) (.slice none 0 0) [] false false) :=
    ⟨kb, hmp.kept bb, ⟨rfl, .inl ⟨rfl, rfl⟩⟩, by omega, by omega⟩
  have T4 := Lib.hid (bnext b2 bb)
  unfold wkC at T1 T4
  clear f1 b1 z1 m2 b2 z2 hmp kb bb
  subst hwb hw2
  go_enter Tryz.func199, Tryz.ntmps199
  go_wp2_with fail
  go_ret
  exact ⟨_, _, rfl, T1.out, T4.out⟩

/-- What a walk from the numbers of a set leaves. -/
def WfPost (M : Mdl) (G : List Stp) (N : Nat) (sp : Value) (st : Nat) (S : Nat → Bool) (k : Nat) (w : World) (e : Ending) (w' : World) : Prop :=
  ∃ bw bm m ev E lo bl, e = .returned (.pointer (some ⟨bw, 0, none⟩)) ∧ WkW w' w.heap.size bw bm sp st m ev E lo bl ∧ Wk M G N st S k m E lo bl ∧ Below w.heap.size w w'

set_option maxRecDepth 1000000 in
set_option maxHeartbeats 4000000 in
theorem walkFrom_any {M : Mdl} {N : Nat} {w1 : World} {sp : Value} {st : Nat} {G : List Stp} (hF : Flown M N w1 sp st G) (hN : 27 ≤ N) (hN2 : N ≤ 729) (S : Nat → Bool) (w : World) (hb : Below w1.heap.size w1 w) :
    Calls Tryz.prog 171 #[.agg #[sp, .int .i64 st], .int .u32 (nb 27 S)] w (WfPost M G N sp st S 27 w) := by
  obtain ⟨rb, cap, rfl⟩ := hF.sl
  have HF := Lib.hid hF
  have HB := Lib.hid hb
  have NW := fun w => Lib.hid (newWalk_any rb G.length cap st w)
  have b1 := (Below.refl w.heap.size w).alloc (Nat.le_refl _) (.cells #[.slice (some ⟨rb, 0, none⟩) G.length cap, .int .i64 st] 61)
  have f1 := Blk.new w #[.slice (some ⟨rb, 0, none⟩) G.length cap, .int .i64 st] 61
  have B1 := Lib.hid b1
  clear hF hb
  go_enter Tryz.func171, Tryz.ntmps171
  go_wp2_with fail
  generalize w.alloc (.cells #[.slice (some ⟨rb, 0, none⟩) G.length cap, .int .i64 st] 61) = w0 at *
  have c0 := f1.cell 0
  have c1 := f1.cell 1
  simp at c0 c1
  go_wp2_with fail
  refine (NW _).out.mono ?_
  rintro e w3 ⟨bw, bm, rfl, h1, h2⟩
  have T4 := Lib.hid (b1.trans (h2.mono b1.size))
  have T1 := Lib.hid h1
  have HS0 := Lib.hid b1.size
  have T5 := Lib.hid h2.size
  clear h1 h2 b1 f1 c0 c1 NW
  go_wp2_with fail
  go_loopw [9] (fun i wr => ∃ k : Nat, k ≤ 27 ∧ i = .int .i64 k ∧ ∃ m ev E lo bl, Hid (WkW wr w0.heap.size bw bm (.slice (some ⟨rb, 0, none⟩) G.length cap) st m ev E lo bl) ∧ Hid (Wk M G N st S k m E lo bl) ∧ Hid (Below w.heap.size w wr) ∧ Hid (w0.heap.size ≤ wr.heap.size)) (fun i _ => 27 - (intOf i).toNat)
  case atStart => exact ⟨0, by omega, rfl, _, _, _, _, _, T1, Wk.zero M G N st S, T4, T5⟩
  case round =>
    clear T1 T4 T5
    obtain ⟨k, hk, rfl, m, ev, E, lo, bl, R1, R2, R3, R4⟩ := hrel
    by_cases hlt : k < 27
    · have D := fun w => Lib.hid (implHasB S k w hlt)
      cases hS : S k
      · rw [hS] at D
        have HK := Lib.hid (R2.out.skip hS)
        clear hS
        go_wp2_with fail
        refine (D _).out.mono ?_
        rintro e w' ⟨rfl, rfl⟩
        go_wp2_with fail
        exact ⟨⟨k + 1, by omega, by go_num, m, ev, E, lo, bl, R1, HK, R3, R4⟩, by simp [intOf]; omega⟩
      · rw [hS] at D
        have HS := Lib.hid hS
        have HC := Lib.hid (fol_any HF.out hN2 wr w0.heap.size bw bm m ev E lo bl k (by omega) R1.out R4.out (HB.out.trans (R3.out.mono HB.out.size)) (Nat.le_trans HB.out.size HS0.out) R2.out.bk R2.out.lps R2.out.sz)
        clear hS
        go_wp2_with fail
        refine (D _).out.mono ?_
        rintro e w' ⟨rfl, rfl⟩
        go_wp2_with fail
        refine HC.out.mono ?_
        rintro e w' ⟨rfl, m', ev', E', lo', bl', k1, k2, k3⟩
        have HK := Lib.hid (R2.out.step HS.out k3)
        have Q1 := Lib.hid k1
        have Q3 := Lib.hid (R3.out.trans (k2.mono HS0.out))
        have Q4 := Lib.hid (Nat.le_trans R4.out k2.size)
        clear k1 k2 k3 HC R1 R2 R3 R4
        go_wp2_with fail
        exact ⟨⟨k + 1, by omega, by go_num, m', ev', E', lo', bl', Q1, HK, Q3, Q4⟩, by simp [intOf]; omega⟩
    · have hk2 : k = 27 := by omega
      subst hk2
      go_wp2_with fail
      go_ret
      exact ⟨bw, bm, m, ev, E, lo, bl, rfl, ⟨R1.out.blk, R1.out.mp, own_of (World.ownsRow.mono R1.out.er HS0.out) (fun _ _ => rfl), Nat.le_trans HS0.out R1.out.lw, Nat.le_trans HS0.out R1.out.lm⟩, R2.out, R3.out⟩
end Go.Proofs.YtinjmdjnkneidaaGreatDoor
