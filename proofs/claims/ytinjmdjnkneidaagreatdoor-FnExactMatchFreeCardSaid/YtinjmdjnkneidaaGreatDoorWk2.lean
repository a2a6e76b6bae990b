/-
  The walk goes along all runs from a state: impl.(*walk).follow.
-/
import Derived.Test.YtinjmdjnkneidaaGreatDoorWk1
import Derived.ScopeJumps
import Derived.WalkMore
import Derived.ChangeAlike
import Derived.StillTailTactics
import Derived.BigQuiet
namespace Go.Proofs.YtinjmdjnkneidaaGreatDoor
open Go.RowKit Tm Go.ChangeMaps

theorem Chn.star {M : Mdl} {G : List Stp} {x0 : Pt} {s : List (Pt × Bool)} {c : Option Pt} (h : Chn M G x0 s c) : ∀ y b, (y, b) ∈ s → Star (Edge M G) x0 y := by
  induction h with
  | nil => intro y b hy; cases hy
  | vis h1 h2 h3 ih =>
    intro z b hz
    rcases List.mem_cons.1 hz with e | e
    · cases e; exact h1.top h2 h3
    · exact ih z b e
  | lvg h1 h2 h3 _ ih =>
    intro z b hz
    rcases List.mem_cons.1 hz with e | e
    · cases e; exact h1.top h2 h3
    · exact ih z b e
def lenOf : Value → Nat
  | .slice _ n _ => n
  | _ => 0
theorem below_setB {B : Nat} {w w1 : World} {b : Nat} (h : Below B w w1) (hb : B ≤ b) (o : Obj) : Below B w (setBlock w1 b o) :=
  ⟨h.os, h.tape, h.output, by have := h.size; simpa [setBlock] using this, fun k hk => by
    have hne : b ≠ k := by omega
    simp only [setBlock]
    rw [Array.getElem?_setIfInBounds_ne hne]
    exact h.block k hk⟩
theorem WkW.grown {w w' : World} {BB bw bm : Nat} {sp : Value} {st : Int} {m : Mp} {ev : Value} {E : List Nat} {lo bl : Bool} {row : Option Nat} (h : WkW w BB bw bm sp st m ev E lo bl) (hg : w.grownBy w' row) (hr : ∀ k, row = some k → ¬ wkP bw bm ev k) : WkW w' BB bw bm sp st m ev E lo bl :=
  ⟨Blk.grown h.blk hg (fun e => hr _ e (.inl rfl)), h.mp.of (hg.block bm h.mp.lt (fun e => hr _ e.symm (.inr (.inl rfl)))), own_of h.er (fun k hk => hg.block k (World.ownsRow.lt h.er k hk).2 (fun e => hr _ e.symm (.inr (.inr hk)))), h.lw, h.lm⟩
theorem Dfs.lens {M : Mdl} {G : List Stp} {S : Nat} {x0 : Pt} {m0 m : Mp} {E0 E : List Nat} {lo0 bl0 lo bl : Bool} {s : List (Pt × Bool)} (h : Dfs M G S x0 m0 E0 lo0 bl0 s m E lo bl) (hG : G.length ≤ 1200) (hS : S ≤ 729) (hsz : E0.length + unk G.length S m0 ≤ G.length * S) : s.length ≤ 1800000 ∧ E.length ≤ 900000 := by
  have h1 := h.op
  have h2 := h.sz
  have h3 := unk_bd G.length S m0
  have h4 : G.length * S ≤ 1200 * 729 := Nat.mul_le_mul hG hS
  omega
theorem typ_ne4 : 104 ≠ 249 := by decide
theorem lenOf_stk {w : World} {B : Nat} {v : Value} {s : List (Pt × Bool)} (h : Stk' w B v s) : lenOf v = s.length := by
  obtain ⟨a, cap, rfl, _, _⟩ := own_forms h
  rfl
theorem push_take {N : List Pt} {k : Nat} {p : Pt} (h : N.take (k + 1) = N.take k ++ [p]) (s : List (Pt × Bool)) : (N.take (k + 1)).reverse.map (fun x => (x, false)) ++ s = (p, false) :: ((N.take k).reverse.map (fun x => (x, false)) ++ s) := by
  rw [h]; simp
section
variable {M : Mdl} {S : Nat} {w1 : World} {sp : Value} {st : Nat} {G : List Stp}
theorem Flown.star (hF : Flown M S w1 sp st G) {x y : Pt} (hx : x.1 < G.length ∧ x.2 < S) (h : Star (Edge M G) x y) : y.1 < G.length ∧ y.2 < S := by
  induction h with
  | refl => exact hx
  | head h1 _ ih => exact ih (hF.un _ _ hx h1)

def FolPost (M : Mdl) (G : List Stp) (S : Nat) (BB bw bm : Nat) (sp : Value) (st : Nat) (m0 : Mp) (E0 : List Nat) (lo0 bl0 : Bool) (i : Nat) (w0 : World) (e : Ending) (w' : World) : Prop :=
  e = .returned (.tuple #[]) ∧ ∃ m ev E lo bl, WkW w' BB bw bm sp st m ev E lo bl ∧ Below BB w0 w' ∧ Gone M G S (st, i) m0 E0 lo0 bl0 m E lo bl

set_option maxRecDepth 1000000 in
set_option maxHeartbeats 8000000 in
theorem fol_any (hF : Flown M S w1 sp st G) (hS : S ≤ 729) (w0 : World) (BB bw bm : Nat) (m0 : Mp) (ev0 : Value) (E0 : List Nat) (lo0 bl0 : Bool) (i : Nat) (hi : i < S)
    (hw : WkW w0 BB bw bm sp st m0 ev0 E0 lo0 bl0) (hBB : BB ≤ w0.heap.size) (hb1 : Below w1.heap.size w1 w0) (hb2 : w1.heap.size ≤ BB)
    (hbk : ∀ y b, m0 y = some b → b = false) (hlp : lo0 = false → ∀ b, m0 b = some false → ¬ Inf M G b) (hsz : E0.length + unk G.length S m0 ≤ G.length * S) :
    Calls Tryz.prog 200 #[.pointer (some ⟨bw, 0, none⟩), .int .i64 i] w0 (FolPost M G S BB bw bm sp st m0 E0 lo0 bl0 i w0) := by
  obtain ⟨i0, hi0, hz0, hz1, hz2⟩ := info_parts infoVis
  obtain ⟨rb, capf, rfl⟩ := hF.sl
  obtain ⟨q0, q1, q2, q3, q4, q5⟩ := hw.cells
  have hlt := hw.blk.lt
  have bx := (Below.refl w0.heap.size w0).alloc (Nat.le_refl _) (.cells #[.int .i64 st, .int .i64 i, .bool false] 249)
  have T1 := Lib.hid (hw.kept bx)
  have T2 : Hid (Stk' (w0.alloc (.cells #[.int .i64 st, .int .i64 i, .bool false] 249)) BB (.slice (some ⟨w0.heap.size, 0, none⟩) 1 1) [((st, i), false)]) :=
    World.ownsRow_lit w0 #[.int .i64 st, .int .i64 i, .bool false] 1 hBB (by unfold maxLen; omega) rfl
  have T3 := Lib.hid (bx.mono hBB)
  have T4 := Lib.hid (Dfs.start (M := M) (G := G) (S := S) (x0 := (st, i)) (E0 := E0) (bl0 := bl0) hbk hlp)
  have HF := Lib.hid hF
  have HB := Lib.hid hb1
  have HW := Lib.hid hw.lw
  clear hw hbk hlp bx hF hb1
  go_enter Tryz.func200, Tryz.ntmps200
  go_wp2_with fail
  generalize w0.alloc (.cells #[.int .i64 st, .int .i64 i, .bool false] 249) = wa at *
  clear q0 q1 q2 q3 q4 q5
  go_loopw [4] (fun ov wr => ∃ s m ev E lo bl, Hid (Stk' wr BB ov s) ∧ Hid (WkW wr BB bw bm (.slice (some ⟨rb, 0, none⟩) G.length capf) st m ev E lo bl) ∧ Hid (Dfs M G S (st, i) m0 E0 lo0 bl0 s m E lo bl) ∧ Hid (Below BB w0 wr)) (fun ov wr => 3 * unk G.length S (mapIn wr bm) + lenOf ov)
  case atStart => exact ⟨_, _, _, _, _, _, T2, T1, T4, T3⟩
  case round =>
    clear T1 T2 T3 T4
    obtain ⟨s, m, ev, E, lo, bl, R1, R2, R3, R4⟩ := hrel
    cases s with
    | nil =>
      as_aux_lemma =>
      obtain ⟨a, cap, rfl, hcap, _⟩ := own_forms R1.out
      simp only [List.length_nil] at *
      go_wp2_with fail
      go_end0
      exact ⟨rfl, m, ev, E, lo, bl, R2.out, R4.out, R3.out.done⟩
    | cons x s =>
      obtain ⟨y, lv⟩ := x
      obtain ⟨g, cap, rfl, hcap, hg, c0, c1, c2, htop⟩ := R1.out.top
      simp only at c0 c1 c2
      have HT := Lib.hid htop
      clear htop
      have hmx : s.length + 1 ≤ 9223372036854775807 := by have := own_len R1.out; simp only [List.length_cons] at this; unfold maxLen at this; omega
      have HLEN := Lib.hid (R3.out.lens HF.out.sm hS hsz)
      have hnb := (World.ownsRow.lt R1.out g rfl).2
      have y0 := (Blk.new wr #[.int .i64 y.1, .int .i64 y.2, .bool lv] 249).drew.cell 0
      have y1 := (Blk.new wr #[.int .i64 y.1, .int .i64 y.2, .bool lv] 249).drew.cell 1
      simp only [List.getElem?_toArray, List.getElem?_cons_zero, List.getElem?_cons_succ] at y0 y1
      have bx := (Below.refl wr.heap.size wr).alloc (Nat.le_refl _) (.cells #[.int .i64 y.1, .int .i64 y.2, .bool lv] 249)
      cases lv with
      | true =>
        as_aux_lemma =>
        obtain ⟨o, ho, hat⟩ := store_run R2.out.mp y false
        have hs1 : (Instr.mapUpdate 212 (.map (some bm)) (.agg #[.int .i64 y.1, .int .i64 y.2]) (.bool false)).run Tryz.prog (wr.alloc (.cells #[.int .i64 y.1, .int .i64 y.2, .bool true] 249)).drew = .ok () (setBlock (wr.alloc (.cells #[.int .i64 y.1, .int .i64 y.2, .bool true] 249)).drew bm o) :=
          ho _ (bx.drew.block bm R2.out.mp.lt)
        have HAT := hat (wr.alloc (.cells #[.int .i64 y.1, .int .i64 y.2, .bool true] 249)).drew (by have := R2.out.mp.lt; have := bx.drew.size; omega)
        have P2 := Lib.hid ((R2.out.kept bx.drew).setMp HAT)
        have P1 : Hid (Stk' (setBlock (wr.alloc (.cells #[.int .i64 y.1, .int .i64 y.2, .bool true] 249)).drew bm o) BB (.slice (some ⟨g, 0, none⟩) s.length cap) s) := own_setB (own_below HT.out bx.drew) (own_map (own_below HT.out bx.drew) (R2.out.mp.kept bx.drew)) o
        have P4 := Lib.hid (below_setB (R4.out.trans (bx.drew.mono (Nat.le_trans hBB R4.out.size))) R2.out.lm o)
        have P3 := Lib.hid R3.out.leave
        have z2 := (R2.out.kept bx.drew).cells.2.2.1
        have HM : Hid (3 * unk G.length S (mapIn (setBlock (wr.alloc (.cells #[.int .i64 y.1, .int .i64 y.2, .bool true] 249)).drew bm o) bm) + s.length < 3 * unk G.length S (mapIn wr bm) + (s.length + 1)) := by
          show _ < _
          rw [HAT.inn, R2.out.mp.inn]
          have hy := (R3.out.st y).2 (List.mem_cons_self ..)
          rw [show unk G.length S (fun q => if y = q then some false else m q) = unk G.length S m from unk_congr fun x => by
            by_cases e : y = x
            · subst e; simp [hy]
            · simp [e]]
          omega
        clear ho hat HAT R1 R2 R3 R4 HT
        go_wp2_with fail
        refine wp_region_still_tail 6 (by kernel_rfl) (by kernel_rfl) ?_
        change wpStill _ _ (World.drew _) (fun a' => wpList _ _ _ _ a' (World.drew _)) _ _
        generalize (wr.alloc (.cells #[.int .i64 y.1, .int .i64 y.2, .bool true] 249)).drew = wd at *
        simp only [List.take_succ_cons, List.take_zero, List.drop_succ_cons, List.drop_zero]
        repeat still_step
        refine wpStill_nil ?_
        go_wp2_with fail
        exact ⟨⟨s, _, ev, E, lo, bl, P1, P2, P3, P4⟩, by have := HM.out; simpa [lenOf] using this⟩
      | false =>
        cases hm : m y with
        | some b =>
          have hl : ∀ n, (Instr.lookup 212 (.map (some bm)) (.agg #[.int .i64 y.1, .int .i64 y.2]) true).run Tryz.prog ((wr.alloc (.cells #[.int .i64 y.1, .int .i64 y.2, .bool false] 249)).drewN n) = .ok (.tuple #[.bool b, .bool true]) ((wr.alloc (.cells #[.int .i64 y.1, .int .i64 y.2, .bool false] 249)).drewN n) := fun n => by
            have := look_run ((R2.out.mp.kept bx).kept (bdrewN (Below.refl _ _) n)) y
            rw [hm] at this
            exact this
          have z2 := (R2.out.kept bx).cells.2.2.1
          have P3 := Lib.hid (R3.out.known hm)
          have B1 := Lib.hid bx
          have E2 := Lib.hid R2.out
          have HM0 : Hid (mapIn wr bm = m) := R2.out.mp.inn
          have BB2 := Nat.le_trans hBB R4.out.size
          have hlb := R2.out.blk.lt
          clear R1 R2 hm bx y0 y1
          cases lo with
          | true =>
            as_aux_lemma =>
            go_wp2_with fail
            go_quiet (fail)
            have N1 := Lib.hid (bdrewN B1.out nq)
            have z4 := (E2.out.kept N1.out).cells.2.2.2.2.1
            have f4 := (E2.out.kept N1.out).free'.2.1
            have P2 := Lib.hid ((E2.out.kept N1.out).setLo true)
            have P1 : Hid (Stk' (((wr.alloc (.cells #[.int .i64 y.1, .int .i64 y.2, .bool false] 249)).drewN nq).setCell ⟨bw, 4, none⟩ (.bool true)) BB (.slice (some ⟨g, 0, none⟩) s.length cap) s) := own_set (own_below HT.out N1.out) (p := ⟨bw, 4, none⟩) (own_blk (own_below HT.out N1.out) (E2.out.kept N1.out).blk typ_ne2) _
            have P4 := Lib.hid ((R4.out.trans (N1.out.mono BB2)).setCell (p := ⟨bw, 4, none⟩) E2.out.lw (.bool true))
            have HM : Hid (3 * unk G.length S (mapIn (((wr.alloc (.cells #[.int .i64 y.1, .int .i64 y.2, .bool false] 249)).drewN nq).setCell ⟨bw, 4, none⟩ (.bool true)) bm) + s.length < 3 * unk G.length S (mapIn wr bm) + (s.length + 1)) := by
              show _ < _
              rw [P2.out.mp.inn, HM0.out]
              omega
            go_wp2_with fail
            exact ⟨⟨s, m, ev, E, true, bl, P1, P2, P3, P4⟩, by have := HM.out; simpa [lenOf] using this⟩
          | false =>
            as_aux_lemma =>
            go_wp2_with fail
            go_quiet (fail)
            have N1 := Lib.hid (bdrewN B1.out nq)
            have z4 := (E2.out.kept N1.out).cells.2.2.2.2.1
            have f4 := (E2.out.kept N1.out).free'.2.1
            have P2 := Lib.hid ((E2.out.kept N1.out).setLo b)
            have P1 : Hid (Stk' (((wr.alloc (.cells #[.int .i64 y.1, .int .i64 y.2, .bool false] 249)).drewN nq).setCell ⟨bw, 4, none⟩ (.bool b)) BB (.slice (some ⟨g, 0, none⟩) s.length cap) s) := own_set (own_below HT.out N1.out) (p := ⟨bw, 4, none⟩) (own_blk (own_below HT.out N1.out) (E2.out.kept N1.out).blk typ_ne2) _
            have P4 := Lib.hid ((R4.out.trans (N1.out.mono BB2)).setCell (p := ⟨bw, 4, none⟩) E2.out.lw (.bool b))
            have HM : Hid (3 * unk G.length S (mapIn (((wr.alloc (.cells #[.int .i64 y.1, .int .i64 y.2, .bool false] 249)).drewN nq).setCell ⟨bw, 4, none⟩ (.bool b)) bm) + s.length < 3 * unk G.length S (mapIn wr bm) + (s.length + 1)) := by
              show _ < _
              rw [P2.out.mp.inn, HM0.out]
              omega
            go_wp2_with fail
            exact ⟨⟨s, m, ev, E, b, bl, P1, P2, P3, P4⟩, by have := HM.out; simpa [lenOf] using this⟩
        | none =>
          as_aux_lemma =>
          have hl : ∀ n, (Instr.lookup 212 (.map (some bm)) (.agg #[.int .i64 y.1, .int .i64 y.2]) true).run Tryz.prog ((wr.alloc (.cells #[.int .i64 y.1, .int .i64 y.2, .bool false] 249)).drewN n) = .ok (.tuple #[.bool false, .bool false]) ((wr.alloc (.cells #[.int .i64 y.1, .int .i64 y.2, .bool false] 249)).drewN n) := fun n => by
            have := look_run ((R2.out.mp.kept bx).kept (bdrewN (Below.refl _ _) n)) y
            rw [hm] at this
            exact this
          have z2 := (R2.out.kept bx).cells.2.2.1
          have B1 := Lib.hid bx
          have E2 := Lib.hid R2.out
          have HM0 : Hid (mapIn wr bm = m) := R2.out.mp.inn
          have HMN := Lib.hid hm
          have BB2 := Nat.le_trans hBB R4.out.size
          have HG := Lib.hid hnb
          clear R1 R2 hm bx y0 y1
          go_wp2_with fail
          go_quiet (fail)
          have N1 := Lib.hid (bdrewN B1.out nq).drew
          have YB := Lib.hid ((Blk.new wr #[.int .i64 y.1, .int .i64 y.2, .bool false] 249).kept (bdrewN (Below.refl _ _) nq)).drew
          clear B1 z2 hl
          generalize (wr.alloc (.cells #[.int .i64 y.1, .int .i64 y.2, .bool false] 249)).drewN nq = wq at *
          have y0 : wq.drew.cell? ⟨wr.heap.size, 0, none⟩ = some (.int .i64 y.1) := YB.out.cell 0
          have y1 : wq.drew.cell? ⟨wr.heap.size, 1, none⟩ = some (.int .i64 y.2) := YB.out.cell 1
          have E3 := Lib.hid (E2.out.kept N1.out)
          have z2 := E3.out.cells.2.2.1
          have hlb := E3.out.blk.lt
          obtain ⟨o, ho, hat⟩ := store_run E3.out.mp y true
          have hs1 : (Instr.mapUpdate 212 (.map (some bm)) (.agg #[.int .i64 y.1, .int .i64 y.2]) (.bool true)).run Tryz.prog wq.drew = .ok () (setBlock wq.drew bm o) := ho _ rfl
          have hat2 := hat wq.drew E3.out.mp.lt
          have P2 := Lib.hid (E3.out.setMp hat2)
          have P1 : Hid (Stk' (setBlock wq.drew bm o) BB (.slice (some ⟨g, 0, none⟩) s.length cap) s) := own_setB (own_below HT.out N1.out) (own_map (own_below HT.out N1.out) E3.out.mp) o
          have PY := Lib.hid (Blk.setB' YB.out (k := bm) (fun e => by have := E2.out.mp.lt; omega) o)
          have P4 := Lib.hid (below_setB (R4.out.trans (N1.out.mono BB2)) E3.out.lm o)
          clear ho hat hat2 E3 HT R4
          go_wp2_with fail
          refine wp_region_still_tail 6 (by kernel_rfl) (by kernel_rfl) ?_
          change wpStill _ _ (World.drew _) (fun a' => wpList _ _ _ _ a' (World.drew _)) _ _
          generalize wq.drew = wd at *
          simp only [List.take_succ_cons, List.take_zero, List.drop_succ_cons, List.drop_zero]
          repeat still_step
          refine wpStill_nil ?_
          generalize setBlock wd bm o = we at *
          have x0 : we.cell? ⟨wr.heap.size, 0, none⟩ = some (.int .i64 y.1) := PY.out.cell 0
          have x1 : we.cell? ⟨wr.heap.size, 1, none⟩ = some (.int .i64 y.2) := PY.out.cell 1
          have hnb2 := PY.out.lt
          have BA := Lib.hid ((Below.refl we.heap.size we).alloc (Nat.le_refl _) (.cells #[.int .i64 y.1, .int .i64 y.2, .bool true] 249))
          go_wp2_with (at_builtin; refine wpList_append_lies _ (by rfl) _ _ _ (by rfl) BB 249 i0 _ 3 24 Tryz.underlying250 hi0 hz0 hz1 hz2 rfl (by omega) _ s.length (vsC s.reverse) (by rfl) (World.ownsRow.alloc P1.out _) ⟨we.heap.size, 0, none⟩ 1 1 [.int .i64 y.1, .int .i64 y.2, .bool true] (by rfl) (by rfl) (World.news_of_block (cs := #[.int .i64 y.1, .int .i64 y.2, .bool true]) (t := 249) (fr := (0, 0)) (heap_alloc_new we _)) (by simp [Value.oneCell']) (by omega) (by have := HLEN.out.1; simp only [List.length_cons] at this; unfold maxLen; omega) (by have := HLEN.out.1; simp only [List.length_cons] at this; omega) (by have := P4.out.size; simp; omega) (we.heap.size + 1) (by simp) ?_; intro g3 cap3 w3 hown hgrow hat hlt3; have Q2 := Lib.hid ((P2.out.kept BA.out).grown hgrow (fun k hk => WkW.stk (P2.out.kept BA.out) (show Stk' _ BB _ s from own_below P1.out BA.out) k hk)); have QY := Lib.hid (Blk.grown (PY.out.kept BA.out) hgrow (by have := HG.out; simp only [Value.ownBlock, ne_eq, Option.some.injEq]; omega)); have z0 := Q2.out.cells.1; have z1 := Q2.out.cells.2.1; have x0_1 : w3.cell? ⟨wr.heap.size, 0, none⟩ = some (.int .i64 y.1) := QY.out.cell 0; have x1_1 : w3.cell? ⟨wr.heap.size, 1, none⟩ = some (.int .i64 y.2) := QY.out.cell 1; have hlb := Q2.out.blk.lt)
          have Q4 := Lib.hid ((P4.out.trans (BA.out.mono (Nat.le_trans hBB P4.out.size))).grown hgrow (by have := P4.out.size; have := BA.out.size; omega) (fun k hk => (World.ownsRow.lt (own_below P1.out BA.out) k hk).1))
          have Q1 := Lib.hid (Stk'.push (x := (y, true)) hown)
          have HNB : Hid (g3 ≠ wr.heap.size) := by
            show g3 ≠ wr.heap.size
            have := HG.out
            rcases hat with e | e
            · simp only [Value.ownBlock, Option.some.injEq] at e; omega
            · omega
          clear hown hgrow hat P1 P2 P4 PY BA hnb2
          obtain ⟨c0, hc0⟩ := R3.out.ch
          have hyr : y.1 < G.length ∧ y.2 < S := HF.out.star (x := (st, i)) ⟨HF.out.lt, hi⟩ (hc0.star y false (List.mem_cons_self ..))
          clear hc0
          have C : Hid (Calls Tryz.prog 173 #[.agg #[.slice (some ⟨rb, 0, none⟩) G.length capf, .int .i64 st], .agg #[.int .i64 y.1, .int .i64 y.2]] w3.drew (FollPost (nxp M G y) w3.drew)) :=
            HF.out.fol st y w3.drew hyr.1 hyr.2 ((HB.out.trans (Q4.out.mono hb2)).drew)
          have HEN := Lib.hid (R3.out.enter HMN.out hyr (HF.out.two y) (fun j => nx_end HF.out.top) rfl rfl)
          have HUN := Lib.hid (unk_lt (N := G.length) (S := S) true hyr HMN.out)
          have HN2 := Lib.hid (HF.out.two y)
          have hN0 : ∀ l, nxp M G y = l → Hid (nxp M G y = l) := fun l h => h
          generalize nxp M G y = N at *
          clear hN0 R3
          have z0d : w3.drew.cell? ⟨bw, 0, none⟩ = some (.slice (some ⟨rb, 0, none⟩) G.length capf) := z0
          have z1d : w3.drew.cell? ⟨bw, 1, none⟩ = some (.int .i64 st) := z1
          have x0d : w3.drew.cell? ⟨wr.heap.size, 0, none⟩ = some (.int .i64 y.1) := x0_1
          have x1d : w3.drew.cell? ⟨wr.heap.size, 1, none⟩ = some (.int .i64 y.2) := x1_1
          refine wp_region_still_tail 6 (by kernel_rfl) (by kernel_rfl) ?_
          change wpStill _ _ (World.drew _) (fun a' => wpList _ _ _ _ a' (World.drew _)) _ _
          simp only [List.take_succ_cons, List.take_zero, List.drop_succ_cons, List.drop_zero]
          repeat still_step
          refine wpStill_nil ?_
          go_wp2_with fail
          refine C.out.mono ?_
          rintro e w5 ⟨vN, rfl, hpr, hb5⟩
          have B35 : Below w3.heap.size w3 w5 := Below.trans (Below.refl _ _).drew hb5
          have S2 := Lib.hid (Q2.out.kept B35)
          have S1 : Hid (Stk' w5 BB (.slice (some ⟨g3, 0, none⟩) (s.length + 1) cap3) ((y, true) :: s)) := own_below Q1.out B35
          have S4 := Lib.hid (Q4.out.trans (B35.mono (Nat.le_trans hBB Q4.out.size)))
          have SY := Lib.hid (QY.out.kept B35)
          have SN : Hid ((Value.slice (some ⟨g3, 0, none⟩) (s.length + 1) cap3).ownBlock ≠ some wr.heap.size) := by
            show _ ≠ _
            have := HNB.out
            simp only [Value.ownBlock, ne_eq, Option.some.injEq]
            exact this
          obtain ⟨aN, capN, rfl, hcapN, _⟩ := own_forms hpr
          have SP : Hid (w5.ownsRow w3.heap.size 104 2 (.slice aN N.length capN) N.length (ptC N)) := hpr
          have HW3 := Lib.hid (Nat.le_trans hBB Q4.out.size)
          clear hpr hb5 B35 Q1 Q2 Q4 QY HNB z0 z1 x0_1 x1_1 z0d z1d x0d x1d C HMN
          go_wp2_with fail
          generalize wr.heap.size = nb at *
          go_loopw [4, 84] (fun ov kx w6 => ∃ k : Nat, k ≤ N.length ∧ kx = .int .i64 k ∧ Hid (Stk' w6 BB ov ((N.take k).reverse.map (fun x => (x, false)) ++ (y, true) :: s)) ∧ Hid (WkW w6 BB bw bm (.slice (some ⟨rb, 0, none⟩) G.length capf) st (upd m y true) ev E lo bl) ∧ Hid (Below BB w0 w6) ∧ Hid (w6.ownsRow w3.heap.size 104 2 (.slice aN N.length capN) N.length (ptC N)) ∧ Hid (Blk w6 nb #[.int .i64 y.1, .int .i64 y.2, .bool false] 249) ∧ Hid (ov.ownBlock ≠ some nb)) (fun _ kx _ => N.length - (intOf kx).toNat)
          case atStart => exact ⟨0, by omega, rfl, S1, S2, S4, SP, SY, SN⟩
          case round =>
            clear S1 S2 S4 SP SY SN
            obtain ⟨k, hk, rfl, A1, A2, A4, AP, AY, AN⟩ := hrel
            by_cases hlt : k < N.length
            · as_aux_lemma =>
              have HLT := Lib.hid hlt
              have hlt2 : (k : Int) < N.length := by omega
              have hk63 : (k : Int) + 1 ≤ 9223372036854775807 := by have := HN2.out; omega
              obtain ⟨a', cap', e1, _, hcl⟩ := own_forms AP.out
              injection e1 with e1 _ e2
              subst e1 e2
              obtain ⟨gN, rfl, hgN, hcells⟩ := hcl (by omega)
              have hp := List.getElem?_eq_getElem hlt
              have HTK := Lib.hid (List.take_succ_eq_append_getElem hlt)
              generalize N[k] = p at hp HTK
              have p0 := hcells _ _ (ptC_get hp).1
              have p1 := hcells _ _ (ptC_get hp).2
              have HLn : Hid (((N.take k).reverse.map (fun x => ((x, false) : Pt × Bool)) ++ (y, true) :: s).length = k + (s.length + 1)) := by
                show _ = _
                simp only [List.length_append, List.length_map, List.length_reverse, List.length_take, List.length_cons]
                omega
              have A1' : Hid (wr.ownsRow BB 249 3 u4 (k + (s.length + 1)) (vsC ((N.take k).reverse.map (fun x => ((x, false) : Pt × Bool)) ++ (y, true) :: s).reverse)) := by
                have := A1.out
                unfold Stk' at this
                rw [HLn.out] at this
                exact this
              have HKL : Hid (k + (s.length + 1) ≤ 1900000) := by
                show _ ≤ _
                have := HLEN.out.1
                have := HN2.out
                simp only [List.length_cons] at *
                omega
              have BP := Lib.hid ((Below.refl wr.heap.size wr).alloc (Nat.le_refl _) (.cells #[.int .i64 p.1, .int .i64 p.2] 104))
              have BQ := Lib.hid (BP.out.alloc (by simp) (.cells #[.int .i64 p.1, .int .i64 p.2, .bool false] 249))
              have HN7 := Lib.hid (heap_alloc_new (wr.alloc (.cells #[.int .i64 p.1, .int .i64 p.2] 104)) (.cells #[.int .i64 p.1, .int .i64 p.2, .bool false] 249))
              have hnb6 := AY.out.lt
              rw [show (wr.alloc (.cells #[.int .i64 p.1, .int .i64 p.2] 104)).heap.size = wr.heap.size + 1 by simp] at HN7
              clear hcl hcells hp
              go_wp2_with (at_builtin; refine wpList_append_lies _ (by rfl) _ _ _ (by rfl) BB 249 i0 _ 3 24 Tryz.underlying250 hi0 hz0 hz1 hz2 rfl (by omega) _ _ _ (by rfl) (own_below A1'.out BQ.out) ⟨wr.heap.size + 1, 0, none⟩ 1 1 [.int .i64 p.1, .int .i64 p.2, .bool false] (by rfl) (by rfl) (World.news_of_block (cs := #[.int .i64 p.1, .int .i64 p.2, .bool false]) (t := 249) (fr := (0, 0)) HN7.out) (by simp [Value.oneCell']) (by omega) (by have := HKL.out; unfold maxLen; omega) (by have := HKL.out; omega) (Nat.le_trans (Nat.le_trans hBB A4.out.size) BQ.out.size) (wr.heap.size + 1 + 1) (by simp) ?_; intro g4 cap4 w7 hown hgrow hat hlt7)
              have A1k := own_below A1.out BQ.out
              have N2 := Lib.hid ((A2.out.kept BQ.out).grown hgrow (fun k hk => WkW.stk (A2.out.kept BQ.out) (show Stk' _ BB _ _ from A1k) k hk))
              have NP := Lib.hid (own_of (own_below AP.out BQ.out) (fun k hk => hgrow.block k (World.ownsRow.lt (own_below AP.out BQ.out) k hk).2 (fun e => by
                rcases own_own (own_below AP.out BQ.out) A1k typ_ne4 with e2 | e2
                · rw [hk] at e2; cases e2
                · rw [hk] at e2; exact e2 e)))
              have NY := Lib.hid (Blk.grown (AY.out.kept BQ.out) hgrow AN.out)
              have N4 := Lib.hid ((A4.out.trans (BQ.out.mono (Nat.le_trans hBB A4.out.size))).grown hgrow (Nat.le_trans (Nat.le_trans hBB A4.out.size) BQ.out.size) (fun k hk => (World.ownsRow.lt A1k k hk).1))
              have NN : Hid ((Value.slice (some ⟨g4, 0, none⟩) (k + (s.length + 1) + 1) cap4).ownBlock ≠ some nb) := by
                show _ ≠ _
                simp only [Value.ownBlock, ne_eq, Option.some.injEq]
                rcases hat with e | e
                · intro e3; subst e3; exact AN.out e
                · omega
              have N1 : Hid (Stk' w7 BB (.slice (some ⟨g4, 0, none⟩) (k + (s.length + 1) + 1) cap4) ((N.take (k + 1)).reverse.map (fun x => (x, false)) ++ (y, true) :: s)) := by
                rw [push_take HTK.out]
                exact Stk'.push (x := (p, false)) (by rw [HLn.out]; exact hown)
              clear hown hgrow hat A1k A1 A1' A2 A4 AP AY AN BP BQ HN7
              go_wp2_with fail
              exact ⟨⟨k + 1, by have := HLT.out; omega, by go_num, N1, N2, N4, NP, NY, NN⟩, by have := HLT.out; simp [intOf]; omega⟩
            · have hk2 : k = N.length := by omega
              subst hk2
              rw [List.take_length] at A1
              have hnl : ¬ (N.length : Int) < N.length := by omega
              cases N with
              | nil =>
                as_aux_lemma =>
                have k0 : wr.cell? ⟨nb, 0, none⟩ = some (.int .i64 y.1) := AY.out.cell 0
                have k1 : wr.cell? ⟨nb, 1, none⟩ = some (.int .i64 y.2) := AY.out.cell 1
                have CE := Lib.hid (end_any y wr A2.out (Nat.le_trans hBB A4.out.size) (by have := HLEN.out.2; omega))
                have HE2 : Hid (Dfs M G S (st, i) m0 E0 lo0 bl0 ((y, true) :: s) (upd m y true) (if y.1 = 0 then E ++ [y.2] else E) lo (if y.1 ≠ 0 then true else bl)) := by
                  have := HEN.out
                  simp only [true_and] at this
                  exact this
                have A1' : Hid (Stk' wr BB u4 ((y, true) :: s)) := A1.out
                clear HEN A1
                go_wp2_with fail
                refine CE.out.mono ?_
                rintro e w7 ⟨rfl, ev', hwk, hkp⟩
                have T1 : Hid (Stk' w7 BB u4 ((y, true) :: s)) := own_kpp A1'.out hkp (A2.out.stk A1'.out)
                have T4 := Lib.hid (A4.out.trans (hkp.below (B := BB) (fun k hk => by
                  rcases hk with rfl | rfl | hk
                  · exact A2.out.lw
                  · exact A2.out.lm
                  · exact (World.ownsRow.lt A2.out.er k hk).1) (Nat.le_trans hBB A4.out.size)))
                have T2 := Lib.hid hwk
                clear hwk hkp CE A1' A2 A4 AP AY AN
                go_wp2_with fail
                refine ⟨⟨_, _, ev', _, lo, _, T1, T2, HE2, T4⟩, ?_⟩
                rw [T2.out.mp.inn, lenOf_stk T1.out, HM0.out, List.length_cons]
                show _ < _ + (s.length + 1)
                have := HUN.out
                omega
              | cons z N =>
                as_aux_lemma =>
                have hne : ¬ (((z :: N).length : Int) = 0) := by simp only [List.length_cons]; omega
                have HE2 : Hid (Dfs M G S (st, i) m0 E0 lo0 bl0 (((z :: N).reverse.map (fun x => (x, false))) ++ (y, true) :: s) (upd m y true) E lo bl) := by
                  have := HEN.out
                  rw [if_neg (by rintro ⟨h, _⟩; cases h), if_neg (by rintro ⟨h, _⟩; cases h)] at this
                  exact this
                clear HEN
                go_wp2_with fail
                refine ⟨⟨_, _, ev, _, lo, _, A1, A2, HE2, A4⟩, ?_⟩
                rw [A2.out.mp.inn, lenOf_stk A1.out, HM0.out]
                show _ < _ + (s.length + 1)
                have := HUN.out
                have := HN2.out
                simp only [List.length_append, List.length_map, List.length_reverse, List.length_cons] at *
                omega
end
end Go.Proofs.YtinjmdjnkneidaaGreatDoor
