/-
  What runs of a program may come to, from each state: outcomesOf.
-/
import Derived.Test.YtopbkkmplgllkaaGreatDoorMp
import Derived.Deep.MidRow
namespace Go.Proofs.YtopbkkmplgllkaaGreatDoor
open Go.RowKit Tm Go.Great Classical Go.ChangeMaps

theorem infoOut : (Tryz.prog.info? 68).map (fun i => (i.zero, i.size, i.bytes)) = some (some (.agg #[.int .u32 0, .bool false, .bool false]), 3, 8) := by kernel_rfl
/-- Outcomes, each three cells. -/
abbrev Oc := (Nat → Bool) × Bool × Bool
def ocC (o : Oc) : List Value := [.int .u32 (nb 27 o.1 : Nat), .bool o.2.1, .bool o.2.2]
def ocs (f : Nat → Oc) (n : Nat) : List Value := (List.range n).flatMap fun i => ocC (f i)
theorem ocs_len (f : Nat → Oc) (n : Nat) : (ocs f n).length = n * 3 := by
  induction n with
  | zero => rfl
  | succ n ih => unfold ocs at *; rw [List.range_succ, List.flatMap_append, List.length_append, ih]; simp [ocC]; omega
theorem ocs_succ (f : Nat → Oc) (n : Nat) : ocs f (n + 1) = ocs f n ++ ocC (f n) := by
  unfold ocs; rw [List.range_succ, List.flatMap_append]; simp
theorem ocs_get (f : Nat → Oc) : ∀ (n i : Nat), i < n → (ocs f n)[i * 3]? = some (.int .u32 (nb 27 (f i).1 : Nat)) ∧ (ocs f n)[i * 3 + 1]? = some (.bool (f i).2.1) ∧ (ocs f n)[i * 3 + 2]? = some (.bool (f i).2.2) := by
  intro n
  induction n with
  | zero => intro i hi; omega
  | succ n ih =>
    intro i hi
    rw [ocs_succ]
    have hl := ocs_len f n
    by_cases h : i < n
    · obtain ⟨a, b, c⟩ := ih i h
      rw [List.getElem?_append_left (by omega), List.getElem?_append_left (by omega), List.getElem?_append_left (by omega)]
      exact ⟨a, b, c⟩
    · have : i = n := by omega
      subst this
      rw [List.getElem?_append_right (by omega), List.getElem?_append_right (by omega), List.getElem?_append_right (by omega), hl, show i * 3 - i * 3 = 0 by omega, show i * 3 + 1 - i * 3 = 1 by omega, show i * 3 + 2 - i * 3 = 2 by omega]
      exact ⟨rfl, rfl, rfl⟩
theorem typ_ne5 : 71 ≠ 68 := by decide
/-- A row of 27 outcomes. -/
def OcR (w : World) (B : Nat) (v : Value) (f : Nat → Oc) : Prop := w.ownsRow B 68 3 v 27 (ocs f 27)
noncomputable def oc (p : Pg) : Nat → Oc := fun i => (rT p i, rL p i, rK p i)
theorem outV_oc (p : Pg) (i : Nat) : outV p i = .agg #[.int .u32 (nb 27 (oc p i).1 : Nat), .bool (oc p i).2.1, .bool (oc p i).2.2] := rfl

set_option maxRecDepth 100000 in
set_option maxHeartbeats 4000000 in
theorem outcomes_any (p : Pg) (B : Nat) (v : Value) (w : World) (hv : StV w B p v) (hp : p.ok false) (hl : p.all.length ≤ 1100) :
    Calls Tryz.prog 43 #[v] w fun e w' => ∃ r, e = .returned r ∧ OcR w' w.heap.size r (oc p) ∧ Below w.heap.size w w' := by
  obtain ⟨i0, hi0, hz0, hz1, hz2⟩ := info_parts infoOut
  obtain ⟨T, u, rfl⟩ := hv.forms
  have C := Lib.hid (flowOf_any p B _ w hv hp hl)
  clear hv
  go_enter Tryz.func43, Tryz.ntmps43
  go_wp2_with fail
  refine C.out.mono ?_
  rintro e w1 ⟨rb, cap, rfl, hF, hb⟩
  have HF := Lib.hid hF
  have b1 := hb.alloc hb.size (.cells #[.slice (some ⟨rb, 0, none⟩) (flG p).length cap, .int .i64 (flS p : Nat)] 71)
  have f1 := Blk.new w1 #[.slice (some ⟨rb, 0, none⟩) (flG p).length cap, .int .i64 (flS p : Nat)] 71
  have bw1 := (Below.refl w1.heap.size w1).alloc (Nat.le_refl _) (.cells #[.slice (some ⟨rb, 0, none⟩) (flG p).length cap, .int .i64 (flS p : Nat)] 71)
  have T1 := Lib.hid b1
  have T2 := Lib.hid f1
  have T3 := Lib.hid bw1
  have H1 := Lib.hid hb.size
  clear hF hb b1 f1 bw1 C
  go_wp2_with fail
  generalize w1.alloc (.cells #[.slice (some ⟨rb, 0, none⟩) (flG p).length cap, .int .i64 (flS p : Nat)] 71) = w2 at *
  go_loopw [4, 8] (fun ov ix wr => ∃ k : Nat, k ≤ 27 ∧ ix = .int .i64 k ∧ Hid (wr.ownsRow w1.heap.size 68 3 ov k (ocs (oc p) k)) ∧ Hid (Below w.heap.size w wr) ∧ Hid (Blk wr w1.heap.size #[.slice (some ⟨rb, 0, none⟩) (flG p).length cap, .int .i64 (flS p : Nat)] 71) ∧ Hid (Below w1.heap.size w1 wr)) (fun _ ix _ => 27 - (intOf ix).toNat)
  case atStart => exact ⟨0, by omega, rfl, ⟨rfl, .inl ⟨rfl, rfl⟩⟩, T1, T2, T3⟩
  case round =>
    clear T1 T2 T3
    obtain ⟨k, hk, rfl, R1, R2, R3, R4⟩ := hrel
    by_cases hlt : k < 27
    · have C2 := Lib.hid (outcome_p HF.out k hlt wr R4.out)
      rw [outV_oc] at C2
      have HS := Lib.hid (ocs_succ (oc p) k)
      unfold ocC at HS
      generalize nb 27 (oc p k).1 = x0 at C2 HS
      generalize (oc p k).2.1 = x1 at C2 HS
      generalize (oc p k).2.2 = x2 at C2 HS
      have j0 := R3.out.cell 0
      have j1 := R3.out.cell 1
      simp only [List.getElem?_toArray, List.getElem?_cons_zero, List.getElem?_cons_succ] at j0 j1
      go_wp2_with fail
      refine C2.out.mono ?_
      rintro e w5 ⟨rfl, hq⟩
      have BA := Lib.hid ((Below.refl w5.heap.size w5).alloc (Nat.le_refl _) (.cells #[.int .u32 x0, .bool x1, .bool x2] 68))
      have HQ := Lib.hid hq
      have BQ := Lib.hid (R2.out.trans (hq.mono R2.out.size))
      have BR := Lib.hid (R4.out.trans (hq.mono R4.out.size))
      have RA := Lib.hid (own_below (own_below R1.out hq) BA.out)
      clear hq j0 j1
      go_wp2_with (at_builtin; refine wpList_append_lies _ (by rfl) _ _ _ (by rfl) w1.heap.size 68 i0 _ 3 8 Tryz.underlying43 hi0 hz0 hz1 hz2 rfl (by omega) _ k (ocs (oc p) k) (by rfl) RA.out ⟨w5.heap.size, 0, none⟩ 1 1 [.int .u32 x0, .bool x1, .bool x2] (by rfl) (by rfl) (World.news_of_block (cs := #[.int .u32 x0, .bool x1, .bool x2]) (t := 68) (fr := (0, 0)) (heap_alloc_new w5 _)) (by simp [Value.oneCell']) (by omega) (by unfold maxLen; omega) (by omega) (by have := BR.out.size; simp; omega) (w5.heap.size + 1) (by simp) ?_; intro g3 cap3 w6 hown hgrow hat hlt6)
      have B6 := Lib.hid ((BR.out.trans (BA.out.mono BR.out.size)).grown hgrow (by have := BR.out.size; have := BA.out.size; omega) (fun k hk => (World.ownsRow.lt RA.out k hk).1))
      have B7 := Lib.hid ((BQ.out.trans (BA.out.mono BQ.out.size)).grown hgrow (by have := BQ.out.size; have := BA.out.size; omega) (fun k hk => Nat.le_trans H1.out (World.ownsRow.lt RA.out k hk).1))
      have N3 := Lib.hid (Blk.grown ((R3.out.kept HQ.out).kept BA.out) hgrow (own_blk RA.out ((R3.out.kept HQ.out).kept BA.out) typ_ne5))
      exact ⟨⟨k + 1, by omega, rfl, by rw [HS.out]; exact hown, B7, N3, B6⟩, by simp [intOf]; omega⟩
    · have hk2 : k = 27 := by omega
      subst hk2
      go_wp2_with fail
      go_ret
      exact ⟨_, rfl, World.ownsRow.mono R1.out H1.out, R2.out⟩
end Go.Proofs.YtopbkkmplgllkaaGreatDoor
