import Derived.Test.YtgkoljphndgoeaaGreatDoorTopM1
import Derived.Deep.MidRow
import Derived.Test.YtgkoljphndgoeaaGreatDoorTopP2
import Derived.Test.YtgkoljphndgoeaaGreatDoorTwo
import Derived.Deep.RegionHeld3
import Derived.Test.YtgkoljphndgoeaaGreatDoorTopX1
import Derived.BigQuiet
import Derived.Test.YtgkoljphndgoeaaGreatDoorTopR1
import Derived.Test.YtgkoljphndgoeaaGreatDoorTopG
namespace Go.Proofs.YtgkoljphndgoeaaGreatDoor
open Go.RowKit Tm Go.Great Classical Go.ChangeMaps
theorem infoOut : (Tryz.prog.info? 127).map (fun i => (i.zero, i.size, i.bytes)) = some (some (.agg #[.int .u32 0, .bool false, .bool false]), 3, 8) := by kernel_rfl
abbrev Oc := (Nat → Bool) × Bool × Bool
def ocC (o : Oc) : List Value := [.int .u32 (nb 27 o.1 : Nat), .bool o.2.1, .bool o.2.2]
def ocs (f : Nat → Oc) (n : Nat) : List Value := (List.range n).flatMap fun i => ocC (f i)
theorem ocs_len (f : Nat → Oc) (n : Nat) : (ocs f n).length = n * 3 := by
 induction n with
 | zero => rfl
 | succ n ih => unfold ocs at *; rw [List.range_succ, List.flatMap_append, List.length_append, ih]; simp [ocC]; omega
theorem ocs_succ (f : Nat → Oc) (n : Nat) : ocs f (n + 1) = ocs f n ++ ocC (f n) := by
 unfold ocs; rw [List.range_succ, List.flatMap_append]; simp
theorem ocs_get (f : Nat → Oc) : ∀ (n i : Nat), i < n → (ocs f n)[i * 3]? = some (.int .u32 (nb 27 (f i).1 : Nat)) ∧ (ocs f n)[i * 3 + 1]? = some (.bool (f i).2.1) ∧ (ocs f n)[i * 3 + 2]? = some (.bool (f i).2.2) := by
 intro n
 induction n with
 | zero => intro i hi; omega
 | succ n ih =>
  intro i hi
  rw [ocs_succ]
  have hl := ocs_len f n
  by_cases h : i < n
  ·obtain ⟨a, b, c⟩ := ih i h
   rw [List.getElem?_append_left (by omega), List.getElem?_append_left (by omega), List.getElem?_append_left (by omega)]
   exact ⟨a, b, c⟩
  ·have : i = n := by omega
   subst this
   rw [List.getElem?_append_right (by omega), List.getElem?_append_right (by omega), List.getElem?_append_right (by omega), hl, show i * 3 - i * 3 = 0 by omega, show i * 3 + 1 - i * 3 = 1 by omega, show i * 3 + 2 - i * 3 = 2 by omega]
   exact ⟨rfl, rfl, rfl⟩
theorem typ_ne5 : 131 ≠ 127 := by decide
def OcR (w : World) (B : Nat) (v : Value) (f : Nat → Oc) : Prop := w.ownsRow B 127 3 v 27 (ocs f 27)
noncomputable def oc (p : Pg) : Nat → Oc := fun i => (rT p i, rL p i, rK p i)
theorem outV_oc (p : Pg) (i : Nat) : outV p i = .agg #[.int .u32 (nb 27 (oc p i).1 : Nat), .bool (oc p i).2.1, .bool (oc p i).2.2] := rfl
set_option maxRecDepth 100000 in
set_option maxHeartbeats 4000000 in
theorem outcomes_any (p : Pg) (B : Nat) (v : Value) (w : World) (hv : StV w B p v) (hp : p.ok false) (hl : p.all.length ≤ 1100) :
  Calls Tryz.prog 94 #[v] w fun e w' => ∃ r, e = .returned r ∧ OcR w' w.heap.size r (oc p) ∧ Below w.heap.size w w' := by
 obtain ⟨i0, hi0, hz0, hz1, hz2⟩ := info_parts infoOut
 obtain ⟨T, u, rfl⟩ := hv.forms
 have C := Lib.hid (flowOf_any p B _ w hv hp hl)
 clear hv
 go_enter Tryz.func94, Tryz.ntmps94
 go_wp2_with fail
 refine C.out.mono ?_
 rintro e w1 ⟨rb, cap, rfl, hF, hb⟩
 have HF := Lib.hid hF
 have b1 := hb.alloc hb.size (.cells #[.slice (some ⟨rb, 0, none⟩) (flG p).length cap, .int .i64 (flS p : Nat)] 131)
 have f1 := Blk.new w1 #[.slice (some ⟨rb, 0, none⟩) (flG p).length cap, .int .i64 (flS p : Nat)] 131
 have bw1 := (Below.refl w1.heap.size w1).alloc (Nat.le_refl _) (.cells #[.slice (some ⟨rb, 0, none⟩) (flG p).length cap, .int .i64 (flS p : Nat)] 131)
 have T1 := Lib.hid b1
 have T2 := Lib.hid f1
 have T3 := Lib.hid bw1
 have H1 := Lib.hid hb.size
 clear hF hb b1 f1 bw1 C
 go_wp2_with fail
 generalize w1.alloc (.cells #[.slice (some ⟨rb, 0, none⟩) (flG p).length cap, .int .i64 (flS p : Nat)] 131) = w2 at *
 go_loopw [4, 8] (fun ov ix wr => ∃ k : Nat, k ≤ 27 ∧ ix = .int .i64 k ∧ Hid (wr.ownsRow w1.heap.size 127 3 ov k (ocs (oc p) k)) ∧ Hid (Below w.heap.size w wr) ∧ Hid (Blk wr w1.heap.size #[.slice (some ⟨rb, 0, none⟩) (flG p).length cap, .int .i64 (flS p : Nat)] 131) ∧ Hid (Below w1.heap.size w1 wr)) (fun _ ix _ => 27 - (intOf ix).toNat)
 case atStart => exact ⟨0, by omega, rfl, ⟨rfl, .inl ⟨rfl, rfl⟩⟩, T1, T2, T3⟩
 case round =>
  clear T1 T2 T3
  obtain ⟨k, hk, rfl, R1, R2, R3, R4⟩ := hrel
  by_cases hlt : k < 27
  ·have C2 := Lib.hid (outcome_p HF.out k hlt wr R4.out)
   rw [outV_oc] at C2
   have HS := Lib.hid (ocs_succ (oc p) k)
   unfold ocC at HS
   generalize nb 27 (oc p k).1 = x0 at C2 HS
   generalize (oc p k).2.1 = x1 at C2 HS
   generalize (oc p k).2.2 = x2 at C2 HS
   have j0 := R3.out.cell 0
   have j1 := R3.out.cell 1
   simp only [List.getElem?_toArray, List.getElem?_cons_zero, List.getElem?_cons_succ] at j0 j1
   go_wp2_with fail
   refine C2.out.mono ?_
   rintro e w5 ⟨rfl, hq⟩
   have BA := Lib.hid ((Below.refl w5.heap.size w5).alloc (Nat.le_refl _) (.cells #[.int .u32 x0, .bool x1, .bool x2] 127))
   have HQ := Lib.hid hq
   have BQ := Lib.hid (R2.out.trans (hq.mono R2.out.size))
   have BR := Lib.hid (R4.out.trans (hq.mono R4.out.size))
   have RA := Lib.hid (own_below (own_below R1.out hq) BA.out)
   clear hq j0 j1
   go_wp2_with (at_builtin; refine wpList_append_lies _ (by rfl) _ _ _ (by rfl) w1.heap.size 127 i0 _ 3 8 Tryz.underlying97 hi0 hz0 hz1 hz2 rfl (by omega) _ k (ocs (oc p) k) (by rfl) RA.out ⟨w5.heap.size, 0, none⟩ 1 1 [.int .u32 x0, .bool x1, .bool x2] (by rfl) (by rfl) (World.news_of_block (cs := #[.int .u32 x0, .bool x1, .bool x2]) (t := 127) (fr := (0, 0)) (heap_alloc_new w5 _)) (by simp [Value.oneCell']) (by omega) (by unfold maxLen; omega) (by omega) (by have := BR.out.size; simp; omega) (w5.heap.size + 1) (by simp) ?_; intro g3 cap3 w6 hown hgrow hat hlt6)
   have B6 := Lib.hid ((BR.out.trans (BA.out.mono BR.out.size)).grown hgrow (by have := BR.out.size; have := BA.out.size; omega) (fun k hk => (World.ownsRow.lt RA.out k hk).1))
   have B7 := Lib.hid ((BQ.out.trans (BA.out.mono BQ.out.size)).grown hgrow (by have := BQ.out.size; have := BA.out.size; omega) (fun k hk => Nat.le_trans H1.out (World.ownsRow.lt RA.out k hk).1))
   have N3 := Lib.hid (Blk.grown ((R3.out.kept HQ.out).kept BA.out) hgrow (own_blk RA.out ((R3.out.kept HQ.out).kept BA.out) typ_ne5))
   exact ⟨⟨k + 1, by omega, rfl, by rw [HS.out]; exact hown, B7, N3, B6⟩, by simp [intOf]; omega⟩
  ·have hk2 : k = 27 := by omega
   subst hk2
   go_wp2_with fail
   go_ret
   exact ⟨_, rfl, World.ownsRow.mono R1.out H1.out, R2.out⟩
theorem orO_bits (F G : Nat → Bool) : bits .or .u32 (nb 27 F : Nat) (nb 27 G : Nat) = (nb 27 (fun i => F i || G i) : Nat) := by
 have h := nb_lt27 F; have h' := nb_lt27 G
 rw [u32_or_nat _ _ (by omega) (by omega), nb_or2]
def ocV (o : Oc) : Value := .agg #[.int .u32 (nb 27 o.1 : Nat), .bool o.2.1, .bool o.2.2]
def eqO (a b : Oc) : Bool := (nb 27 a.1 == nb 27 b.1) && (a.2.1 == b.2.1) && (a.2.2 == b.2.2)
set_option maxRecDepth 100000 in
set_option maxHeartbeats 4000000 in
theorem isSame_any (a b : Oc) (w : World) : Calls Tryz.prog 110 #[ocV a, ocV b] w fun e w' => e = .returned (.bool (eqO a b)) ∧ Below w.heap.size w w' := by
 unfold ocV eqO
 generalize nb 27 a.1 = x0
 generalize a.2.1 = x1
 generalize a.2.2 = x2
 generalize nb 27 b.1 = y0
 generalize b.2.1 = y1
 generalize b.2.2 = y2
 by_cases h0 : y0 = x0
 ·subst h0
  by_cases h1 : y1 = x1
  ·subst h1
   by_cases h2 : y2 = x2
   ·subst h2
    go_enter Tryz.func110, Tryz.ntmps110
    go_wp2_with fail
    go_ret
    exact ⟨by simp, ((Below.refl _ _).alloc (Nat.le_refl _) _).alloc (by simp) _⟩
   ·have n2 : ¬ x2 = y2 := fun h => h2 h.symm
    have e2 : (x2 == y2) = false := beq_false_of_ne (fun h => h2 h.symm)
    go_enter Tryz.func110, Tryz.ntmps110
    go_wp2_with fail
    go_ret
    exact ⟨by simp [e2], ((Below.refl _ _).alloc (Nat.le_refl _) _).alloc (by simp) _⟩
  ·have n1 : ¬ x1 = y1 := fun h => h1 h.symm
   have e1 : (x1 == y1) = false := beq_false_of_ne (fun h => h1 h.symm)
   go_enter Tryz.func110, Tryz.ntmps110
   go_wp2_with fail
   go_ret
   exact ⟨by simp [e1], ((Below.refl _ _).alloc (Nat.le_refl _) _).alloc (by simp) _⟩
 ·have e0 : (x0 == y0) = false := beq_false_of_ne (fun h => h0 h.symm)
  have n0 : ¬ ((x0 : Nat) : Int) = (y0 : Nat) := by omega
  go_enter Tryz.func110, Tryz.ntmps110
  go_wp2_with fail
  go_ret
  exact ⟨by simp [e0], ((Below.refl _ _).alloc (Nat.le_refl _) _).alloc (by simp) _⟩
def Fits (fn : FuncId) (f : Oc → Oc → Bool) : Prop := (∀ (a b : Oc) (w : World), Calls Tryz.prog fn #[ocV a, ocV b] w fun e w' => e = .returned (.bool (f a b)) ∧ Below w.heap.size w w') ∧ ∀ (args : Array Value) (w : World), (callFunc fn args).run Tryz.prog w = .ok (.enter fn args) w
theorem fits_same : Fits 110 eqO := ⟨isSame_any, fun a w => by kernel_rfl⟩
end Go.Proofs.YtgkoljphndgoeaaGreatDoor
namespace Go.Proofs.YtgkoljphndgoeaaGreatDoor
open Go.RowKit Tm Go.Great Go.ChangeMaps
theorem OcR.form {w : World} {B : Nat} {v : Value} {F : Nat → Oc} (h : OcR w B v F) : ∃ g cap, v = .slice (some ⟨g, 0, none⟩) 27 cap ∧ 27 ≤ cap ∧ ∀ k, k < 27 → w.cell? ⟨g, k * 3, none⟩ = some (.int .u32 (nb 27 (F k).1 : Nat)) ∧ w.cell? ⟨g, k * 3 + 1, none⟩ = some (.bool (F k).2.1) ∧ w.cell? ⟨g, k * 3 + 2, none⟩ = some (.bool (F k).2.2) := by
 obtain ⟨a, cap, rfl, hc, hf⟩ := own_forms h
 obtain ⟨g, rfl, _, hcell⟩ := hf (by omega)
 refine ⟨g, cap, rfl, hc, fun k hk => ?_⟩
 obtain ⟨h1, h2, h3⟩ := ocs_get F 27 k hk
 exact ⟨hcell _ _ h1, hcell _ _ h2, hcell _ _ h3⟩
theorem OcR.kept {w w' : World} {B : Nat} {v : Value} {F : Nat → Oc} (h : OcR w B v F) (hb : Below w.heap.size w w') : OcR w' B v F := own_below h hb
def Misfit (f : Oc → Oc → Bool) (F G : Nat → Oc) (e : Ending) : Prop := (∃ k : Nat, k < 27 ∧ f (F k) (G k) = false ∧ (∀ j, j < k → f (F j) (G j) = true) ∧ e = .returned (.tuple #[.int .i64 k, .bool true])) ∨ ((∀ j, j < 27 → f (F j) (G j) = true) ∧ e = .returned (.tuple #[.int .i64 0, .bool false]))
set_option maxRecDepth 100000 in
set_option maxHeartbeats 8000000 in
theorem misfit_any {fn : FuncId} {f : Oc → Oc → Bool} (hf : Fits fn f) (F G : Nat → Oc) (B B' : Nat) (v1 v2 : Value) (w : World) (h1 : OcR w B v1 F) (h2 : OcR w B' v2 G) :
  Calls Tryz.prog 111 #[.agg #[v1, v2, .func (.func fn) #[] #[]]] w fun e w' => Misfit f F G e ∧ Below w.heap.size w w' := by
 obtain ⟨g1, c1, rfl, k1, f1⟩ := h1.form
 obtain ⟨g2, c2, rfl, k2, f2⟩ := h2.form
 obtain ⟨hfa, hen⟩ := hf
 have HF := fun a b w => Lib.hid (hfa a b w)
 have K0 := Lib.hid (Blk.new w #[.slice (some ⟨g1, 0, none⟩) 27 c1, .slice (some ⟨g2, 0, none⟩) 27 c2, .func (.func fn) #[] #[]] 121)
 have HB := Lib.hid ((Below.refl w.heap.size w).alloc (Nat.le_refl _) (.cells #[.slice (some ⟨g1, 0, none⟩) 27 c1, .slice (some ⟨g2, 0, none⟩) 27 c2, .func (.func fn) #[] #[]] 121))
 have F1 := Lib.hid f1
 have F2 := Lib.hid f2
 have q0 := K0.out.cell 0
 have q1 := K0.out.cell 1
 have q2 := K0.out.cell 2
 simp only [List.getElem?_toArray, List.getElem?_cons_zero, List.getElem?_cons_succ] at q0 q1 q2
 clear hfa h1 h2 f1 f2
 go_enter Tryz.func111, Tryz.ntmps111
 go_wp2_with fail
 generalize w.alloc (.cells #[.slice (some ⟨g1, 0, none⟩) 27 c1, .slice (some ⟨g2, 0, none⟩) 27 c2, .func (.func fn) #[] #[]] 121) = w2 at *
 go_wp2_with fail
 clear q0 q1 q2
 go_loopw [8] (fun ix wr => ∃ k : Nat, k ≤ 27 ∧ ix = .int .i64 k ∧ Hid (Below w.heap.size w wr) ∧ Hid (Blk wr w.heap.size #[.slice (some ⟨g1, 0, none⟩) 27 c1, .slice (some ⟨g2, 0, none⟩) 27 c2, .func (.func fn) #[] #[]] 121) ∧ Hid (∀ j, j < k → f (F j) (G j) = true)) (fun ix _ => 27 - (intOf ix).toNat)
 case atStart => exact ⟨0, by omega, rfl, HB, K0, fun j hj => by omega⟩
 case round =>
  clear HB K0
  obtain ⟨k, hk, rfl, R1, R2, R3⟩ := hrel
  by_cases hlt : k < 27
  ·obtain ⟨x0, x1, x2⟩ := F1.out k hlt
   obtain ⟨y0, y1, y2⟩ := F2.out k hlt
   replace x0 := ckeep R1.out x0
   replace x1 := ckeep R1.out x1
   replace x2 := ckeep R1.out x2
   replace y0 := ckeep R1.out y0
   replace y1 := ckeep R1.out y1
   replace y2 := ckeep R1.out y2
   have q0 := R2.out.cell 0
   have q1 := R2.out.cell 1
   have q2 := R2.out.cell 2
   simp only [List.getElem?_toArray, List.getElem?_cons_zero, List.getElem?_cons_succ] at q0 q1 q2
   have C := fun w => Lib.hid (HF (F k) (G k) w).out
   unfold ocV at C
   have HFK : Hid (f (F k) (G k) = f (F k) (G k)) := rfl
   generalize hr : f (F k) (G k) = r at C
   have HR := Lib.hid hr
   clear hr HFK
   generalize nb 27 (F k).1 = u0 at *
   generalize (F k).2.1 = u1 at *
   generalize (F k).2.2 = u2 at *
   generalize nb 27 (G k).1 = s0 at *
   generalize (G k).2.1 = s1 at *
   generalize (G k).2.2 = s2 at *
   have hlt2 : (k : Int) < 27 := by omega
   have hk0 : (0 : Int) ≤ k := by omega
   have hbb := (Below.refl wr.heap.size wr).drew
   go_wp2_with fail
   have RG : ∀ w', Below wr.heap.size wr w' → Below wr.heap.size wr w' ∧ w'.cell? ⟨w.heap.size, 0, none⟩ = some (.slice (some ⟨g1, 0, none⟩) 27 c1) ∧ w'.cell? ⟨w.heap.size, 1, none⟩ = some (.slice (some ⟨g2, 0, none⟩) 27 c2) ∧ w'.cell? ⟨w.heap.size, 2, none⟩ = some (.func (.func fn) #[] #[]) ∧ w'.cell? ⟨g1, k * 3, none⟩ = some (.int .u32 u0) ∧ w'.cell? ⟨g1, k * 3 + 1, none⟩ = some (.bool u1) ∧ w'.cell? ⟨g1, k * 3 + 2, none⟩ = some (.bool u2) ∧ w'.cell? ⟨g2, k * 3, none⟩ = some (.int .u32 s0) ∧ w'.cell? ⟨g2, k * 3 + 1, none⟩ = some (.bool s1) ∧ w'.cell? ⟨g2, k * 3 + 2, none⟩ = some (.bool s2) :=
    fun w' h => ⟨h, ckeep h q0, ckeep h q1, ckeep h q2, ckeep h x0, ckeep h x1, ckeep h x2, ckeep h y0, ckeep h y1, ckeep h y2⟩
   have RG' := Lib.hid RG
   clear RG
   go_region_held3 (fun w' => Below wr.heap.size wr w' ∧ w'.cell? ⟨w.heap.size, 0, none⟩ = some (.slice (some ⟨g1, 0, none⟩) 27 c1) ∧ w'.cell? ⟨w.heap.size, 1, none⟩ = some (.slice (some ⟨g2, 0, none⟩) 27 c2) ∧ w'.cell? ⟨w.heap.size, 2, none⟩ = some (.func (.func fn) #[] #[]) ∧ w'.cell? ⟨g1, k * 3, none⟩ = some (.int .u32 u0) ∧ w'.cell? ⟨g1, k * 3 + 1, none⟩ = some (.bool u1) ∧ w'.cell? ⟨g1, k * 3 + 2, none⟩ = some (.bool u2) ∧ w'.cell? ⟨g2, k * 3, none⟩ = some (.int .u32 s0) ∧ w'.cell? ⟨g2, k * 3 + 1, none⟩ = some (.bool s1) ∧ w'.cell? ⟨g2, k * 3 + 2, none⟩ = some (.bool s2))
    ((first
     | exact RG'.out _ (by assumption)
     | (go_split_ands; exact RG'.out _ (by assumption))
     | (go_split_ands; exact RG'.out _ (bnext (by assumption) hq))))
    (first
     | ((with_reducible refine (C _).out.mono ?_); rintro e w5 ⟨rfl, hq⟩))
   all_goals
    go_split_ands
    have HQ := Lib.hid (show Below wr.heap.size wr _ from by assumption)
    have HF2 := Lib.hid (bnext R1.out HQ.out)
    cases r
    ·go_wp2_with fail
     go_ret2
     exact ⟨.inl ⟨k, hlt, HR.out, R3.out, rfl⟩, HF2.out⟩
    ·have K2 := Lib.hid (R2.out.kept HQ.out)
     go_wp2_with fail
     exact ⟨⟨k + 1, by omega, by go_num, HF2, K2, fun j hj => by
      by_cases e : j = k
      ·subst e; exact HR.out
      ·exact R3.out j (by omega)⟩, by simp [intOf]; omega⟩
  ·have hk2 : k = 27 := by omega
   subst hk2
   go_wp2_with fail
   go_ret2
   exact ⟨.inr ⟨R3.out, rfl⟩, R1.out⟩
def allO (f : Oc → Oc → Bool) (F G : Nat → Oc) : Bool := (List.range 27).all fun j => f (F j) (G j)
theorem allO_iff {f : Oc → Oc → Bool} {F G : Nat → Oc} : allO f F G = true ↔ ∀ j, j < 27 → f (F j) (G j) = true := by
 unfold allO
 rw [List.all_eq_true]
 exact ⟨fun h j hj => h j (List.mem_range.2 hj), fun h j hj => h j (List.mem_range.1 hj)⟩
set_option maxRecDepth 100000 in
set_option maxHeartbeats 4000000 in
theorem cmp_holds {fn : FuncId} {f : Oc → Oc → Bool} (hf : Fits fn f) (F G : Nat → Oc) (B B' : Nat) (v1 v2 : Value) (w : World) (h1 : OcR w B v1 F) (h2 : OcR w B' v2 G) :
  Calls Tryz.prog 173 #[.agg #[v1, v2, .func (.func fn) #[] #[]]] w fun e w' => e = .returned (.bool (allO f F G)) ∧ Below w.heap.size w w' := by
 have H1 := Lib.hid h1
 have H2 := Lib.hid h2
 obtain ⟨g1, c1, rfl, _, _⟩ := h1.form
 obtain ⟨g2, c2, rfl, _, _⟩ := h2.form
 have bx := (Below.refl w.heap.size w).alloc (Nat.le_refl _) (.cells #[.slice (some ⟨g1, 0, none⟩) 27 c1, .slice (some ⟨g2, 0, none⟩) 27 c2, .func (.func fn) #[] #[]] 121)
 have K0 := Blk.new w #[.slice (some ⟨g1, 0, none⟩) 27 c1, .slice (some ⟨g2, 0, none⟩) 27 c2, .func (.func fn) #[] #[]] 121
 have C := Lib.hid (misfit_any hf F G B B' _ _ _ (H1.out.kept bx) (H2.out.kept bx))
 have BX := Lib.hid bx
 clear h1 h2 bx H1 H2
 go_enter Tryz.func173, Tryz.ntmps173
 go_wp2_with fail
 generalize w.alloc (.cells #[.slice (some ⟨g1, 0, none⟩) 27 c1, .slice (some ⟨g2, 0, none⟩) 27 c2, .func (.func fn) #[] #[]] 121) = w2 at *
 have q0 := K0.cell 0
 have q1 := K0.cell 1
 have q2 := K0.cell 2
 simp only [List.getElem?_toArray, List.getElem?_cons_zero, List.getElem?_cons_succ] at q0 q1 q2
 clear K0
 go_wp2_with fail
 refine C.out.mono ?_
 rintro e w3 ⟨hm, hb⟩
 have HB := Lib.hid (BX.out.trans (hb.mono BX.out.size))
 clear hb C q0 q1 q2
 rcases hm with ⟨k, hk, hkf, _, rfl⟩ | ⟨hall, rfl⟩
 ·have e0 : Hid (allO f F G = false) := by
   show _ = _
   cases ha : allO f F G with
   | false => rfl
   | true => have := allO_iff.1 ha k hk; rw [hkf] at this; cases this
  clear hkf
  go_wp2_with fail
  go_ret
  exact ⟨by rw [e0.out]; rfl, HB.out⟩
 ·have e0 : Hid (allO f F G = true) := allO_iff.2 hall
  clear hall
  go_wp2_with fail
  go_ret
  exact ⟨by rw [e0.out]; rfl, HB.out⟩
set_option maxHeartbeats 4000000 in
theorem same_any (F G : Nat → Oc) (B B' : Nat) (v1 v2 : Value) (w : World) (h1 : OcR w B v1 F) (h2 : OcR w B' v2 G) :
  Calls Tryz.prog 96 #[v1, v2] w fun e w' => e = .returned (.bool (allO eqO F G)) ∧ Below w.heap.size w w' := by
 have C := Lib.hid (cmp_holds fits_same F G B B' _ _ _ h1 h2)
 obtain ⟨g1, c1, rfl, _, _⟩ := h1.form
 obtain ⟨g2, c2, rfl, _, _⟩ := h2.form
 clear h1 h2
 go_enter Tryz.func96, Tryz.ntmps96
 go_wp2_with fail
 refine C.out.mono ?_
 rintro e w3 ⟨rfl, hb⟩
 have HB := Lib.hid hb
 clear hb
 go_wp2_with fail
 go_ret
 exact ⟨rfl, HB.out⟩
def ReadOut (p q : Pg) (w : World) (e : Ending) (w' : World) : Prop := ∃ r1 r2 B B', e = .returned (.tuple #[r1, r2, .bool true]) ∧ OcR w' B r1 (oc p) ∧ OcR w' B' r2 (oc q) ∧ Below w.heap.size w w'
set_option maxRecDepth 100000 in
set_option maxHeartbeats 4000000 in
theorem readOut_yes (s t : ByteArray) (w : World) {p q : Pg} (hp : p.ok false) (hs : s.data.toList = p.ser) (hl : s.size ≤ 200) (hq : q.ok false) (ht : t.data.toList = q.ser) (hm : t.size ≤ 200) :
  Calls Tryz.prog 100 #[.string s, .string t] w (ReadOut p q w) := by
 have C := fun w => Lib.hid (two_yes s t w hp hs hl hq ht hm)
 have lp := all_len hs hl
 have lq := all_len ht hm
 clear hs ht
 go_enter Tryz.func100, Tryz.ntmps100
 go_wp2_with fail
 refine (C _).out.mono ?_
 rintro e w2 ⟨T, u, T', u', w1, B, B', rfl, s1, b1, s2, b2⟩
 have HB := Lib.hid b2
 have S2 := Lib.hid s2
 have C1 := Lib.hid (outcomes_any p B _ w2 (s1.below b1) hp lp)
 clear s1 b1 s2 b2 C
 go_wp2_with fail
 refine C1.out.mono ?_
 rintro e w3 ⟨r1, rfl, h1, hb⟩
 have HB3 := Lib.hid (bnext HB.out hb)
 have C2 := Lib.hid (outcomes_any q B' _ w3 (S2.out.below hb) hq lq)
 have H1 := Lib.hid h1
 clear h1 hb C1 S2
 go_wp2_with fail
 refine C2.out.mono ?_
 rintro e w4 ⟨r2, rfl, h2, hb⟩
 have HB4 := Lib.hid (bnext HB3.out hb)
 have H2 := Lib.hid h2
 have H3 := Lib.hid (H1.out.kept hb)
 clear h2 hb C2 H1
 go_wp2_with fail
 go_ret3
 exact ⟨r1, r2, _, _, rfl, H3.out, H2.out, HB4.out⟩
set_option maxHeartbeats 2000000 in
theorem readOut_no (s t : ByteArray) (w : World) (h : ¬ ((PValid false s.data.toList ∧ s.size ≤ 200) ∧ PValid false t.data.toList ∧ t.size ≤ 200)) :
  Calls Tryz.prog 100 #[.string s, .string t] w fun e w' => e = .returned (.tuple #[.slice none 0 0, .slice none 0 0, .bool false]) ∧ Below w.heap.size w w' := by
 have C : ∀ w, Hid (Calls Tryz.prog 144 #[.string s, .string t] w fun e w' => e = .returned (.tuple #[.nilIface, .nilIface, .bool false]) ∧ Below w.heap.size w w') := fun w => by
  by_cases h1 : PValid false s.data.toList ∧ s.size ≤ 200
  ·exact two_noB s t w h1.1 h1.2 (fun h2 => h ⟨h1, h2⟩)
  ·exact two_noA s t w h1
 clear h
 go_enter Tryz.func100, Tryz.ntmps100
 go_wp2_with fail
 refine (C _).out.mono ?_
 rintro e w2 ⟨rfl, hb⟩
 have HB := Lib.hid hb
 clear hb
 go_wp2_with fail
 go_ret3
 exact ⟨rfl, HB.out⟩
set_option maxHeartbeats 2000000 in
theorem implSame_yes (s t : ByteArray) (w : World) {p q : Pg} (hp : p.ok false) (hs : s.data.toList = p.ser) (hl : s.size ≤ 200) (hq : q.ok false) (ht : t.data.toList = q.ser) (hm : t.size ≤ 200) :
  Calls Tryz.prog 30 #[.string s, .string t] w fun e w' => e = .returned (.bool (allO eqO (oc p) (oc q))) ∧ Below w.heap.size w w' := by
 have C := fun w => Lib.hid (readOut_yes s t w hp hs hl hq ht hm)
 clear hs ht
 go_enter Tryz.func30, Tryz.ntmps30
 go_wp2_with fail
 refine (C _).out.mono ?_
 rintro e w2 ⟨r1, r2, B, B', rfl, h1, h2, hb⟩
 have HB := Lib.hid hb
 have C1 := Lib.hid (same_any _ _ B B' _ _ w2 h1 h2)
 obtain ⟨g1, c1, rfl, _, _⟩ := h1.form
 obtain ⟨g2, c2, rfl, _, _⟩ := h2.form
 clear h1 h2 hb C
 go_wp2_with fail
 refine C1.out.mono ?_
 rintro e w3 ⟨rfl, hb⟩
 have HB3 := Lib.hid (bnext HB.out hb)
 clear hb
 go_wp2_with fail
 go_ret
 exact ⟨rfl, HB3.out⟩
end Go.Proofs.YtgkoljphndgoeaaGreatDoor
namespace Go.Proofs.YtgkoljphndgoeaaGreatDoor
open Go.RowKit Tm Go.Great
theorem PV.of {p : Pg} (hp : p.ok false) (hl : p.ser.length ≤ 200) : PV (bs p.ser) := ⟨⟨p, hp, by simp [bs]⟩, by rw [bs_size]; exact hl⟩
end Go.Proofs.YtgkoljphndgoeaaGreatDoor
namespace Go.Proofs.YtgkoljphndgoeaaGreatDoor
open Go.RowKit Go.Great
end Go.Proofs.YtgkoljphndgoeaaGreatDoor
