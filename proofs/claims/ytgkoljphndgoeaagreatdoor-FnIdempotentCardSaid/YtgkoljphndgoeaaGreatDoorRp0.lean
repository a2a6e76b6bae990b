import Derived.Test.YtgkoljphndgoeaaGreatDoorTopP2
import Derived.Test.YtgkoljphndgoeaaGreatDoorTopK2
import Derived.Test.YtgkoljphndgoeaaGreatDoorTopS1
namespace Go.Proofs.YtgkoljphndgoeaaGreatDoor
open Go.RowKit Tm Go.Great Go.ChangeMaps
section
variable {w w' : World} {g : Nat} {n : Int} {B : Nat}
theorem FlowR.other32 {sp : Value} {G : List Stp} (h : FlowR w B sp G) (h0 : w.cell? ⟨g, 0, none⟩ = some (.int .u32 n)) (hc : ∀ b o v, b ≠ g → w.cell? ⟨b, o, none⟩ = some v → w'.cell? ⟨b, o, none⟩ = some v) : FlowR w' B sp G := by
 obtain ⟨rb, cap, hs, hcap, hk⟩ := h
 refine ⟨rb, cap, hs, hcap, fun k s hks => ?_⟩
 have hne : rb ≠ g := by
  rintro rfl
  have hl : 0 < G.length := by have := (List.getElem?_eq_some_iff.1 hks).1; omega
  obtain ⟨x, y, h1, _, h3⟩ := hk 0 G[0] (List.getElem?_eq_getElem hl)
  rw [Nat.zero_mul, h0] at h1
  injection h1 with h1
  subst h1
  unfold StopR at h3
  split at h3
  ·cases h3.1
  ·obtain ⟨T, u, e⟩ := h3.1.forms; cases e
 obtain ⟨x, y, h1, h2, h3⟩ := hk k s hks
 refine ⟨x, y, hc _ _ _ hne h1, hc _ _ _ hne h2, ?_⟩
 unfold StopR at h3 ⊢
 split at h3
 ·exact h3
 ·obtain ⟨h4, b, h5, h6⟩ := h3
  refine ⟨h4.other h0 hc, b, h5, fun j m hj => ?_⟩
  have hb : b ≠ g := by
   rintro rfl
   have hl : 0 < s.nx.length := by have := (List.getElem?_eq_some_iff.1 hj).1; omega
   have := h6 0 s.nx[0] (List.getElem?_eq_getElem hl)
   rw [h0] at this
   injection this with this
   cases this
  exact hc _ _ _ hb (h6 j m hj)
theorem FlowOk.other32 {sp : Value} {st : Nat} {G : List Stp} (h : FlowOk false w B sp st G) (h0 : w.cell? ⟨g, 0, none⟩ = some (.int .u32 n)) (i : Nat) (u : Value) : FlowOk false (w.setCell ⟨g, i, none⟩ u) B sp st G :=
 ⟨h.fl.other32 h0 fun b o v hb hv => by rw [World.cell?_setCell_far _ _ _ _ (fun e => hb e.symm)]; exact hv, h.ok, h.top, h.sm, h.lt, h.bd⟩
end
set_option maxRecDepth 100000 in
set_option maxHeartbeats 4000000 in
theorem finals_any (p : Pg) (B : Nat) (v : Value) (w : World) (hv : StV w B p v) (hp : p.ok false) (hl : p.all.length ≤ 1100) :
  Calls Tryz.prog 175 #[v] w fun e w' => e = .returned (.agg (relC .u32 (rT p))) ∧ Below w.heap.size w w' := by
 obtain ⟨T, u, rfl⟩ := hv.forms
 obtain ⟨k0, k1, kb, kz⟩ := two_blk w (relC .u32 noR) (relC .u32 noR) 68 68
 have K0 := Lib.hid k0
 have K1 := Lib.hid k1
 have KB := Lib.hid kb
 have C := Lib.hid (flowOf_any p B _ ((w.alloc (.cells (relC .u32 noR) 68)).alloc (.cells (relC .u32 noR) 68)) (hv.below kb) hp hl)
 clear k0 k1 kb kz hv
 go_enter Tryz.func175, Tryz.ntmps175
 go_wp2_with (first
  | (refine r_alloc rfl rfl (some 2) rfl w.heap.size rfl ?_)
  | (refine r_alloc rfl rfl (some 3) rfl (w.heap.size + 1) (by simp) ?_))
 generalize (w.alloc (.cells (relC .u32 noR) 68)).alloc (.cells (relC .u32 noR) 68) = w0 at *
 refine C.out.mono ?_
 rintro e w1 ⟨rb, cap, rfl, hF, hb⟩
 have F1 := Blk.new w1 #[.slice (some ⟨rb, 0, none⟩) (flG p).length cap, .int .i64 (flS p : Nat)] 131
 have bx := (Below.refl w1.heap.size w1).alloc (Nat.le_refl _) (.cells #[.slice (some ⟨rb, 0, none⟩) (flG p).length cap, .int .i64 (flS p : Nat)] 131)
 have T0 := Lib.hid ((K0.out.kept hb).kept bx)
 have T1 := Lib.hid ((K1.out.kept hb).kept bx)
 have TF := Lib.hid F1
 have TB := Lib.hid (bmore (bmore KB.out KB.out.size hb) (bmore KB.out KB.out.size hb).size bx)
 have TO := Lib.hid (hF.kept bx)
 have hlt1 := (K1.out.kept hb).lt
 clear hF hb bx C K0 K1 KB F1
 go_wp2_with fail
 generalize w1.alloc (.cells #[.slice (some ⟨rb, 0, none⟩) (flG p).length cap, .int .i64 (flS p : Nat)] 131) = w2 at *
 have HG1 : Hid (w.heap.size + 1 < w1.heap.size) := hlt1
 clear hlt1
 generalize w1.heap.size = gf at *
 go_loopw [8] (fun ix wr => ∃ k : Nat, k ≤ 27 ∧ ix = .int .i64 k ∧ Hid (Blk wr w.heap.size (relC .u32 noR) 68) ∧ Hid (Blk wr (w.heap.size + 1) (relC .u32 (mixR k (rT p) noR)) 68) ∧ Hid (Blk wr gf #[.slice (some ⟨rb, 0, none⟩) (flG p).length cap, .int .i64 (flS p : Nat)] 131) ∧ Hid (Below w.heap.size w wr) ∧ Hid (FlowOk false wr B (.slice (some ⟨rb, 0, none⟩) (flG p).length cap) (flS p) (flG p))) (fun ix _ => 27 - (intOf ix).toNat)
 case atStart => exact ⟨0, by omega, rfl, T0, by rw [mixR_zero]; exact T1, TF, TB, TO⟩
 case round =>
  clear T0 T1 TF TB TO
  obtain ⟨k, hk, rfl, R0, R1, RF, RB, RO⟩ := hrel
  by_cases hlt : k < 27
  ·have hlt2 : (k : Int) < 27 := by omega
   have hk0 : (0 : Int) ≤ k := by omega
   have C2 := Lib.hid (outcome_p RO.out k hlt wr (Below.refl _ _))
   unfold outV at C2
   have HFd : ∀ W, (Instr.field 127 (.agg #[.int .u32 (nb 27 (rT p k) : Nat), .bool (rL p k), .bool (rK p k)]) 0).run Tryz.prog W = .ok (.int .u32 (nb 27 (rT p k) : Nat)) W := fun W => by kernel_rfl
   have j0 := RF.out.cell 0
   have j1 := RF.out.cell 1
   simp only [List.getElem?_toArray, List.getElem?_cons_zero, List.getElem?_cons_succ] at j0 j1
   go_wp2_with fail
   refine C2.out.mono ?_
   rintro e w5 ⟨rfl, hq⟩
   have S1 := R1.out.kept hq
   have c0 : w5.cell? ⟨w.heap.size + 1, k, none⟩ = some (.int .u32 (nb 27 (noR k) : Nat)) := (S1.cell k).trans (mixR_at hlt)
   have fr := S1.free k
   have z0 : w5.cell? ⟨w.heap.size + 1, 0, none⟩ = some (.int .u32 (nb 27 (mixR k (rT p) noR 0) : Nat)) := (S1.cell 0).trans (relC_get _ _ (by omega))
   have N1 : Blk (w5.setCell ⟨w.heap.size + 1, k, none⟩ (.int .u32 (nb 27 (rT p k) : Nat))) (w.heap.size + 1) (relC .u32 (mixR (k + 1) (rT p) noR)) 68 := by
    have := S1.set k (.int .u32 (nb 27 (rT p k)))
    rwa [mixR_step hlt] at this
   have HN1 := Lib.hid N1
   have HN0 := Lib.hid ((R0.out.kept hq).setOther (p := ⟨w.heap.size + 1, k, none⟩) (by show w.heap.size ≠ w.heap.size + 1; omega) (.int .u32 (nb 27 (rT p k) : Nat)))
   have HNF := Lib.hid ((RF.out.kept hq).setOther (p := ⟨w.heap.size + 1, k, none⟩) (by have := HG1.out; show gf ≠ w.heap.size + 1; omega) (.int .u32 (nb 27 (rT p k) : Nat)))
   have HNB := Lib.hid ((bmore RB.out RB.out.size hq).setCell (p := ⟨w.heap.size + 1, k, none⟩) (by show w.heap.size ≤ w.heap.size + 1; omega) (.int .u32 (nb 27 (rT p k) : Nat)))
   have HNO := Lib.hid ((RO.out.kept hq).other32 z0 k (.int .u32 (nb 27 (rT p k) : Nat)))
   clear j0 j1 hq N1 S1 z0
   go_wp2_with fail
   exact ⟨⟨k + 1, by omega, by go_num, HN0, HN1, HNF, HNB, HNO⟩, by simp [intOf]; omega⟩
  ·have hk2 : k = 27 := by omega
   subst hk2
   have R := R1.out
   rw [mixR_all] at R
   replace R1 := Lib.hid R
   clear R
   go_wp2_with (first
    | (refine wpList_load_row rfl 68 _ rfl (w.heap.size + 1) (by rfl) 68 (relC .u32 (rT p)) (0, 0) _ R1.out undR rfl (infoR _) ?_)
    | (refine wpList_store_row rfl 68 _ _ rfl w.heap.size (relC .u32 (rT p)) (by rfl) (by rfl) 68 (relC .u32 noR) R0.out (infoR _) (by rw [relC_size, relC_size]) (relC_one _ _) ?_))
   exact bodyPost_ret (v := .agg (relC .u32 (rT p))) (results_cell_row rfl _ _ w.heap.size 68 _ (0, 0) _ (by rfl) (R0.out.row _) undR rfl (infoR _)) rfl ⟨rfl, Below.setRow RB.out (Nat.le_refl _) _⟩
noncomputable def relV (p : Pg) : Value := .tuple #[.string (bs (relT (rT p))), .bool true]
set_option maxRecDepth 100000 in
set_option maxHeartbeats 4000000 in
theorem implRp_yes (s : ByteArray) (w : World) {p : Pg} (hp : p.ok false) (hs : s.data.toList = p.ser) (hl : s.size ≤ 200) :
  Calls Tryz.prog 99 #[.string s] w fun e w' => e = .returned (relV p) ∧ Below w.heap.size w w' := by
 have C := fun w => Lib.hid (prog_yes s w hp hs hl)
 have lp := all_len hs hl
 have CT := fun w => Lib.hid (rel_text (rT p) w)
 unfold relV
 clear hs
 go_enter Tryz.func99, Tryz.ntmps99
 go_wp2_with fail
 refine (C _).out.mono ?_
 rintro e w2 ⟨T, u, rfl, hst, hb⟩
 have HB := Lib.hid hb
 have C1 := Lib.hid (finals_any p _ _ w2 hst hp lp)
 clear hst hb C
 generalize relC .u32 (rT p) = A at *
 go_wp2_with fail
 refine C1.out.mono ?_
 rintro e w3 ⟨rfl, hb⟩
 have HB3 := Lib.hid (bnext HB.out hb)
 clear hb
 go_wp2_with fail
 refine (CT _).out.mono ?_
 rintro e w4 ⟨rfl, hb⟩
 have HB4 := Lib.hid (bnext HB3.out hb)
 clear hb
 go_wp2_with fail
 go_ret2
 exact ⟨rfl, HB4.out⟩
end Go.Proofs.YtgkoljphndgoeaaGreatDoor
