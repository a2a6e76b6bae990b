/-
  The pairs of a relation from which two programs end only in pairs of another one: impl.freeAmong.
-/
import Derived.Test.YtinjmdjnkneidaaGreatDoorPk6
import Derived.Test.YtinjmdjnkneidaaGreatDoorPk7
namespace Go.Proofs.YtinjmdjnkneidaaGreatDoor
open Go.RowKit Tm Go.ChangeMaps Go.Great

theorem yields_row {ops : Array Oper} {S : World → Prop} {op : Oper} {a : Act} {x : Operand} {t : TypeId} {p : Addr} {v : Value} (hw : Region.wanted op (yielded ops a.tmps) = true) (ho : op.op = .load t x) (hx : a.eval x = .pointer (some p)) (hS : ∀ w, S w → (loadVar t p).run Tryz.prog w = .ok v w) : YieldsIf Tryz.prog ops S op v a :=
  .inl ⟨hw, fun w hw' => by
    unfold execOp
    simp only [ho, hx, Instr.loadAt, Instr.sureAddr, Sem.run_bind, Sem.run_pure, Result.andThen_ok, hS w hw']⟩
theorem frR_not (p q : Pg) (P : Nat → Nat → Bool) : frR p q (fun a c => !(fun a c => !P a c) a c) = frR p q P := by
  simp only [Bool.not_not]
set_option maxRecDepth 1000000 in
set_option maxHeartbeats 8000000 in
theorem freeAmong_any (p q : Pg) (B B' : Nat) (v1 v2 : Value) (F P : Nat → Nat → Bool) (w : World) (hv1 : StV w B p v1) (hv2 : StV w B' q v2) (hp : p.ok false) (hq : q.ok false) (hl : p.all.length ≤ 1100) (hm : q.all.length ≤ 1100) :
    Calls Tryz.prog 49 #[.agg (relC .u32 F), v1, v2, .agg (relC .u32 P)] w (RelPost (fun i j => frR p q P i j && F i j) w) := by
  obtain ⟨k0, k1, k2, kb⟩ := three_new w (relC .u32 F) (relC .u32 P) (relC .u32 noR) 46 46 46
  have HW := Lib.hid (walkPairs_any p q B B' v1 v2 F _ (hv1.below kb) (hv2.below kb) hp hq hl hm)
  have K0 := Lib.hid k0
  have K1 := Lib.hid k1
  have K2 := Lib.hid k2
  have KB := Lib.hid kb
  have hz : (((w.alloc (.cells (relC .u32 F) 46)).alloc (.cells (relC .u32 P) 46)).alloc (.cells (relC .u32 noR) 46)).heap.size = w.heap.size + 3 := by simp
  clear k0 k1 k2 kb hv1 hv2
  go_enter Tryz.func49, Tryz.ntmps49
  go_wp2_with (first
    | (refine wpList_boxTo rfl 46 _ rfl (some 4) rfl w.heap.size rfl (relC .u32 F) (by rfl) ?_)
    | (refine wpList_boxTo rfl 46 _ rfl (some 7) rfl (w.heap.size + 1) (by simp) (relC .u32 P) (by rfl) ?_)
    | (refine r_alloc rfl rfl (some 8) rfl (w.heap.size + 2) (by simp) ?_)
    | (refine wpList_load_row rfl 46 _ rfl w.heap.size (by rfl) 46 (relC .u32 F) (0, 0) _ K0.out undR rfl (infoR _) ?_))
  generalize ((w.alloc (.cells (relC .u32 F) 46)).alloc (.cells (relC .u32 P) 46)).alloc (.cells (relC .u32 noR) 46) = w0 at *
  refine HW.out.mono ?_
  rintro e w2 ⟨spL, spR, bm, m, f, rfl, hbf, hgn, ⟨rb, n1, cap1, rfl⟩, ⟨rb2, n2, cap2, rfl⟩, hb, hT, hU, hG, hH⟩
  rw [hz] at hbf
  have HG := Lib.hid hgn
  have HTU : Hid (Top (flG p) ∧ Top (flG q)) := ⟨hT, hU⟩
  have bb := (Below.refl w2.heap.size w2).alloc (Nat.le_refl _) (.cells (pwC (.slice (some ⟨rb, 0, none⟩) n1 cap1) (flS p) (.slice (some ⟨rb2, 0, none⟩) n2 cap2) (flS q) bm) 64)
  have L0 := Lib.hid (((K0.out.kept hb).kept bb).drew)
  have L1 := Lib.hid (((K1.out.kept hb).kept bb).drew)
  have L2 := Lib.hid (((K2.out.kept hb).kept bb).drew)
  have L3 := Lib.hid ((Blk.new w2 (pwC (.slice (some ⟨rb, 0, none⟩) n1 cap1) (flS p) (.slice (some ⟨rb2, 0, none⟩) n2 cap2) (flS q) bm) 64).drew)
  have LF := Lib.hid ((hbf.kept bb).kept (Below.refl _ _).drew)
  have LB := Lib.hid ((bnext (bnext KB.out hb) bb).drew)
  have LZ : Hid (w.heap.size + 3 ≤ (w2.alloc (.cells (pwC (.slice (some ⟨rb, 0, none⟩) n1 cap1) (flS p) (.slice (some ⟨rb2, 0, none⟩) n2 cap2) (flS q) bm) 64)).drew.heap.size) := by
    show _ ≤ _
    rw [← hz]
    exact Nat.le_trans hb.size (by have := bb.size; exact this)
  have HA := fun w' (h1 : BefW w' (w.heap.size + 3) bm m f) (h2 : w.heap.size + 3 ≤ w'.heap.size) => Lib.hid (avoid_any hG hH (fun a c => !P a c) rb n1 cap1 rb2 n2 cap2 (flS p) (flS q) bm (w.heap.size + 3) m f w' h1 h2 hgn.wk)
  have HN := fun w => Lib.hid (rel_not P w)
  have LZ0 : Hid (w.heap.size + 3 ≤ w2.heap.size) := by
    show _ ≤ _
    rw [← hz]
    exact hb.size
  clear hbf hgn hT hU hG hH hb bb K0 K1 K2 KB HW hz
  unfold pwC at L0 L1 L2 L3 LF LB LZ ⊢
  go_wp2_with fail
  generalize w2.alloc (.cells _ 64) = wx at *
  have HNB : Hid (w2.heap.size ≠ w.heap.size + 2) := by
    show _ ≠ _
    have := LZ0.out
    omega
  generalize w2.heap.size = nb at *
  replace L3 : Hid (Blk wx.drew nb (pwC (.slice (some ⟨rb, 0, none⟩) n1 cap1) (flS p) (.slice (some ⟨rb2, 0, none⟩) n2 cap2) (flS q) bm) 64) := L3
  refine wp_region_held_drew (S := fun w' => Blk w' nb (pwC (.slice (some ⟨rb, 0, none⟩) n1 cap1) (flS p) (.slice (some ⟨rb2, 0, none⟩) n2 cap2) (flS q) bm) 64 ∧ Blk w' (w.heap.size + 1) (relC .u32 P) 46) (by kernel_rfl) ⟨L3.out, L1.out⟩ (fun hHeld => ?_)
  replace L3 := Lib.hid hHeld.1
  replace L1 := Lib.hid hHeld.2
  generalize wx.drew = wd at *
  refine wpAnyH_take (i := 0) (oi := { dst := some 14, op := _, type := _, pos := _, after := _, guard := _ }) (v := ?_) rfl (by kernel_rfl) (by kernel_rfl) (by kernel_rfl) (fun _ _ _ h => h) (Or.inl ⟨by kernel_rfl, ?_⟩) hHeld ?_
  rotate_left
  · intro w hSw
    have d0 := hSw.1.cell 0
    have d1 := hSw.1.cell 1
    have d2 := hSw.1.cell 2
    have d3 := hSw.1.cell 3
    have d4 := hSw.1.cell 4
    unfold pwC at d0 d1 d2 d3 d4
    simp only [List.getElem?_toArray, List.getElem?_cons_zero, List.getElem?_cons_succ] at d0 d1 d2 d3 d4
    go_simp
    first | done | with_reducible rfl
  simp only [Act.put]
  refine wpAnyH_take (i := 1) (v := .agg (relC .u32 P)) rfl (by kernel_rfl) (by kernel_rfl) (by kernel_rfl) (fun _ _ _ h => h) (yields_row (by rfl) rfl rfl fun w hSw => r_load hSw.2) hHeld ?_
  simp only [Act.put]
  refine wpAnyH_ready (rs := [2]) (by kernel_rfl) (by simp) ?_
  refine AllReadyH.cons rfl (fun K hK => ?_) AllReadyH.nil
  go_simp
  refine (HN wd).out.mono ?_
  rintro e w3 ⟨rfl, hb⟩
  have M0 := Lib.hid (L0.out.kept hb)
  have M1 := Lib.hid (L1.out.kept hb)
  have M2 := Lib.hid (L2.out.kept hb)
  have M3 := Lib.hid (L3.out.kept hb)
  have MF := Lib.hid (LF.out.kept hb)
  have MB := Lib.hid (bnext LB.out hb)
  have MZ := Lib.hid (Nat.le_trans LZ.out hb.size)
  clear hb L0 L1 L2 L3 LF LB LZ HN
  go_wp2_with fail
  refine hK.out _ _ ⟨M3.out, M1.out⟩ (fun hHeld => ?_)
  clear hK K
  try simp only [Act.put]
  refine wpAnyH_ready (rs := [3]) (by kernel_rfl) (by simp) ?_
  refine AllReadyH.cons rfl (fun K hK => ?_) AllReadyH.nil
  go_simp
  refine (HA w3 MF.out MZ.out).out.mono ?_
  rintro e w4 ⟨rfl, m', f', hbf, hav, hbl, hpk⟩
  have N0 : Hid (Blk w4 w.heap.size (relC .u32 F) 46) := (hbl.block w.heap.size (by omega)).trans M0.out
  have N1 : Hid (Blk w4 (w.heap.size + 1) (relC .u32 P) 46) := (hbl.block (w.heap.size + 1) (by omega)).trans M1.out
  have N2 : Hid (Blk w4 (w.heap.size + 2) (relC .u32 noR) 46) := (hbl.block (w.heap.size + 2) (by omega)).trans M2.out
  have N3 := Lib.hid (hpk _ _ M3.out)
  have NF := Lib.hid hbf
  have NB := Lib.hid (MB.out.trans (hbl.mono (by omega)))
  have HV : Hid (∀ i, i < 27 → ∀ j, j < 27 → ((f' ((flS p, i), (flS q, j))).isSome && F i j) = (frR p q P i j && F i j)) := fun i hi j hj => by
    cases hF : F i j
    · simp
    · rw [hbf.isSome]
      have := free_at HTU.out.1 HTU.out.2 HG.out hav hi hj hF
      rw [frR_not] at this
      unfold stN at this
      rw [this]
  clear hbf hav hbl hpk M0 M1 M2 M3 MF MB MZ HA HG HTU
  go_wp2_with fail
  refine hK.out _ _ ⟨N3.out, N1.out⟩ (fun hHeld => ?_)
  clear hK K
  try simp only [Act.put]
  refine wpAnyH_done (by kernel_rfl) ?_ _
  clear hHeld
  have HS := fun w' (h : MapV w' bm f') => Lib.hid (starts_any rb n1 cap1 rb2 n2 cap2 (flS p) (flS q) bm f' w' h)
  have HC := fun w => Lib.hid (rel_and (fun i j => (f' ((flS p, i), (flS q, j))).isSome) F w)
  have HR := relC_congr (k := .u32) HV.out
  have O0 := Lib.hid N0.out.drew
  have O2 := Lib.hid N2.out.drew
  have O3 := Lib.hid N3.out.drew
  have OF := Lib.hid (NF.out.kept (Below.refl _ _).drew)
  have OB := Lib.hid NB.out.drew
  clear N0 N1 N2 N3 NF NB HV
  go_wp2_with fail
  refine wp_region_held_drew (S := fun w' => Blk w' nb (pwC (.slice (some ⟨rb, 0, none⟩) n1 cap1) (flS p) (.slice (some ⟨rb2, 0, none⟩) n2 cap2) (flS q) bm) 64 ∧ Blk w' w.heap.size (relC .u32 F) 46) (by kernel_rfl) ⟨O3.out, O0.out⟩ (fun hHeld => ?_)
  generalize w4.drew = we at *
  refine wpAnyH_take (i := 0) (oi := { dst := some 18, op := _, type := _, pos := _, after := _, guard := _ }) (v := ?_) rfl (by kernel_rfl) (by kernel_rfl) (by kernel_rfl) (fun _ _ _ h => h) (Or.inl ⟨by kernel_rfl, ?_⟩) hHeld ?_
  rotate_left
  · intro w hSw
    have d0 := hSw.1.cell 0
    have d1 := hSw.1.cell 1
    have d2 := hSw.1.cell 2
    have d3 := hSw.1.cell 3
    have d4 := hSw.1.cell 4
    unfold pwC at d0 d1 d2 d3 d4
    simp only [List.getElem?_toArray, List.getElem?_cons_zero, List.getElem?_cons_succ] at d0 d1 d2 d3 d4
    go_simp
    first | done | with_reducible rfl
  simp only [Act.put]
  refine wpAnyH_take (i := 2) (v := .agg (relC .u32 F)) rfl (by kernel_rfl) (by kernel_rfl) (by kernel_rfl) (fun _ _ _ h => h) (yields_row (by rfl) rfl rfl fun w hSw => r_load hSw.2) hHeld ?_
  simp only [Act.put]
  refine wpAnyH_ready (rs := [1]) (by kernel_rfl) (by simp) ?_
  refine AllReadyH.cons rfl (fun K hK => ?_) AllReadyH.nil
  go_simp
  refine (HS we OF.out.mp).out.mono ?_
  rintro e w5 ⟨rfl, hb⟩
  have P0 := Lib.hid (O0.out.kept hb)
  have P2 := Lib.hid (O2.out.kept hb)
  have P3 := Lib.hid (O3.out.kept hb)
  have PB := Lib.hid (bnext OB.out hb)
  clear hb O0 O2 O3 OF OB HS
  go_wp2_with fail
  refine hK.out _ _ ⟨P3.out, P0.out⟩ (fun hHeld => ?_)
  clear hK K
  try simp only [Act.put]
  refine wpAnyH_ready (rs := [3]) (by kernel_rfl) (by simp) ?_
  refine AllReadyH.cons rfl (fun K hK => ?_) AllReadyH.nil
  go_simp
  refine (HC w5).out.mono ?_
  rintro e w6 ⟨rfl, hb⟩
  have Q0 := Lib.hid (P0.out.kept hb)
  have Q2 := Lib.hid (P2.out.kept hb)
  have Q3 := Lib.hid (P3.out.kept hb)
  have QB := Lib.hid (bnext PB.out hb)
  clear hb P0 P2 P3 PB HC
  go_wp2_with fail
  refine hK.out _ _ ⟨Q3.out, Q0.out⟩ (fun hHeld => ?_)
  clear hK K hHeld
  try simp only [Act.put]
  refine wpAnyH_ready (rs := [4]) (by kernel_rfl) (by simp) ?_
  refine AllReadyH.cons rfl (fun K hK => ?_) AllReadyH.nil
  refine step_store_row rfl 46 _ _ rfl (w.heap.size + 2) (relC .u32 (fun i j => frR p q P i j && F i j)) (by rfl) (by rfl) 46 (relC .u32 noR) Q2.out (infoR _) (by rw [relC_size, relC_size]) (relC_one _ _) ?_
  refine hK.out _ _ ⟨Q3.out.rowOther HNB.out _, Q0.out.rowOther (by omega) _⟩ (fun hHeld => ?_)
  clear hK K hHeld
  try simp only [Act.put]
  refine wpAnyH_done (by kernel_rfl) ?_ _
  go_wp2_with fail
  exact bodyPost_ret (v := .agg (relC .u32 (fun i j => frR p q P i j && F i j))) (results_cell_row rfl _ _ (w.heap.size + 2) 46 _ (0, 0) _ (by rfl) (Q2.out.row _) undR rfl (infoR _)) rfl ⟨rfl, Below.setRow QB.out (by omega) _⟩
end Go.Proofs.YtinjmdjnkneidaaGreatDoor
