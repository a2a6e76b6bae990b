import Derived.Test.YtgkoljphndgoeaaGreatDoorTh0
import Derived.Deep.RegionHeld3
import Derived.StillTailTactics
namespace Go.Proofs.YtgkoljphndgoeaaGreatDoor
open Go.RowKit Tm Go.Great
set_option maxRecDepth 100000 in
set_option maxHeartbeats 4000000 in
theorem or_anyT (a b : Oc) (w : World) : Calls Tryz.prog 172 #[ocV a, ocV b] w fun e w' => e = .returned (ocV (fun j => a.1 j || b.1 j, a.2.1 || b.2.1, a.2.2 || b.2.2)) ∧ Below w.heap.size w w' := by
 have hu := orO_bits a.1 b.1
 have K : ∀ (A B : Obj) (C : Array Value), Blk (((w.alloc A).alloc B).alloc (.cells C 127)) (w.heap.size + 1 + 1) C 127 := fun A B C => by
  have h := Blk.new ((w.alloc A).alloc B) C 127
  rwa [show ((w.alloc A).alloc B).heap.size = w.heap.size + 1 + 1 by simp] at h
 unfold ocV
 simp only
 generalize nb 27 (fun j => a.1 j || b.1 j) = z0 at *
 generalize nb 27 a.1 = x0 at *
 generalize a.2.1 = x1
 generalize a.2.2 = x2
 generalize nb 27 b.1 = y0 at *
 generalize b.2.1 = y1
 generalize b.2.2 = y2
 cases x1 <;> cases x2
 all_goals
  go_enter Tryz.func172, Tryz.ntmps172
  go_wp2_with fail
  exact bodyPost_ret (v := _) (results_cell_row rfl _ _ (w.heap.size + 1 + 1) 127 _ (0, 0) _ (by rfl) (K _ _ _) Tryz.underlying127 rfl (by kernel_rfl)) rfl ⟨rfl, (((Below.refl _ _).alloc (Nat.le_refl _) _).alloc (by simp) _).alloc (by simp; omega) _⟩
theorem addr_add (g j : Nat) : (⟨g, 0, none⟩ : Addr).add j = ⟨g, j, none⟩ := by unfold Addr.add; split <;> simp_all
theorem OcR.src {w : World} {B g cap : Nat} {F : Nat → Oc} (h : OcR w B (.slice (some ⟨g, 0, none⟩) 27 cap) F) : ∀ j v, (ocs F 27)[j]? = some v → w.cell? ((⟨g, 0, none⟩ : Addr).add j) = some v := by
 obtain ⟨a, cap', e, _, hf⟩ := own_forms h
 injection e with e _ _
 subst e
 obtain ⟨g', e, _, hcell⟩ := hf (by omega)
 injection e with e
 injection e with e
 subst e
 intro j v hj
 rw [addr_add]
 exact hcell j v hj
abbrev zO : Nat → Oc := fun _ => ((fun _ => false), false, false)
set_option maxRecDepth 100000 in
set_option maxHeartbeats 8000000 in
theorem then_any (F G : Nat → Oc) (B B' : Nat) (v1 v2 : Value) (w : World) (h1 : OcR w B v1 F) (h2 : OcR w B' v2 G) :
  Calls Tryz.prog 95 #[v1, v2] w fun e w' => ∃ r, e = .returned r ∧ OcR w' w.heap.size r (thO F G) ∧ Below w.heap.size w w' := by
 obtain ⟨g1, c1, rfl, k1, f1⟩ := h1.form
 obtain ⟨g2, c2, rfl, k2, f2⟩ := h2.form
 have hmk := mkOut
 have HS := Lib.hid (OcR.src h1)
 have F1 := Lib.hid f1
 have F2 := Lib.hid f2
 have bx := (Below.refl w.heap.size w).alloc (Nat.le_refl _) (.cells (ocs zO 27).toArray 127)
 have K0 := Lib.hid (Blk.new w (ocs zO 27).toArray 127)
 have HSRC : Hid (∀ j v, (ocs F 27)[j]? = some v → (w.alloc (.cells (ocs zO 27).toArray 127)).cell? ((⟨g1, 0, none⟩ : Addr).add j) = some v) := fun j v hj => by
  have := HS.out j v hj
  rw [addr_add] at this ⊢
  exact ckeep bx this
 have e1 : ((ocs zO 27).toArray.toList.take 0 ++ (ocs F 27 ++ (ocs zO 27).toArray.toList.drop (0 + (ocs F 27).length))).toArray = (ocs F 27).toArray := by
  rw [List.drop_of_length_le (by rw [ocs_len]; simp [ocs_len])]; simp
 have K1 := Lib.hid (K0.out.row (ocs F 27).toArray)
 have B1 := Lib.hid (Below.setRow bx (g := w.heap.size) (Nat.le_refl _) (ocs F 27).toArray)
 clear h1 h2 f1 f2 bx HS
 go_enter Tryz.func95, Tryz.ntmps95
 go_wp2_with (refine wpList_copy3 rfl (.tmp 13) (.tmp 14) 97 97 rfl 127 Tryz.underlying97 infoOut3 w.heap.size 0 27 27 ⟨g1, 0, none⟩ 27 c1 (by rfl) (by rfl) (ocs zO 27).toArray 127 K0.out (ocs F 27) (by rw [ocs_len]; rfl) HSRC.out (by rw [ocs_len]; simp [ocs_len]) (ocs_one F 27) ?_; rw [e1])
 generalize (w.alloc (.cells (ocs zO 27).toArray 127)).setRow w.heap.size (ocs F 27).toArray = w2 at *
 clear K0 HSRC e1
 go_loopw [18] (fun ix wr => ∃ k : Nat, k ≤ 27 ∧ ix = .int .i64 k ∧ Hid (Blk wr w.heap.size (ocs (mixO F G k) 27).toArray 127) ∧ Hid (Below w.heap.size w wr)) (fun ix _ => 27 - (intOf ix).toNat)
 case atStart => exact ⟨0, by omega, rfl, by rw [mixO_zero]; exact K1, B1⟩
 case round =>
  clear K1 B1
  obtain ⟨k, hk, rfl, R1, R2⟩ := hrel
  by_cases hlt : k < 27
  ·have hlt2 : (k : Int) < 27 := by omega
   have hk0 : (0 : Int) ≤ k := by omega
   obtain ⟨x0, x1, x2⟩ := F1.out k hlt
   replace x0 := ckeep R2.out x0
   replace x1 := ckeep R2.out x1
   replace x2 := ckeep R2.out x2
   have hg := R1.out.lt
   have fr := R1.out.free (k * 3)
   have c0 : wr.cell? ⟨w.heap.size, k * 3, none⟩ = some (.int .u32 (nb 27 (mixO F G k k).1 : Nat)) := (R1.out.cell _).trans (by rw [List.getElem?_toArray]; exact (ocs_get _ 27 k hlt).1)
   have D1 := R1.out.set (k * 3) (.int .u32 0)
   have ez : (.int .u32 0 : Value) = .int .u32 (nb 27 (fun _ => false) : Nat) := by rw [nb_zero 27 (fun _ _ => rfl)]; rfl
   rw [ez, ocs_set1 _ _ hlt, mixO_start, ← ez] at D1
   have D2 := Lib.hid (D1.alloc (.cells #[.int .u32 (nb 27 (F k).1 : Nat), .bool (F k).2.1, .bool (F k).2.2] 127))
   have D3 := Lib.hid (Blk.new (wr.setCell ⟨w.heap.size, k * 3, none⟩ (.int .u32 0)) #[.int .u32 (nb 27 (F k).1 : Nat), .bool (F k).2.1, .bool (F k).2.2] 127)
   rw [show (wr.setCell ⟨w.heap.size, k * 3, none⟩ (.int .u32 0)).heap.size = wr.heap.size by simp [World.setCell]] at D3
   have D4 := Lib.hid ((R2.out.setCell (p := ⟨w.heap.size, k * 3, none⟩) (Nat.le_refl _) (.int .u32 0)).alloc (by have := R2.out.size; simpa [World.setCell] using this) (.cells #[.int .u32 (nb 27 (F k).1 : Nat), .bool (F k).2.1, .bool (F k).2.2] 127))
   clear D1 ez
   go_wp2_with fail
   generalize (wr.setCell ⟨w.heap.size, k * 3, none⟩ (.int .u32 0)).alloc (.cells #[.int .u32 (nb 27 (F k).1 : Nat), .bool (F k).2.1, .bool (F k).2.2] 127) = w3 at *
   have HGN : Hid (w.heap.size < wr.heap.size) := hg
   clear R1 R2 x0 x1 x2 fr c0 hg
   generalize wr.heap.size = nb0 at *
   go_loopw [29] (fun mx wr => ∃ m : Nat, m ≤ 27 ∧ mx = .int .i64 m ∧ Hid (Blk wr w.heap.size (ocs (updO (mixO F G k) k (inO F G k m)) 27).toArray 127) ∧ Hid (Blk wr nb0 #[.int .u32 (nb 27 (F k).1 : Nat), .bool (F k).2.1, .bool (F k).2.2] 127) ∧ Hid (Below w.heap.size w wr)) (fun mx _ => 27 - (intOf mx).toNat)
   case atStart => exact ⟨0, by omega, rfl, D2, D3, D4⟩
   case round =>
    clear D2 D3 D4
    obtain ⟨m, hm, rfl, Q1, Q2, Q3⟩ := hrel
    by_cases hlm : m < 27
    ·have hlm2 : (m : Int) < 27 := by omega
     have hm0 : (0 : Int) ≤ m := by omega
     obtain ⟨y0, y1, y2⟩ := F2.out m hlm
     replace y0 := ckeep Q3.out y0
     replace y1 := ckeep Q3.out y1
     replace y2 := ckeep Q3.out y2
     have b0 := Q2.out.cell 0
     simp only [List.getElem?_toArray, List.getElem?_cons_zero] at b0
     have HH := fun w => Lib.hid (implHasB (F k).1 m w hlm)
     have bx := (Below.refl wr.heap.size wr).alloc (Nat.le_refl _) (.cells #[.int .u32 (nb 27 (G m).1 : Nat), .bool (G m).2.1, .bool (G m).2.2] 127)
     have b0' := ckeep bx b0
     have N1 := Lib.hid (Q1.out.kept bx)
     have N2 := Lib.hid (Q2.out.kept bx)
     have N3 := Lib.hid (Q3.out.alloc Q3.out.size (.cells #[.int .u32 (nb 27 (G m).1 : Nat), .bool (G m).2.1, .bool (G m).2.2] 127))
     have NY := Lib.hid (Blk.new wr #[.int .u32 (nb 27 (G m).1 : Nat), .bool (G m).2.1, .bool (G m).2.2] 127)
     cases hf : (F k).1 m with
     | false =>
      rw [hf] at HH
      have HI := Lib.hid (inO_no (F := F) (G := G) hf)
      clear hf
      go_wp2_with fail
      refine (HH _).out.mono ?_
      rintro e w' ⟨rfl, rfl⟩
      go_wp2_with fail
      exact ⟨⟨m + 1, by omega, by go_num, by rw [HI.out]; exact N1, N2, N3⟩, by simp [intOf]; omega⟩
     | true =>
      rw [hf] at HH
      have HI := Lib.hid (inO_yes (F := F) (G := G) hf)
      clear hf
      go_wp2_with fail
      refine (HH _).out.mono ?_
      rintro e w' ⟨rfl, rfl⟩
      clear b0 b0' y0 y1 y2 bx
      generalize wr.alloc (.cells #[.int .u32 (nb 27 (G m).1 : Nat), .bool (G m).2.1, .bool (G m).2.2] 127) = w4 at *
      obtain ⟨z0, z1, z2⟩ := ocs_get (updO (mixO F G k) k (inO F G k m)) 27 k hlt
      rw [updO_at] at z0 z1 z2
      have c0 : w4.cell? ⟨w.heap.size, k * 3, none⟩ = some (.int .u32 (nb 27 (inO F G k m).1 : Nat)) := (N1.out.cell _).trans (by rw [List.getElem?_toArray]; exact z0)
      have c1 : w4.cell? ⟨w.heap.size, k * 3 + 1, none⟩ = some (.bool (inO F G k m).2.1) := (N1.out.cell _).trans (by rw [List.getElem?_toArray]; exact z1)
      have c2 : w4.cell? ⟨w.heap.size, k * 3 + 2, none⟩ = some (.bool (inO F G k m).2.2) := (N1.out.cell _).trans (by rw [List.getElem?_toArray]; exact z2)
      have d0 : w4.cell? ⟨wr.heap.size, 0, none⟩ = some (.int .u32 (nb 27 (G m).1 : Nat)) := NY.out.cell 0
      have d1 : w4.cell? ⟨wr.heap.size, 1, none⟩ = some (.bool (G m).2.1) := NY.out.cell 1
      have d2 : w4.cell? ⟨wr.heap.size, 2, none⟩ = some (.bool (G m).2.2) := NY.out.cell 2
      have C := fun w => Lib.hid (or_anyT (inO F G k m) (G m) w)
      rw [← HI.out] at C
      unfold ocV at C
      have hbb := (Below.refl w4.heap.size w4).drew
      have S3 := fun w5 (h : Below w4.heap.size w4 w5) => Lib.hid (N1.out.kept h)
      go_wp2_with fail
      go_region_with (go_at_call 172; (with_reducible refine (C _).out.mono ?_); rintro e w5 ⟨rfl, hq⟩; have Z := (S3 _ (bnext hbb hq)).out; have t0 := Z.free (k * 3); have t1 := Z.free (k * 3 + 1); have t2 := Z.free (k * 3 + 2); have u0 := ckeep (bnext hbb hq) c0; have u1 := ckeep (bnext hbb hq) c1; have u2 := ckeep (bnext hbb hq) c2)
      all_goals (
       have ZN := Lib.hid (N2.out.kept (bnext hbb hq))
       have ZB : Below w.heap.size w w5 := bmore N3.out N3.out.size (bnext hbb hq)
       have hne : nb0 ≠ w.heap.size := by have := HGN.out; omega
       have Z' := ((Z.set (k * 3) (.int .u32 (nb 27 (inO F G k (m + 1)).1 : Nat))).set (k * 3 + 1) (.bool (inO F G k (m + 1)).2.1)).set (k * 3 + 2) (.bool (inO F G k (m + 1)).2.2)
       rw [ocs_set3 _ _ hlt, updO_twice] at Z'
       have ZN' := ((ZN.out.setOther (p := ⟨w.heap.size, k * 3, none⟩) hne (.int .u32 (nb 27 (inO F G k (m + 1)).1 : Nat))).setOther (p := ⟨w.heap.size, k * 3 + 1, none⟩) hne (.bool (inO F G k (m + 1)).2.1)).setOther (p := ⟨w.heap.size, k * 3 + 2, none⟩) hne (.bool (inO F G k (m + 1)).2.2)
       have ZB' := ((ZB.setCell (p := ⟨w.heap.size, k * 3, none⟩) (Nat.le_refl _) (.int .u32 (nb 27 (inO F G k (m + 1)).1 : Nat))).setCell (p := ⟨w.heap.size, k * 3 + 1, none⟩) (Nat.le_refl _) (.bool (inO F G k (m + 1)).2.1)).setCell (p := ⟨w.heap.size, k * 3 + 2, none⟩) (Nat.le_refl _) (.bool (inO F G k (m + 1)).2.2)
       go_wp2_with fail
       refine ⟨⟨m + 1, by omega, by go_num, Z', ZN', ZB'⟩, ?_⟩
       simp [intOf]; omega)
    ·have hm2 : m = 27 := by omega
     subst hm2
     rw [mixO_end] at Q1
     go_wp2_with fail
     exact ⟨⟨k + 1, by omega, by go_num, Q1, Q3⟩, by simp [intOf]; omega⟩
  ·have hk2 : k = 27 := by omega
   subst hk2
   go_wp2_with fail
   go_ret
   exact ⟨_, rfl, OcR.blk (by rw [← mixO_all]; exact R1.out) (Nat.le_refl _), R2.out⟩
end Go.Proofs.YtgkoljphndgoeaaGreatDoor
