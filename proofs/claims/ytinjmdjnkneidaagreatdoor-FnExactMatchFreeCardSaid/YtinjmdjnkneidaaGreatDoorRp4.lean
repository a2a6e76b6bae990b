/-
  Two programs and a relation read: impl.readProgramsAndRel; everyPair.
-/
import Derived.Test.YtinjmdjnkneidaaGreatDoorPk8
import Derived.Test.YtinjmdjnkneidaaGreatDoorTwo
import Derived.Test.YtinjmdjnkneidaaGreatDoorOth
import Derived.Test.YtinjmdjnkneidaaGreatDoorTopR1
namespace Go.Proofs.YtinjmdjnkneidaaGreatDoor
open Go.RowKit Tm Go.Great

def ThreePost (p q : Pg) (A : Nat → Nat → Bool) (w : World) (e : Ending) (w' : World) : Prop := ∃ T u T' u' B B', e = .returned (.tuple #[.iface T (.agg u), .iface T' (.agg u'), .agg (relC .u32 A), .bool true]) ∧ StV w' B p (.iface T (.agg u)) ∧ StV w' B' q (.iface T' (.agg u')) ∧ Below w.heap.size w w'
theorem every_any (w : World) : Calls Tryz.prog 50 #[] w (RelPost (fun _ _ => true) w) := by
  have HN := fun w => Lib.hid (rel_not noR w)
  have HT : (fun i j => !noR i j) = fun _ _ => true := rfl
  rw [HT] at HN
  obtain ⟨k0, kb, kz⟩ := one_blk w (relC .u32 noR) 46
  have K0 := Lib.hid k0
  have KB := Lib.hid kb
  clear k0 kb kz HT
  go_enter Tryz.func50, Tryz.ntmps50
  go_wp2_with (first
    | (refine r_alloc rfl rfl (some 0) rfl w.heap.size rfl ?_)
    | (refine wpList_buildTo rfl 46 _ rfl _ rfl (relC .u32 noR) (by kernel_rfl) ?_))
  refine (HN _).out.mono ?_
  rintro e w2 ⟨rfl, hb⟩
  have L0 := Lib.hid (K0.out.kept hb)
  have LB := Lib.hid (bnext KB.out hb)
  clear hb K0 KB HN
  go_wp2_with (refine wpList_store_row rfl 46 _ _ rfl w.heap.size (relC .u32 (fun _ _ => true)) (by rfl) (by rfl) 46 (relC .u32 noR) L0.out (infoR _) (by rw [relC_size, relC_size]) (relC_one _ _) ?_)
  exact bodyPost_ret (v := .agg (relC .u32 (fun _ _ => true))) (results_cell_row rfl _ _ w.heap.size 46 _ (0, 0) _ (by rfl) (L0.out.row _) undR rfl (infoR _)) rfl ⟨rfl, Below.setRow LB.out (Nat.le_refl _) _⟩
theorem results_ssct {P : Program} {fn : Func} {p s s2 s3 : Tmp} {ty : TypeId} (h : fn.results = #[.tmp s, .tmp s2, .cell p ty, .tmp s3]) (tmps : Array Value) (w : World) (g : Nat) (t : TypeId) (cs : Array Value) (fr : Nat × Nat) (d : TypeDesc)
    (hp : tmps.getD p undef = .pointer (some ⟨g, 0, none⟩)) (v v2 v3 : Value) (hv : tmps.getD s undef = v) (hv2 : tmps.getD s2 undef = v2) (hv3 : tmps.getD s3 undef = v3) (hg : w.heap[g]? = some (.cells cs t fr))
    (hu : P.underlying ty = some d) (hd : (match d with | .struct _ | .array _ _ => true | _ => false) = true) (hi : (P.info? ty).map (·.size) = some cs.size) :
    (results fn tmps).run P w = .ok (.tuple #[v, v2, .agg cs, v3]) w := by
  have hp' : tmps[p]?.getD undef = .pointer (some ⟨g, 0, none⟩) := by simpa using hp
  have hv' : tmps[s]?.getD undef = v := by simpa using hv
  have hv2' : tmps[s2]?.getD undef = v2 := by simpa using hv2
  have hv3' : tmps[s3]?.getD undef = v3 := by simpa using hv3
  simp [results, h, hp', hv', hv2', hv3', asAddr, run_loadVar_row w g t ty cs fr d hg hu hd hi]
set_option maxRecDepth 1000000 in
set_option maxHeartbeats 8000000 in
theorem three_yes (s t r : ByteArray) (w : World) {p q : Pg} (hp : p.ok false) (hs : s.data.toList = p.ser) (hl : s.size ≤ 200) (hq : q.ok false) (ht : t.data.toList = q.ser) (hm : t.size ≤ 200) (hr : Rel729 r) :
    Calls Tryz.prog 43 #[.string s, .string t, .string r] w (ThreePost p q (relS r.data.toList) w) := by
  have C1 := fun w => Lib.hid (two_yes s t w hp hs hl hq ht hm)
  have C2 := fun w => Lib.hid (readRel_yes r hr w)
  clear hs ht hr
  generalize relS r.data.toList = A at *
  obtain ⟨k0, kb, kz⟩ := one_blk w (relC .u32 noR) 46
  have K0 := Lib.hid k0
  have KB := Lib.hid kb
  clear k0 kb kz
  go_enter Tryz.func43, Tryz.ntmps43
  go_wp2_with (refine r_alloc rfl rfl (some 8) rfl w.heap.size rfl ?_)
  generalize w.alloc (.cells (relC .u32 noR) 46) = w0 at *
  refine (C1 _).out.mono ?_
  rintro e w2 ⟨T, u, T', u', wx, B, B', rfl, hst, hbx, hst2, hb⟩
  have S1 := Lib.hid (hst.below hbx)
  have S2 := Lib.hid hst2
  clear hst hst2 hbx C1
  have R0 := Lib.hid (K0.out.kept hb)
  have RB := Lib.hid (bnext KB.out hb)
  clear hb K0 KB
  go_wp2_with fail
  refine (C2 _).out.mono ?_
  rintro e w3 ⟨rfl, hb⟩
  have S1' := Lib.hid (S1.out.below hb)
  have S2' := Lib.hid (S2.out.below hb)
  have Q0 := Lib.hid (R0.out.kept hb)
  have QB := Lib.hid (bnext RB.out hb)
  obtain ⟨p0, pb⟩ := push_blk w3 (relC .u32 noR) (relC .u32 A) 46
  have L0 := Lib.hid (one_blk w3 (relC .u32 noR) 46).1
  have P0 := Lib.hid p0.drew
  have T1 := Lib.hid ((S1'.out.below pb).below (Below.refl _ _).drew)
  have T2 := Lib.hid ((S2'.out.below pb).below (Below.refl _ _).drew)
  have N0 := Lib.hid (Q0.out.kept pb).drew
  have NB := Lib.hid (bnext QB.out pb).drew
  have HNE : Hid (w.heap.size ≠ w3.heap.size) := by have := Q0.out.lt; exact fun e => by omega
  clear p0 pb hb S1 S2 S1' S2' R0 RB Q0 QB C2
  go_wp2_with (first
    | (refine r_alloc rfl rfl (some 13) rfl w3.heap.size rfl ?_)
    | (refine wpList_store_row rfl 46 _ _ rfl w3.heap.size (relC .u32 A) (by rfl) (by rfl) 46 (relC .u32 noR) L0.out (infoR _) (by rw [relC_size, relC_size]) (relC_one _ _) ?_))
  generalize (w3.alloc (.cells (relC .u32 noR) 46)).setRow w3.heap.size (relC .u32 A) = w4 at *
  generalize w3.heap.size = nb at *
  refine wp_region_held_drew (S := fun w' => Blk w' nb (relC .u32 A) 46) (by kernel_rfl) P0.out (fun hHeld => ?_)
  generalize w4.drew = wd at *
  refine wpAnyH_take (i := 0) (oi := { dst := some 34, op := _, type := _, pos := _, after := _, guard := _ }) (v := ?_) rfl (by kernel_rfl) (by kernel_rfl) (by kernel_rfl) (fun _ _ _ h => h) (Or.inl ⟨by kernel_rfl, ?_⟩) hHeld ?_
  rotate_left
  · intro w hSw
    go_simp
    first | done | with_reducible rfl
  simp only [Act.put]
  try simp only [List.setIfInBounds_toArray]
  refine wpAnyH_take (i := 1) (oi := { dst := some 35, op := _, type := _, pos := _, after := _, guard := _ }) (v := ?_) rfl (by kernel_rfl) (by kernel_rfl) (by kernel_rfl) (fun _ _ _ h => h) (Or.inl ⟨by kernel_rfl, ?_⟩) hHeld ?_
  rotate_left
  · intro w hSw
    go_simp
    first | done | with_reducible rfl
  simp only [Act.put]
  try simp only [List.setIfInBounds_toArray]
  refine wpAnyH_take (i := 2) (v := .agg (relC .u32 A)) rfl (by kernel_rfl) (by kernel_rfl) (by kernel_rfl) (fun _ _ _ h => h) (yields_row (by rfl) rfl rfl fun w hSw => r_load hSw) hHeld ?_
  simp only [Act.put]
  try simp only [List.setIfInBounds_toArray]
  refine wpAnyH_take (i := 3) (oi := { dst := some 6, op := .assign (.tmp 34), type := _, pos := _, after := _, guard := _ }) (v := ?_) rfl (by kernel_rfl) (by kernel_rfl) (by kernel_rfl) (fun _ _ _ h => h) (Or.inl ⟨by kernel_rfl, ?_⟩) hHeld ?_
  rotate_left
  · intro w hSw
    go_simp
    first | done | with_reducible rfl
  simp only [Act.put]
  try simp only [List.setIfInBounds_toArray]
  refine wpAnyH_take (i := 4) (oi := { dst := some 7, op := .assign (.tmp 35), type := _, pos := _, after := _, guard := _ }) (v := ?_) rfl (by kernel_rfl) (by kernel_rfl) (by kernel_rfl) (fun _ _ _ h => h) (Or.inl ⟨by kernel_rfl, ?_⟩) hHeld ?_
  rotate_left
  · intro w hSw
    go_simp
    first | done | with_reducible rfl
  simp only [Act.put]
  try simp only [List.setIfInBounds_toArray]
  refine wpAnyH_ready (rs := [5]) (by kernel_rfl) (by simp) ?_
  refine AllReadyH.cons rfl (fun K hK => ?_) AllReadyH.nil
  refine step_store_row rfl 46 _ _ rfl w.heap.size (relC .u32 A) (by rfl) (by rfl) 46 (relC .u32 noR) N0.out (infoR _) (by rw [relC_size, relC_size]) (relC_one _ _) ?_
  refine hK.out _ _ (P0.out.rowOther (fun e => HNE.out e.symm) _) (fun hHeld => ?_)
  clear hK K
  try simp only [Act.put]
  refine wpAnyH_take (i := 6) (oi := { dst := some 9, op := .assign (.const (.bool true)), type := _, pos := _, after := _, guard := _ }) (v := ?_) rfl (by kernel_rfl) (by kernel_rfl) (by kernel_rfl) (fun _ _ _ h => h) (Or.inl ⟨by kernel_rfl, ?_⟩) hHeld ?_
  rotate_left
  · intro w hSw
    go_simp
    first | done | with_reducible rfl
  simp only [Act.put]
  try simp only [List.setIfInBounds_toArray]
  refine wpAnyH_done (by kernel_rfl) ?_ _
  go_wp2_with fail
  exact bodyPost_ret (v := .tuple #[.iface T (.agg u), .iface T' (.agg u'), .agg (relC .u32 A), .bool true]) (results_ssct rfl _ _ w.heap.size 46 _ (0, 0) _ (by rfl) _ _ _ (by rfl) (by rfl) (by rfl) (N0.out.row _) undR rfl (infoR _)) rfl ⟨T, u, T', u', B, B', rfl, T1.out.rowOther N0.out _, T2.out.rowOther N0.out _, Below.setRow NB.out (Nat.le_refl _) _⟩
end Go.Proofs.YtinjmdjnkneidaaGreatDoor
