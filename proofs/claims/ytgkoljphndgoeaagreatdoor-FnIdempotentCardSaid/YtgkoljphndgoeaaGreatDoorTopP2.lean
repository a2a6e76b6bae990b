import Derived.Test.YtgkoljphndgoeaaGreatDoorTwo
import Derived.Test.YtgkoljphndgoeaaGreatDoorTopG
import Derived.Test.YtgkoljphndgoeaaGreatDoorTopK2
import Derived.Test.YtgkoljphndgoeaaGreatDoorTopR1
import Derived.Test.YtgkoljphndgoeaaGreatDoorTopQ1
import Derived.Test.YtgkoljphndgoeaaGreatDoorTopX1
namespace Go.Proofs.YtgkoljphndgoeaaGreatDoor
open Go.RowKit Tm Go.Great Go.ChangeMaps
section
variable {w w' : World} {g : Nat} {n : Int} {B : Nat}
theorem RepF.other (h0 : w.cell? ⟨g, 0, none⟩ = some (.int .u32 n)) (hc : ∀ b o v, b ≠ g → w.cell? ⟨b, o, none⟩ = some v → w'.cell? ⟨b, o, none⟩ = some v) : ∀ {f : Fo} {b o : Nat}, b ≠ g → RepF w B f b o → RepF w' B f b o := by
 intro f
 induction f with
 | nil => exact fun _ h => h
 | nd c kids rest ih1 ih2 =>
  rintro b o hb ⟨⟨x, y, h1, h2, h3, a, m, h4, hcap, h5⟩, h6⟩
  refine ⟨⟨x, y, hc _ _ _ hb h1, hc _ _ _ hb h2, h3, a, m, h4, hcap, ?_⟩, ih2 hb h6⟩
  rcases h5 with h5 | ⟨kb, h5, h7, h8⟩
  ·exact .inl h5
  ·cases kids with
   | nil => exact .inl rfl
   | nd c2 k2 r2 =>
    have hk : kb ≠ g := by
     rintro rfl
     obtain ⟨⟨x2, y2, g1, _, g3, _⟩, _⟩ := h8
     rw [h0] at g1
     injection g1 with g1
     rw [← g1] at g3
     cases g3
    exact .inr ⟨kb, h5, h7, ih1 hk h8⟩
theorem RepH.other (h0 : w.cell? ⟨g, 0, none⟩ = some (.int .u32 n)) (hc : ∀ b o v, b ≠ g → w.cell? ⟨b, o, none⟩ = some v → w'.cell? ⟨b, o, none⟩ = some v) {t : Tm} {x y : Value} (h : RepH w B t x y) : RepH w' B t x y := by
 obtain ⟨kids, e, h3, a, m, h4, hcap, h5⟩ := h
 refine ⟨kids, e, h3, a, m, h4, hcap, ?_⟩
 rcases h5 with h5 | ⟨kb, h5, h7, h8⟩
 ·exact .inl h5
 ·revert h8
  generalize hk : kids = ks
  intro h8
  cases ks with
  | nil => exact .inl rfl
  | nd c2 k2 r2 =>
   have hk : kb ≠ g := by
    rintro rfl
    obtain ⟨⟨x2, y2, g1, _, g3, _⟩, _⟩ := h8
    rw [h0] at g1
    injection g1 with g1
    rw [← g1] at g3
    cases g3
   exact .inr ⟨kb, h5, h7, RepF.other h0 hc hk h8⟩
theorem StV.other (h0 : w.cell? ⟨g, 0, none⟩ = some (.int .u32 n)) (hc : ∀ b o v, b ≠ g → w.cell? ⟨b, o, none⟩ = some v → w'.cell? ⟨b, o, none⟩ = some v) : ∀ {p : Pg} {v : Value}, StV w B p v → StV w' B p v := by
 intro p
 induction p with
 | skip => exact fun h => h
 | asg x e => rintro v ⟨a, b, h, h1⟩; exact ⟨a, b, h, h1.other h0 hc⟩
 | seq p q ihp ihq => rintro v ⟨a, b, h, h1, h2⟩; exact ⟨a, b, h, ihp h1, ihq h2⟩
 | ite t p q ihp ihq => rintro v ⟨x, y, a, b, h, h3, h1, h2⟩; exact ⟨x, y, a, b, h, h3.other h0 hc, ihp h1, ihq h2⟩
 | whl t p ihp => rintro v ⟨x, y, a, h, h3, h1⟩; exact ⟨x, y, a, h, h3.other h0 hc, ihp h1⟩
 | cho p q ihp ihq => rintro v ⟨a, b, h, h1, h2⟩; exact ⟨a, b, h, ihp h1, ihq h2⟩
 | asm t => rintro v ⟨x, y, h, h3⟩; exact ⟨x, y, h, h3.other h0 hc⟩
end
theorem setRow_far {w : World} {g b : Nat} (h : b ≠ g) (cs : Array Value) (o : Nat) : (w.setRow g cs).cell? ⟨b, o, none⟩ = w.cell? ⟨b, o, none⟩ := by
 exact World.cell?_of_block (setRow_other _ _ _ _ h)
theorem StV.rowOther {w : World} {g : Nat} {A : Nat → Nat → Bool} {B : Nat} {p : Pg} {v : Value} (h : StV w B p v) (hb : Blk w g (relC .u32 A) 68) (cs : Array Value) : StV (w.setRow g cs) B p v :=
 StV.other ((hb.cell 0).trans (relC_get _ _ (by omega))) (fun b o v hne hv => by rw [setRow_far hne]; exact hv) h
end Go.Proofs.YtgkoljphndgoeaaGreatDoor
namespace Go.Proofs.YtgkoljphndgoeaaGreatDoor
open Go.RowKit Tm Go.Great
def ThreePost (p q : Pg) (A : Nat → Nat → Bool) (w : World) (e : Ending) (w' : World) : Prop := ∃ T u T' u' B B', e = .returned (.tuple #[.iface T (.agg u), .iface T' (.agg u'), .agg (relC .u32 A), .bool true]) ∧ StV w' B p (.iface T (.agg u)) ∧ StV w' B' q (.iface T' (.agg u')) ∧ Below w.heap.size w w'
theorem every_any (w : World) : Calls Tryz.prog 154 #[] w (RelPost (fun _ _ => true) w) := by
 have HN := fun w => Lib.hid (rel_not noR w)
 have HT : (fun i j => !noR i j) = fun _ _ => true := rfl
 rw [HT] at HN
 obtain ⟨k0, kb, kz⟩ := one_blk w (relC .u32 noR) 68
 have K0 := Lib.hid k0
 have KB := Lib.hid kb
 clear k0 kb kz HT
 go_enter Tryz.func154, Tryz.ntmps154
 go_wp2_with (first
  | (refine r_alloc rfl rfl (some 0) rfl w.heap.size rfl ?_)
  | (refine wpList_buildTo rfl 68 _ rfl _ rfl (relC .u32 noR) (by kernel_rfl) ?_))
 refine (HN _).out.mono ?_
 rintro e w2 ⟨rfl, hb⟩
 have L0 := Lib.hid (K0.out.kept hb)
 have LB := Lib.hid (bnext KB.out hb)
 clear hb K0 KB HN
 go_wp2_with (refine wpList_store_row rfl 68 _ _ rfl w.heap.size (relC .u32 (fun _ _ => true)) (by rfl) (by rfl) 68 (relC .u32 noR) L0.out (infoR _) (by rw [relC_size, relC_size]) (relC_one _ _) ?_)
 exact bodyPost_ret (v := .agg (relC .u32 (fun _ _ => true))) (results_cell_row rfl _ _ w.heap.size 68 _ (0, 0) _ (by rfl) (L0.out.row _) undR rfl (infoR _)) rfl ⟨rfl, Below.setRow LB.out (Nat.le_refl _) _⟩
theorem results_ssct {P : Program} {fn : Func} {p s s2 s3 : Tmp} {ty : TypeId} (h : fn.results = #[.tmp s, .tmp s2, .cell p ty, .tmp s3]) (tmps : Array Value) (w : World) (g : Nat) (t : TypeId) (cs : Array Value) (fr : Nat × Nat) (d : TypeDesc)
  (hp : tmps.getD p undef = .pointer (some ⟨g, 0, none⟩)) (v v2 v3 : Value) (hv : tmps.getD s undef = v) (hv2 : tmps.getD s2 undef = v2) (hv3 : tmps.getD s3 undef = v3) (hg : w.heap[g]? = some (.cells cs t fr))
  (hu : P.underlying ty = some d) (hd : (match d with | .struct _ | .array _ _ => true | _ => false) = true) (hi : (P.info? ty).map (·.size) = some cs.size) :
  (results fn tmps).run P w = .ok (.tuple #[v, v2, .agg cs, v3]) w := by
 have hp' : tmps[p]?.getD undef = .pointer (some ⟨g, 0, none⟩) := by simpa using hp
 have hv' : tmps[s]?.getD undef = v := by simpa using hv
 have hv2' : tmps[s2]?.getD undef = v2 := by simpa using hv2
 have hv3' : tmps[s3]?.getD undef = v3 := by simpa using hv3
 simp [results, h, hp', hv', hv2', hv3', asAddr, run_loadVar_row w g t ty cs fr d hg hu hd hi]
set_option maxRecDepth 1000000 in
set_option maxHeartbeats 8000000 in
theorem three_yes (s t r : ByteArray) (w : World) {p q : Pg} (hp : p.ok false) (hs : s.data.toList = p.ser) (hl : s.size ≤ 200) (hq : q.ok false) (ht : t.data.toList = q.ser) (hm : t.size ≤ 200) (hr : Rel729 r) :
  Calls Tryz.prog 75 #[.string s, .string t, .string r] w (ThreePost p q (relS r.data.toList) w) := by
 have C1 := fun w => Lib.hid (two_yes s t w hp hs hl hq ht hm)
 have C2 := fun w => Lib.hid (readRel_yes r hr w)
 clear hs ht hr
 generalize relS r.data.toList = A at *
 obtain ⟨k0, kb, kz⟩ := one_blk w (relC .u32 noR) 68
 have K0 := Lib.hid k0
 have KB := Lib.hid kb
 clear k0 kb kz
 go_enter Tryz.func75, Tryz.ntmps75
 go_wp2_with (refine r_alloc rfl rfl (some 8) rfl w.heap.size rfl ?_)
 generalize w.alloc (.cells (relC .u32 noR) 68) = w0 at *
 refine (C1 _).out.mono ?_
 rintro e w2 ⟨T, u, T', u', wx, B, B', rfl, hst, hbx, hst2, hb⟩
 have S1 := Lib.hid (hst.below hbx)
 have S2 := Lib.hid hst2
 clear hst hst2 hbx C1
 have R0 := Lib.hid (K0.out.kept hb)
 have RB := Lib.hid (bnext KB.out hb)
 clear hb K0 KB
 go_wp2_with fail
 refine (C2 _).out.mono ?_
 rintro e w3 ⟨rfl, hb⟩
 have S1' := Lib.hid (S1.out.below hb)
 have S2' := Lib.hid (S2.out.below hb)
 have Q0 := Lib.hid (R0.out.kept hb)
 have QB := Lib.hid (bnext RB.out hb)
 obtain ⟨p0, pb⟩ := push_blk w3 (relC .u32 noR) (relC .u32 A) 68
 have L0 := Lib.hid (one_blk w3 (relC .u32 noR) 68).1
 have P0 := Lib.hid p0.drew
 have T1 := Lib.hid ((S1'.out.below pb).below (Below.refl _ _).drew)
 have T2 := Lib.hid ((S2'.out.below pb).below (Below.refl _ _).drew)
 have N0 := Lib.hid (Q0.out.kept pb).drew
 have NB := Lib.hid (bnext QB.out pb).drew
 have HNE : Hid (w.heap.size ≠ w3.heap.size) := by have := Q0.out.lt; exact fun e => by omega
 clear p0 pb hb S1 S2 S1' S2' R0 RB Q0 QB C2
 go_wp2_with (first
  | (refine r_alloc rfl rfl (some 13) rfl w3.heap.size rfl ?_)
  | (refine wpList_store_row rfl 68 _ _ rfl w3.heap.size (relC .u32 A) (by rfl) (by rfl) 68 (relC .u32 noR) L0.out (infoR _) (by rw [relC_size, relC_size]) (relC_one _ _) ?_))
 generalize (w3.alloc (.cells (relC .u32 noR) 68)).setRow w3.heap.size (relC .u32 A) = w4 at *
 generalize w3.heap.size = nb at *
 refine wp_region_held_drew (S := fun w' => Blk w' nb (relC .u32 A) 68) (by kernel_rfl) P0.out (fun hHeld => ?_)
 generalize w4.drew = wd at *
 refine wpAnyH_take (i := 0) (oi := { dst := some 34, op := _, type := _, pos := _, after := _, guard := _ }) (v := ?_) rfl (by kernel_rfl) (by kernel_rfl) (by kernel_rfl) (fun _ _ _ h => h) (Or.inl ⟨by kernel_rfl, ?_⟩) hHeld ?_
 rotate_left
 ·intro w hSw
  go_simp
  first | done | with_reducible rfl
 simp only [Act.put]
 try simp only [List.setIfInBounds_toArray]
 refine wpAnyH_take (i := 1) (oi := { dst := some 35, op := _, type := _, pos := _, after := _, guard := _ }) (v := ?_) rfl (by kernel_rfl) (by kernel_rfl) (by kernel_rfl) (fun _ _ _ h => h) (Or.inl ⟨by kernel_rfl, ?_⟩) hHeld ?_
 rotate_left
 ·intro w hSw
  go_simp
  first | done | with_reducible rfl
 simp only [Act.put]
 try simp only [List.setIfInBounds_toArray]
 refine wpAnyH_take (i := 2) (v := .agg (relC .u32 A)) rfl (by kernel_rfl) (by kernel_rfl) (by kernel_rfl) (fun _ _ _ h => h) (yields_row (by rfl) rfl rfl fun w hSw => r_load hSw) hHeld ?_
 simp only [Act.put]
 try simp only [List.setIfInBounds_toArray]
 refine wpAnyH_take (i := 3) (oi := { dst := some 6, op := .assign (.tmp 34), type := _, pos := _, after := _, guard := _ }) (v := ?_) rfl (by kernel_rfl) (by kernel_rfl) (by kernel_rfl) (fun _ _ _ h => h) (Or.inl ⟨by kernel_rfl, ?_⟩) hHeld ?_
 rotate_left
 ·intro w hSw
  go_simp
  first | done | with_reducible rfl
 simp only [Act.put]
 try simp only [List.setIfInBounds_toArray]
 refine wpAnyH_take (i := 4) (oi := { dst := some 7, op := .assign (.tmp 35), type := _, pos := _, after := _, guard := _ }) (v := ?_) rfl (by kernel_rfl) (by kernel_rfl) (by kernel_rfl) (fun _ _ _ h => h) (Or.inl ⟨by kernel_rfl, ?_⟩) hHeld ?_
 rotate_left
 ·intro w hSw
  go_simp
  first | done | with_reducible rfl
 simp only [Act.put]
 try simp only [List.setIfInBounds_toArray]
 refine wpAnyH_ready (rs := [5]) (by kernel_rfl) (by simp) ?_
 refine AllReadyH.cons rfl (fun K hK => ?_) AllReadyH.nil
 refine step_store_row rfl 68 _ _ rfl w.heap.size (relC .u32 A) (by rfl) (by rfl) 68 (relC .u32 noR) N0.out (infoR _) (by rw [relC_size, relC_size]) (relC_one _ _) ?_
 refine hK.out _ _ (P0.out.rowOther (fun e => HNE.out e.symm) _) (fun hHeld => ?_)
 clear hK K
 try simp only [Act.put]
 refine wpAnyH_take (i := 6) (oi := { dst := some 9, op := .assign (.const (.bool true)), type := _, pos := _, after := _, guard := _ }) (v := ?_) rfl (by kernel_rfl) (by kernel_rfl) (by kernel_rfl) (fun _ _ _ h => h) (Or.inl ⟨by kernel_rfl, ?_⟩) hHeld ?_
 rotate_left
 ·intro w hSw
  go_simp
  first | done | with_reducible rfl
 simp only [Act.put]
 try simp only [List.setIfInBounds_toArray]
 refine wpAnyH_done (by kernel_rfl) ?_ _
 go_wp2_with fail
 exact bodyPost_ret (v := .tuple #[.iface T (.agg u), .iface T' (.agg u'), .agg (relC .u32 A), .bool true]) (results_ssct rfl _ _ w.heap.size 68 _ (0, 0) _ (by rfl) _ _ _ (by rfl) (by rfl) (by rfl) (N0.out.row _) undR rfl (infoR _)) rfl ⟨T, u, T', u', B, B', rfl, T1.out.rowOther N0.out _, T2.out.rowOther N0.out _, Below.setRow NB.out (Nat.le_refl _) _⟩
def inP (F : Nat → Bool) (A : Nat → Nat → Bool) (m : Nat) : Nat → Bool := fun j => !(upto m fun c => F c && !A c j)
theorem inP_zero (F : Nat → Bool) (A : Nat → Nat → Bool) : nb 27 (inP F A 0) = 134217727 := by
 rw [nb_congr (G := fun _ => true) fun i _ => by simp [inP, upto_zero]]
 exact nb_all
theorem inP_yes {F : Nat → Bool} {A : Nat → Nat → Bool} {m : Nat} (h : F m = true) : (fun j => inP F A m j && A m j) = inP F A (m + 1) := by
 funext j
 unfold inP
 rw [upto_succ, h]
 cases upto m (fun c => F c && !A c j) <;> simp
theorem inP_no {F : Nat → Bool} {A : Nat → Nat → Bool} {m : Nat} (h : F m = false) : inP F A m = inP F A (m + 1) := by
 funext j
 unfold inP
 rw [upto_succ, h]
 simp
def b1F (T T' A : Nat → Nat → Bool) (i j : Nat) : Bool := (((nb 27 (fun c => T' j c && !inP (T i) A 27 c) : Nat) : Int) == 0)
def b2F (T : Nat → Nat → Bool) (i : Nat) : Bool := (((nb 27 (T i) : Nat) : Int) == 0)
def frS (T T' A : Nat → Nat → Bool) : Nat → Nat → Bool := fun i j => b1F T T' A i j || b2F T i
theorem nb0_iff (F : Nat → Bool) : (((nb 27 F : Nat) : Int) == 0) = true ↔ ∀ j, j < 27 → F j = false := by
 rw [beq_iff_eq]
 constructor
 ·intro h j hj
  have h2 : nb 27 F = nb 27 (fun _ => false) := by rw [nb_zero 27 (F := fun _ => false) (fun _ _ => rfl)]; omega
  exact nb_inj h2 j hj
 ·intro h
  rw [nb_zero 27 (F := F) h]
  rfl
theorem frS_eq (p q : Pg) (A : Nat → Nat → Bool) {i j : Nat} : frS (rT p) (rT q) A i j = frR p q A i j := by
 rw [Bool.eq_iff_iff, frR_iff]
 unfold frS b1F b2F
 rw [Bool.or_eq_true, nb0_iff, nb0_iff]
 constructor
 ·rintro (h | h) a ha c hc hr
  ·rw [Bool.and_eq_true] at hr
   have h1 := h c hc
   rw [hr.2, Bool.true_and] at h1
   unfold inP at h1
   rw [Bool.not_not] at h1
   cases hA : A a c with
   | true => rfl
   | false =>
    have h2 : upto 27 (fun c' => rT p i c' && !A c' c) = true := upto_iff.2 ⟨a, ha, by rw [hr.1, hA]; rfl⟩
    rw [h1] at h2
    cases h2
  ·rw [Bool.and_eq_true, h a ha] at hr
   cases hr.1
 ·intro h
  left
  intro c hc
  cases hq : rT q j c with
  | false => rfl
  | true =>
   rw [Bool.true_and]
   unfold inP
   rw [Bool.not_not]
   cases hu : upto 27 (fun c' => rT p i c' && !A c' c) with
   | false => rfl
   | true =>
    obtain ⟨a, ha, hr⟩ := upto_iff.1 hu
    rw [Bool.and_eq_true, Bool.not_eq_true'] at hr
    have := h a ha c hc (by rw [hr.1, hq]; rfl)
    rw [hr.2] at this
    cases this
def C5 (w : World) (T : Nat → Nat → Bool) (L K : Nat → Bool) (T' : Nat → Nat → Bool) (L' K' : Nat → Bool) (A R : Nat → Nat → Bool) (B : Nat) : Prop :=
 Blk w B (allC T L K) 85 ∧ Blk w (B + 1) (allC T' L' K') 85 ∧ Blk w (B + 2) (relC .i64 A) 83 ∧ Blk w (B + 3) (relC .i64 noR) 83 ∧ Blk w (B + 4) (relC .i64 R) 83
set_option maxRecDepth 1000000 in
set_option maxHeartbeats 8000000 in
theorem specFree (T : Nat → Nat → Bool) (L K : Nat → Bool) (T' : Nat → Nat → Bool) (L' K' : Nat → Bool) (A : Nat → Nat → Bool) (w : World) :
  Calls Tryz.prog 194 #[.agg (allC T L K), .agg (allC T' L' K'), .agg (relC .i64 A)] w (MPost (frS T T' A) w) := by
 obtain ⟨k0, k1, k2, kb⟩ := three_new w (allC T L K) (allC T' L' K') (relC .i64 A) 85 85 83
 have hz : (((w.alloc (.cells (allC T L K) 85)).alloc (.cells (allC T' L' K') 85)).alloc (.cells (relC .i64 A) 83)).heap.size = w.heap.size + 3 := by simp
 obtain ⟨l3, l4, lb⟩ := two_new (((w.alloc (.cells (allC T L K) 85)).alloc (.cells (allC T' L' K') 85)).alloc (.cells (relC .i64 A) 83)) (relC .i64 noR) (relC .i64 noR) 83 83
 have HZ : Hid ((((w.alloc (.cells (allC T L K) 85)).alloc (.cells (allC T' L' K') 85)).alloc (.cells (relC .i64 A) 83)).heap.size = w.heap.size + 3) := hz
 have HZ2 : Hid (((((w.alloc (.cells (allC T L K) 85)).alloc (.cells (allC T' L' K') 85)).alloc (.cells (relC .i64 A) 83)).alloc (.cells (relC .i64 noR) 83)).heap.size = w.heap.size + 4) := by show _ = _; simp
 rw [hz] at l3 l4
 have L4 := Lib.hid l4
 have K5 : Hid (C5 ((((((w.alloc (.cells (allC T L K) 85)).alloc (.cells (allC T' L' K') 85)).alloc (.cells (relC .i64 A) 83)).alloc (.cells (relC .i64 noR) 83)).alloc (.cells (relC .i64 noR) 83)).setRow (w.heap.size + 4) (relC .i64 noR)) T L K T' L' K' A (lowR (frS T T' A) 0 0) w.heap.size) :=
  ⟨(k0.kept lb).rowOther (by omega) _, (k1.kept lb).rowOther (by omega) _, (k2.kept lb).rowOther (by omega) _, l3.rowOther (by omega) _, by rw [lowR_zero]; exact l4.row _⟩
 have KB := Lib.hid (Below.setRow (bnext kb lb) (g := w.heap.size + 4) (by omega) (relC .i64 noR))
 clear k0 k1 k2 kb l3 l4 lb hz
 go_enter Tryz.func194, Tryz.ntmps194
 go_wp2_with (first
  | (refine wpList_boxTo rfl 85 _ rfl (some 3) rfl w.heap.size rfl (allC T L K) (by rfl) ?_)
  | (refine wpList_boxTo rfl 85 _ rfl (some 4) rfl (w.heap.size + 1) (by simp) (allC T' L' K') (by rfl) ?_)
  | (refine wpList_boxTo rfl 83 _ rfl (some 5) rfl (w.heap.size + 2) (by simp) (relC .i64 A) (by rfl) ?_)
  | (refine m_alloc rfl rfl (some 6) rfl (w.heap.size + 3) HZ.out ?_)
  | (refine m_alloc rfl rfl (some 7) rfl (w.heap.size + 4) HZ2.out ?_)
  | (refine wpList_buildTo rfl 83 _ rfl _ rfl (relC .i64 noR) (by kernel_rfl) ?_)
  | (refine wpList_store_row rfl 83 _ _ rfl (w.heap.size + 4) (relC .i64 noR) (by rfl) (by rfl) 83 (relC .i64 noR) L4.out (infoM _) (by first | rw [relC_size, relC_size] | rw [relC_size]) (relC_one _ _) ?_))
 clear L4 HZ HZ2
 generalize World.setRow _ (w.heap.size + 4) (relC .i64 noR) = w0 at *
 go_loopw [8, 9, 10, 11] (fun i _ _ _ wr => ∃ k : Nat, k ≤ 27 ∧ i = .int .i64 k ∧ Hid (C5 wr T L K T' L' K' A (lowR (frS T T' A) k 0) w.heap.size) ∧ Hid (Below w.heap.size w wr)) (fun i _ _ _ _ => 27 - (intOf i).toNat)
 case atStart => exact ⟨0, by omega, rfl, K5, KB⟩
 case round =>
  clear K5 KB
  obtain ⟨k, hk, rfl, R5, RB⟩ := hrel
  by_cases hlt : k < 27
  ·go_wp2_with fail
   simp only [show decide ((k : Int) < 27) = true from decide_eq_true (by omega)]
   obtain ⟨wo, rfl⟩ : ∃ wo : World, wo = wr := ⟨_, rfl⟩
   go_loopw [9, 10] (fun o c wr => ∃ m : Nat, m ≤ 27 ∧ c = .int .i64 m ∧ o = .int .i64 (nb 27 (inP (T k) A m)) ∧ Hid (C5 wr T L K T' L' K' A (lowR (frS T T' A) k 0) w.heap.size) ∧ Hid (Below w.heap.size w wr)) (fun _ c _ => 27 - (intOf c).toNat)
   case atStart => exact ⟨0, by omega, rfl, by rw [inP_zero]; rfl, R5, RB⟩
   case round =>
    clear R5 RB
    obtain ⟨m, hm, rfl, rfl, R5, RB⟩ := hrel
    by_cases hlm : m < 27
    ·as_aux_lemma =>
     have C := fun w => Lib.hid (specInS (T k) m hlm w)
     have a0 := (R5.out.1.cell k).trans (allC_get _ _ _ hlt)
     cases hF : T k m <;> rw [hF] at C
     ·have HI := Lib.hid (inP_no (A := A) hF)
      clear hF
      go_wp2_with fail
      refine (C _).out.mono ?_
      rintro e w2 ⟨rfl, rfl⟩
      go_wp2_with fail
      exact ⟨⟨m + 1, by omega, by go_num, by rw [HI.out], R5, RB⟩, by simp [intOf]; omega⟩
     ·have a1 := mrel_cell R5.out.2.2.1 hlm
      have HI := Lib.hid (inP_yes (A := A) hF)
      have HA := Lib.hid (s_and (inP (T k) A m) (A m))
      clear hF
      go_wp2_with fail
      refine (C _).out.mono ?_
      rintro e w2 ⟨rfl, rfl⟩
      go_wp2_with fail
      exact ⟨⟨m + 1, by omega, by go_num, by rw [HA.out, HI.out], R5, RB⟩, by simp [intOf]; omega⟩
    ·have hm2 : m = 27 := by omega
     have hml : ¬ ((m : Int) < 27) := by omega
     have hin : inP (T k) A m = inP (T k) A 27 := by rw [hm2]
     rw [hin]
     clear hin hm2 hlm hm
     go_wp2_with fail
     generalize hIN : inP (T k) A 27 = IN at *
     replace hIN := Lib.hid hIN
     obtain ⟨wo, rfl⟩ : ∃ wo : World, wo = wr := ⟨_, rfl⟩
     go_loopw [11] (fun c wr => ∃ j : Nat, j ≤ 27 ∧ c = .int .i64 j ∧ Hid (C5 wr T L K T' L' K' A (lowR (frS T T' A) k j) w.heap.size) ∧ Hid (Below w.heap.size w wr)) (fun c _ => 27 - (intOf c).toNat)
     case atStart => exact ⟨0, by omega, rfl, R5, RB⟩
     case round =>
      clear R5 RB
      obtain ⟨j, hj, rfl, R5, RB⟩ := hrel
      by_cases hlj : j < 27
      ·as_aux_lemma =>
       have a0 := (R5.out.1.cell k).trans (allC_get _ _ _ hlt)
       have a1 := (R5.out.2.1.cell j).trans (allC_get _ _ _ hlj)
       have HAN := s_andNot (T' j) IN
       have hb1 : (((nb 27 (fun c => T' j c && !IN c) : Nat) : Int) == 0) = b1F T T' A k j := by unfold b1F; rw [hIN.out]
       have hb2 : (((nb 27 (T k) : Nat) : Int) == 0) = b2F T k := rfl
       have HFR : Hid (frS T T' A k j = (b1F T T' A k j || b2F T k)) := rfl
       generalize b1F T T' A k j = b1 at *
       generalize b2F T k = b2 at *
       have c0 := (R5.out.2.2.2.2.cell k).trans (lowR_at hlt)
       have c1 := R5.out.2.2.2.2.free k
       have HO := Lib.hid (s_bit hlj (lowR (frS T T' A) k j k))
       have RS := R5.out.2.2.2.2.set k (.int .i64 (nb 27 (fun c => lowR (frS T T' A) k j k c || c == j)))
       rw [relC_set hlt] at RS
       replace RS := Lib.hid RS
       have NO : Hid (∀ v : Value, C5 (wr.setCell ⟨w.heap.size + 4, k, none⟩ v) T L K T' L' K' A (lowR (frS T T' A) k (j + 1)) w.heap.size ↔ Blk (wr.setCell ⟨w.heap.size + 4, k, none⟩ v) (w.heap.size + 4) (relC .i64 (lowR (frS T T' A) k (j + 1))) 83) := fun v =>
        ⟨fun h => h.2.2.2.2, fun h => ⟨R5.out.1.setOther (by show w.heap.size ≠ w.heap.size + 4; omega) _, R5.out.2.1.setOther (by show w.heap.size + 1 ≠ w.heap.size + 4; omega) _, R5.out.2.2.1.setOther (by show w.heap.size + 2 ≠ w.heap.size + 4; omega) _, R5.out.2.2.2.1.setOther (by show w.heap.size + 3 ≠ w.heap.size + 4; omega) _, h⟩⟩
       cases b1 with
       | false =>
        cases b2 with
        | false =>
         have HL := Lib.hid (lowR_no (T := frS T T' A) (k := k) (m := j) HFR.out)
         have N5 : Hid (C5 wr T L K T' L' K' A (lowR (frS T T' A) k (j + 1)) w.heap.size) := ⟨R5.out.1, R5.out.2.1, R5.out.2.2.1, R5.out.2.2.2.1, by rw [← HL.out]; exact R5.out.2.2.2.2⟩
         clear HFR RS NO R5
         go_wp2_with fail
         exact ⟨⟨j + 1, by omega, by go_num, N5, RB⟩, by simp [intOf]; omega⟩
        | true =>
         have HL := lowR_yes (T := frS T T' A) (k := k) (m := j) HFR.out
         rw [HL] at RS
         have N5 := Lib.hid ((NO.out _).2 RS.out)
         clear HFR RS NO R5 HL
         go_wp2_with fail
         rw [HO.out]
         exact ⟨⟨j + 1, by omega, by go_num, N5, Lib.hid (RB.out.setCell (p := ⟨w.heap.size + 4, k, none⟩) (by show w.heap.size ≤ w.heap.size + 4; omega) _)⟩, by simp [intOf]; omega⟩
       | true =>
        have HL := lowR_yes (T := frS T T' A) (k := k) (m := j) (by rw [HFR.out]; rfl)
        rw [HL] at RS
        have N5 := Lib.hid ((NO.out _).2 RS.out)
        clear HFR RS NO R5 HL
        go_wp2_with fail
        rw [HO.out]
        exact ⟨⟨j + 1, by omega, by go_num, N5, Lib.hid (RB.out.setCell (p := ⟨w.heap.size + 4, k, none⟩) (by show w.heap.size ≤ w.heap.size + 4; omega) _)⟩, by simp [intOf]; omega⟩
      ·have hj2 : j = 27 := by omega
       have N5 : Hid (C5 wr T L K T' L' K' A (lowR (frS T T' A) (k + 1) 0) w.heap.size) := ⟨R5.out.1, R5.out.2.1, R5.out.2.2.1, R5.out.2.2.2.1, by rw [← lowR_row, ← hj2]; exact R5.out.2.2.2.2⟩
       have hjl : ¬ ((j : Int) < 27) := by omega
       clear R5 hj2
       go_wp2_with fail
       exact ⟨⟨k + 1, by omega, by go_num, N5, RB⟩, by simp [intOf]; omega⟩
  ·have hk2 : k = 27 := by omega
   have RP := R5.out.2.2.2.2
   rw [hk2, lowR_all] at RP
   replace RP := Lib.hid RP
   have R3 := Lib.hid R5.out.2.2.2.1
   have hkl : ¬ ((k : Int) < 27) := by omega
   clear R5 hk2
   go_wp2_with (first
    | (refine wpList_load_row rfl 83 _ rfl (w.heap.size + 4) (by rfl) 83 (relC .i64 (frS T T' A)) (0, 0) _ RP.out undM rfl (infoM _) ?_)
    | (refine wpList_store_row rfl 83 _ _ rfl (w.heap.size + 3) (relC .i64 (frS T T' A)) (by rfl) (by rfl) 83 (relC .i64 noR) R3.out (infoM _) (by first | rw [relC_size, relC_size] | rw [relC_size]) (relC_one _ _) ?_))
   exact bodyPost_ret (v := .agg (relC .i64 (frS T T' A))) (results_cell_row rfl _ _ (w.heap.size + 3) 83 _ (0, 0) _ (by rfl) (R3.out.row _) undM rfl (infoM _)) rfl ⟨rfl, Below.setRow RB.out (by omega) _⟩
theorem rel729_bs (T : Nat → Nat → Bool) : Rel729 (bs (relT T)) := by
 unfold Rel729
 rw [show (bs (relT T)).data.toList = relT T by simp [bs], relT_eq]
 exact bits_tbn 729 _
theorem PV.t {s : ByteArray} (h : PV s) (w : World) : Calls Tryz.prog 97 #[.string s] w fun e w' => e = .returned (.bool true) ∧ Below w.heap.size w w' := by
 obtain ⟨b, hb, hc⟩ := specPVb s w
 rw [hb.2 h] at hc; exact hc
theorem PV.f {s : ByteArray} (h : ¬ PV s) (w : World) : Calls Tryz.prog 97 #[.string s] w fun e w' => e = .returned (.bool false) ∧ Below w.heap.size w w' := by
 obtain ⟨b, hb, hc⟩ := specPVb s w
 cases b with
 | false => exact hc
 | true => exact absurd (hb.1 rfl) h
theorem all_len {p : Pg} {s : ByteArray} (hs : s.data.toList = p.ser) (hl : s.size ≤ 200) : p.all.length ≤ 1100 := by
 have h1 : p.all.length ≤ p.ser.length := p.all_le
 have h2 := congrArg List.length hs
 simp at h2
 omega
set_option maxRecDepth 1000000 in
set_option maxHeartbeats 8000000 in
theorem three_no (s t r : ByteArray) (a b : Bool) (A : Nat → Nat → Bool) (c1 : ∀ w, Calls Tryz.prog 144 #[.string s, .string t] w fun e w' => ∃ v1 v2, e = .returned (.tuple #[v1, v2, .bool a]) ∧ Below w.heap.size w w')
  (c2 : ∀ w, Calls Tryz.prog 76 #[.string r] w (ReadPost A b w)) (h : (a && b) = false) (w : World) :
  Calls Tryz.prog 75 #[.string s, .string t, .string r] w fun e w' => e = .returned (.tuple #[.nilIface, .nilIface, .agg (relC .u32 noR), .bool false]) ∧ Below w.heap.size w w' := by
 have C1 := Lib.hid c1
 have C2 := Lib.hid c2
 clear c1 c2
 obtain ⟨k0, kb, kz⟩ := one_blk w (relC .u32 noR) 68
 have K0 := Lib.hid k0
 have KB := Lib.hid kb
 clear k0 kb kz
 go_enter Tryz.func75, Tryz.ntmps75
 go_wp2_with (refine r_alloc rfl rfl (some 8) rfl w.heap.size rfl ?_)
 generalize w.alloc (.cells (relC .u32 noR) 68) = w0 at *
 refine (C1.out _).mono ?_
 rintro e w2 ⟨v1, v2, rfl, hb⟩
 have R0 := Lib.hid (K0.out.kept hb)
 have RB := Lib.hid (bnext KB.out hb)
 clear hb K0 KB
 go_wp2_with fail
 refine (C2.out _).mono ?_
 rintro e w3 ⟨rfl, hb⟩
 have Q0 := Lib.hid (R0.out.kept hb)
 have QB := Lib.hid (bnext RB.out hb)
 obtain ⟨p0, pb⟩ := push_blk w3 (relC .u32 noR) (relC .u32 A) 68
 have L0 := Lib.hid (one_blk w3 (relC .u32 noR) 68).1
 have N0 := Lib.hid (Q0.out.kept pb)
 have NB := Lib.hid (bnext QB.out pb)
 clear p0 pb hb R0 RB Q0 QB C1 C2
 cases a
 ·go_wp2_with (first
   | (refine r_alloc rfl rfl (some 13) rfl w3.heap.size rfl ?_)
   | (refine wpList_store_row rfl 68 _ _ rfl w3.heap.size (relC .u32 A) (by rfl) (by rfl) 68 (relC .u32 noR) L0.out (infoR _) (by rw [relC_size, relC_size]) (relC_one _ _) ?_)
   | (refine wpList_buildTo rfl 68 _ rfl _ rfl (relC .u32 noR) (by kernel_rfl) ?_)
   | (refine wpList_store_row rfl 68 _ _ rfl w.heap.size (relC .u32 noR) (by rfl) (by rfl) 68 (relC .u32 noR) N0.out (infoR _) (by first | rw [relC_size, relC_size] | rw [relC_size]) (relC_one _ _) ?_))
  exact bodyPost_ret (v := .tuple #[.nilIface, .nilIface, .agg (relC .u32 noR), .bool false]) (results_ssct rfl _ _ w.heap.size 68 _ (0, 0) _ (by rfl) _ _ _ (by rfl) (by rfl) (by rfl) (N0.out.row _) undR rfl (infoR _)) rfl ⟨rfl, Below.setRow NB.out (Nat.le_refl _) _⟩
 ·obtain rfl : b = false := by simpa using h
  go_wp2_with (first
   | (refine r_alloc rfl rfl (some 13) rfl w3.heap.size rfl ?_)
   | (refine wpList_store_row rfl 68 _ _ rfl w3.heap.size (relC .u32 A) (by rfl) (by rfl) 68 (relC .u32 noR) L0.out (infoR _) (by rw [relC_size, relC_size]) (relC_one _ _) ?_)
   | (refine wpList_buildTo rfl 68 _ rfl _ rfl (relC .u32 noR) (by kernel_rfl) ?_)
   | (refine wpList_store_row rfl 68 _ _ rfl w.heap.size (relC .u32 noR) (by rfl) (by rfl) 68 (relC .u32 noR) N0.out (infoR _) (by first | rw [relC_size, relC_size] | rw [relC_size]) (relC_one _ _) ?_))
  exact bodyPost_ret (v := .tuple #[.nilIface, .nilIface, .agg (relC .u32 noR), .bool false]) (results_ssct rfl _ _ w.heap.size 68 _ (0, 0) _ (by rfl) _ _ _ (by rfl) (by rfl) (by rfl) (N0.out.row _) undR rfl (infoR _)) rfl ⟨rfl, Below.setRow NB.out (Nat.le_refl _) _⟩
theorem two_no (s t : ByteArray) (w : World) (h : ¬ (PV s ∧ PV t)) : Calls Tryz.prog 144 #[.string s, .string t] w fun e w' => ∃ v1 v2, e = .returned (.tuple #[v1, v2, .bool false]) ∧ Below w.heap.size w w' := by
 by_cases hs : PV s
 ·exact (two_noB s t w hs.1 hs.2 (fun k => h ⟨hs, k⟩)).mono fun e w' hh => ⟨_, _, hh.1, hh.2⟩
 ·exact (two_noA s t w hs).mono fun e w' hh => ⟨_, _, hh.1, hh.2⟩
theorem three_bad (s t r : ByteArray) (h : ¬ (PV s ∧ PV t ∧ Rel729 r)) (w : World) :
  Calls Tryz.prog 75 #[.string s, .string t, .string r] w fun e w' => e = .returned (.tuple #[.nilIface, .nilIface, .agg (relC .u32 noR), .bool false]) ∧ Below w.heap.size w w' := by
 by_cases h1 : PV s ∧ PV t
 ·obtain ⟨⟨⟨p, hp, hs⟩, hl⟩, ⟨q, hq, ht⟩, hm⟩ := id h1
  have hr : ¬ Rel729 r := fun k => h ⟨h1.1, h1.2, k⟩
  exact three_no s t r true false noR (fun w => (two_yes s t w hp hs hl hq ht hm).mono fun e w' ⟨T, u, T', u', _, _, _, he, _, _, _, hb⟩ => ⟨_, _, he, hb⟩) (fun w => readRel_no r hr w) rfl w
 ·have c1 : ∀ w, Calls Tryz.prog 144 #[.string s, .string t] w fun e w' => ∃ v1 v2, e = .returned (.tuple #[v1, v2, .bool false]) ∧ Below w.heap.size w w' := fun w => two_no s t w h1
  by_cases hr : Rel729 r
  ·exact three_no s t r false true _ c1 (fun w => readRel_yes r hr w) rfl w
  ·exact three_no s t r false false _ c1 (fun w => readRel_no r hr w) rfl w
noncomputable def pfOut (p q : Pg) (A : Nat → Nat → Bool) : Value := .tuple #[.string (bs (relT (frR p q A))), .bool true]
def pfNo : Value := .tuple #[.string ⟨#[]⟩, .bool false]
theorem ready_of (s t r : ByteArray) (b1 b2 b3 : Bool) (c1 : ∀ w, Calls Tryz.prog 97 #[.string s] w fun e w' => e = .returned (.bool b1) ∧ Below w.heap.size w w') (c2 : ∀ w, Calls Tryz.prog 97 #[.string t] w fun e w' => e = .returned (.bool b2) ∧ Below w.heap.size w w')
  (c3 : ∀ w, Calls Tryz.prog 155 #[.string r] w fun e w' => e = .returned (.bool b3) ∧ Below w.heap.size w w') (w : World) :
  Calls Tryz.prog 83 #[.string s, .string t, .string r] w fun e w' => e = .returned (.bool (b1 && b2 && b3)) ∧ Below w.heap.size w w' := by
 have C1 := Lib.hid c1
 have C2 := Lib.hid c2
 have C3 := Lib.hid c3
 clear c1 c2 c3
 cases b1
 ·go_enter Tryz.func83, Tryz.ntmps83
  go_wp2_with fail
  refine (C1.out _).mono ?_
  rintro e w1 ⟨rfl, hb⟩
  have HB := Lib.hid hb
  clear hb
  go_wp2_with fail
  go_ret
  exact ⟨rfl, HB.out⟩
 ·cases b2
  ·go_enter Tryz.func83, Tryz.ntmps83
   go_wp2_with fail
   refine (C1.out _).mono ?_
   rintro e w1 ⟨rfl, hb⟩
   have HB := Lib.hid hb
   clear hb
   go_wp2_with fail
   refine (C2.out _).mono ?_
   rintro e w2 ⟨rfl, hb⟩
   have HB2 := Lib.hid (bnext HB.out hb)
   clear hb
   go_wp2_with fail
   go_ret
   exact ⟨rfl, HB2.out⟩
  ·go_enter Tryz.func83, Tryz.ntmps83
   go_wp2_with fail
   refine (C1.out _).mono ?_
   rintro e w1 ⟨rfl, hb⟩
   have HB := Lib.hid hb
   clear hb
   go_wp2_with fail
   refine (C2.out _).mono ?_
   rintro e w2 ⟨rfl, hb⟩
   have HB2 := Lib.hid (bnext HB.out hb)
   clear hb
   go_wp2_with fail
   refine (C3.out _).mono ?_
   rintro e w3 ⟨rfl, hb⟩
   have HB3 := Lib.hid (bnext HB2.out hb)
   clear hb
   go_wp2_with fail
   go_ret
   exact ⟨rfl, HB3.out⟩
theorem ready_any (s t r : ByteArray) (hm : r.size ≤ maxLen) : ∃ b : Bool, (b = true ↔ PV s ∧ PV t ∧ Rel729 r) ∧ ∀ w, Calls Tryz.prog 83 #[.string s, .string t, .string r] w fun e w' => e = .returned (.bool b) ∧ Below w.heap.size w w' := by
 have h1 : ∃ b1 : Bool, (b1 = true ↔ PV s) ∧ ∀ w, Calls Tryz.prog 97 #[.string s] w fun e w' => e = .returned (.bool b1) ∧ Below w.heap.size w w' := by
  by_cases h : PV s
  ·exact ⟨true, by simp [h], fun w => h.t w⟩
  ·exact ⟨false, by simp [h], fun w => PV.f h w⟩
 have h2 : ∃ b2 : Bool, (b2 = true ↔ PV t) ∧ ∀ w, Calls Tryz.prog 97 #[.string t] w fun e w' => e = .returned (.bool b2) ∧ Below w.heap.size w w' := by
  by_cases h : PV t
  ·exact ⟨true, by simp [h], fun w => h.t w⟩
  ·exact ⟨false, by simp [h], fun w => PV.f h w⟩
 have h3 : ∃ b3 : Bool, (b3 = true ↔ Rel729 r) ∧ ∀ w, Calls Tryz.prog 155 #[.string r] w fun e w' => e = .returned (.bool b3) ∧ Below w.heap.size w w' := by
  by_cases h : Rel729 r
  ·exact ⟨true, by simp [h], fun w => BoolIs.of (specRelV_yes r h w)⟩
  ·exact ⟨false, by simp [h], fun w => BoolIs.of (specRelV_no r h hm w)⟩
 obtain ⟨b1, e1, c1⟩ := h1
 obtain ⟨b2, e2, c2⟩ := h2
 obtain ⟨b3, e3, c3⟩ := h3
 refine ⟨b1 && b2 && b3, ?_, fun w => ready_of s t r b1 b2 b3 c1 c2 c3 w⟩
 rw [Bool.and_eq_true, Bool.and_eq_true, e1, e2, e3, and_assoc]
theorem specRl (r : ByteArray) (hr : Rel729 r) (w : World) : Calls Tryz.prog 85 #[.string r] w (MPost (relS r.data.toList) w) := by
 have C := fun w => Lib.hid (specRead r hr w)
 clear hr
 generalize relS r.data.toList = A at *
 obtain ⟨k0, kb, kz⟩ := one_blk w (relC .i64 noR) 83
 have K0 := Lib.hid k0
 have KB := Lib.hid kb
 clear k0 kb kz
 go_enter Tryz.func85, Tryz.ntmps85
 go_wp2_with (refine m_alloc rfl rfl (some 2) rfl w.heap.size rfl ?_)
 generalize w.alloc (.cells (relC .i64 noR) 83) = w0 at *
 refine (C _).out.mono ?_
 rintro e w2 ⟨rfl, hb⟩
 have L0 := Lib.hid (K0.out.kept hb)
 have LB := Lib.hid (bnext KB.out hb)
 clear hb K0 KB
 go_wp2_with (refine wpList_store_row rfl 83 _ _ rfl w.heap.size (relC .i64 A) (by rfl) (by rfl) 83 (relC .i64 noR) L0.out (infoM _) (by rw [relC_size, relC_size]) (relC_one _ _) ?_)
 exact bodyPost_ret (v := .agg (relC .i64 A)) (results_cell_row rfl _ _ w.heap.size 83 _ (0, 0) _ (by rfl) (L0.out.row _) undM rfl (infoM _)) rfl ⟨rfl, Below.setRow LB.out (Nat.le_refl _) _⟩
set_option maxRecDepth 1000000 in
set_option maxHeartbeats 8000000 in
theorem specPf_yes (p q : Pg) (r : ByteArray) (w : World) (hp : p.ok false) (hl : p.ser.length ≤ 200) (hq : q.ok false) (hm : q.ser.length ≤ 200) (hr : Rel729 r) (c : ∀ w, Calls Tryz.prog 83 #[.string (bs p.ser), .string (bs q.ser), .string r] w fun e w' => e = .returned (.bool true) ∧ Below w.heap.size w w') :
  Calls Tryz.prog 139 #[.string (bs p.ser), .string (bs q.ser), .string r] w fun e w' => e = .returned (pfOut p q (relS r.data.toList)) ∧ Below w.heap.size w w' := by
 have C := Lib.hid c
 have R1 := fun w => Lib.hid (run_any p hp hl w)
 have R2 := fun w => Lib.hid (run_any q hq hm w)
 have R3 := fun w => Lib.hid (specRl r hr w)
 have R4 := fun w => Lib.hid (specFree (rT p) (rL p) (rK p) (rT q) (rL q) (rK q) (relS r.data.toList) w)
 have HFR : relC .i64 (frS (rT p) (rT q) (relS r.data.toList)) = relC .i64 (frR p q (relS r.data.toList)) := relC_congr fun i _ j _ => frS_eq p q _
 unfold MPost at R4
 rw [HFR] at R4
 have R5 := fun w => Lib.hid (specRText (frR p q (relS r.data.toList)) w)
 unfold AllPost at R1 R2
 unfold pfOut
 clear hr c HFR
 generalize relS r.data.toList = A at *
 generalize bs (relT (frR p q A)) = txt at *
 generalize relC .i64 (frR p q A) = RR at *
 unfold MPost at R3
 generalize relC .i64 A = RA at *
 generalize allC (rT p) (rL p) (rK p) = C1 at *
 generalize allC (rT q) (rL q) (rK q) = C2 at *
 generalize bs p.ser = s at *
 generalize bs q.ser = t at *
 go_enter Tryz.func139, Tryz.ntmps139
 go_wp2_with fail
 refine (C.out _).mono ?_
 rintro e w1 ⟨rfl, hb⟩
 have HB1 := Lib.hid hb
 clear hb
 go_wp2_with fail
 refine (R1 _).out.mono ?_
 rintro e w2 ⟨rfl, hb⟩
 have HB2 := Lib.hid (bnext HB1.out hb)
 clear hb
 go_wp2_with fail
 refine (R2 _).out.mono ?_
 rintro e w3 ⟨rfl, hb⟩
 have HB3 := Lib.hid (bnext HB2.out hb)
 clear hb
 go_wp2_with fail
 refine (R3 _).out.mono ?_
 rintro e w4 ⟨rfl, hb⟩
 have HB4 := Lib.hid (bnext HB3.out hb)
 clear hb
 go_wp2_with fail
 refine (R4 _).out.mono ?_
 rintro e w5 ⟨rfl, hb⟩
 have HB5 := Lib.hid (bnext HB4.out hb)
 clear hb
 go_wp2_with fail
 refine (R5 _).out.mono ?_
 rintro e w6 ⟨rfl, hb⟩
 have HB6 := Lib.hid (bnext HB5.out hb)
 clear hb
 go_wp2_with fail
 go_ret2
 exact ⟨rfl, HB6.out⟩
theorem specPf_no (s t r : ByteArray) (w : World) (c : ∀ w, Calls Tryz.prog 83 #[.string s, .string t, .string r] w fun e w' => e = .returned (.bool false) ∧ Below w.heap.size w w') :
  Calls Tryz.prog 139 #[.string s, .string t, .string r] w fun e w' => e = .returned pfNo ∧ Below w.heap.size w w' := by
 have C := Lib.hid c
 unfold pfNo
 clear c
 go_enter Tryz.func139, Tryz.ntmps139
 go_wp2_with fail
 refine (C.out _).mono ?_
 rintro e w1 ⟨rfl, hb⟩
 have HB1 := Lib.hid hb
 clear hb
 go_wp2_with fail
 go_ret2
 exact ⟨rfl, HB1.out⟩
end Go.Proofs.YtgkoljphndgoeaaGreatDoor
