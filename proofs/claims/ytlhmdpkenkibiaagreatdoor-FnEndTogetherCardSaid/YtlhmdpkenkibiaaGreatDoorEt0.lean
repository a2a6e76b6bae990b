import Derived.Test.YtlhmdpkenkibiaaGreatDoorTopR1
import Derived.Test.YtlhmdpkenkibiaaGreatDoorTopP2
import Derived.BigQuiet
namespace Go.Proofs.YtlhmdpkenkibiaaGreatDoor
open Go.RowKit Tm Go.Great
noncomputable def seS (p : Pg) : Nat → Bool := fun i => !rL p i && !rK p i
set_option maxRecDepth 100000 in
set_option maxHeartbeats 2000000 in
theorem asksAll (F : Nat → Bool) (lo bl : Bool) (w : World) : Calls Tryz.prog 119 #[.agg #[.int .u32 (nb 27 F), .bool lo, .bool bl]] w fun e w' => e = .returned (.bool (!lo && !bl)) ∧ Below w.heap.size w w' := by
 cases lo <;> cases bl
 all_goals
  go_enter Tryz.func119, Tryz.ntmps119
  go_wp2_with fail
  go_ret
  exact ⟨rfl, (Below.refl _ w).alloc (Nat.le_refl _) _⟩
set_option maxRecDepth 100000 in
set_option maxHeartbeats 4000000 in
theorem statesEnd {p : Pg} {w1 : World} {B : Nat} {sp : Value} (hF : FlowOk false w1 B sp (flS p) (flG p)) (w : World) (hb : Below w1.heap.size w1 w) :
  Calls Tryz.prog 182 #[.agg #[sp, .int .i64 (flS p : Nat)], .func (.func 119) #[] #[]] w fun e w' => e = .returned (.int .u32 (nb 27 (seS p))) ∧ Below w.heap.size w w' := by
 have HO := fun i hi w' (h : Below w.heap.size w w') => Lib.hid (outcome_p hF i hi w' (hb.trans (h.mono hb.size)))
 have HA := fun i w' => Lib.hid (asksAll (rT p i) (rL p i) (rK p i) w')
 have hen : ∀ (args : Array Value) (w : World), (callFunc 119 args).run Tryz.prog w = .ok (.enter 119 args) w := fun args w => by kernel_rfl
 obtain ⟨rb, cap, hsp, _⟩ := hF.fl
 subst hsp
 have K0 := Lib.hid (Blk.new w #[.slice (some ⟨rb, 0, none⟩) (flG p).length cap, .int .i64 (flS p : Nat)] 84)
 have HB := Lib.hid ((Below.refl w.heap.size w).alloc (Nat.le_refl _) (.cells #[.slice (some ⟨rb, 0, none⟩) (flG p).length cap, .int .i64 (flS p : Nat)] 84))
 clear hF hb
 go_enter Tryz.func182, Tryz.ntmps182
 go_wp2_with fail
 generalize w.alloc (.cells #[.slice (some ⟨rb, 0, none⟩) (flG p).length cap, .int .i64 (flS p : Nat)] 84) = w2 at *
 go_loopw [5, 6, 7] (fun v _ i wr => ∃ k : Nat, k ≤ 27 ∧ i = .int .i64 k ∧ v = .int .u32 (nb 27 (lowF (seS p) k)) ∧ Hid (Blk wr w.heap.size #[.slice (some ⟨rb, 0, none⟩) (flG p).length cap, .int .i64 (flS p : Nat)] 84) ∧ Hid (Below w.heap.size w wr)) (fun _ _ i _ => 27 - (intOf i).toNat)
 case atStart => exact ⟨0, by omega, rfl, by rw [lowF_zero]; rfl, K0, HB⟩
 case round =>
  clear K0 HB
  obtain ⟨k, hk, rfl, rfl, RB, RW⟩ := hrel
  by_cases hlt : k < 27
  ·have j0 := RB.out.cell 0
   have j1 := RB.out.cell 1
   simp at j0 j1
   have C := HO k hlt
   have D := HA k
   have E := fun w => Lib.hid (implWithB (lowF (seS p) k) k w hlt)
   go_wp2_with fail
   refine (C _ RW.out).out.mono ?_
   rintro e w3 ⟨rfl, h3⟩
   have RB3 := Lib.hid (RB.out.kept h3)
   have RW3 := Lib.hid (bnext RW.out h3)
   clear j0 j1 h3 RB RW
   go_wp2_with fail
   refine (D _).out.mono ?_
   rintro e w4 ⟨rfl, h4⟩
   have RB4 := Lib.hid (RB3.out.kept h4)
   have RW4 := Lib.hid (bnext RW3.out h4)
   clear h4 RB3 RW3
   cases hq : (!rL p k && !rK p k)
   ·go_wp2_with fail
    exact ⟨⟨k + 1, by omega, by go_num, by rw [lowF_nil (F := seS p) hq], RB4, RW4⟩, by simp [intOf]; omega⟩
   ·go_wp2_with fail
    refine (E _).out.mono ?_
    rintro e w' ⟨rfl, rfl⟩
    go_wp2_with fail
    exact ⟨⟨k + 1, by omega, by go_num, by rw [lowF_one (F := seS p) hq], RB4, RW4⟩, by simp [intOf]; omega⟩
  ·have hk2 : k = 27 := by omega
   subst hk2
   go_wp2_with fail
   go_ret
   exact ⟨by rw [← lowF_all]; rfl, RW.out⟩
noncomputable def etR (p q : Pg) : Nat → Nat → Bool := fun i j => if seS p i = true then seS q j else !seS q j
set_option maxRecDepth 1000000 in
set_option maxHeartbeats 8000000 in
theorem ending_any (p q : Pg) (B B' : Nat) (v1 v2 : Value) (w : World) (hv1 : StV w B p v1) (hv2 : StV w B' q v2) (hp : p.ok false) (hq : q.ok false) (hl : p.all.length ≤ 1100) (hm : q.all.length ≤ 1100) :
  Calls Tryz.prog 117 #[v1, v2] w (RelPost (etR p q) w) := by
 obtain ⟨k0, kb, kz⟩ := one_blk w (relC .u32 noR) 68
 have F1 := Lib.hid (flowOf_any p B v1 _ (hv1.below kb) hp hl)
 have F2 := fun w' (h : Below w.heap.size w w') => Lib.hid (flowOf_any q B' v2 w' (hv2.below h) hq hm)
 have K0 := Lib.hid k0
 have KB := Lib.hid kb
 clear k0 kb kz hv1 hv2
 go_enter Tryz.func117, Tryz.ntmps117
 go_wp2_with (refine r_alloc rfl rfl (some 4) rfl w.heap.size rfl ?_)
 generalize w.alloc (.cells (relC .u32 noR) 68) = w0 at *
 refine F1.out.mono ?_
 rintro e w2 ⟨rb, cap, rfl, hf1, hb1⟩
 have E1 := Lib.hid (statesEnd hf1 w2 (Below.refl _ _))
 have Q0 := Lib.hid (K0.out.kept hb1)
 have QB := Lib.hid (bnext KB.out hb1)
 clear hf1 hb1 F1 K0 KB
 go_wp2_with fail
 refine E1.out.mono ?_
 rintro e w3 ⟨rfl, hb⟩
 have R0 := Lib.hid (Q0.out.kept hb)
 have RB := Lib.hid (bnext QB.out hb)
 clear hb Q0 QB E1
 go_wp2_with fail
 refine (F2 _ RB.out).out.mono ?_
 rintro e w4 ⟨rb2, cap2, rfl, hf2, hb2⟩
 have E2 := Lib.hid (statesEnd hf2 w4 (Below.refl _ _))
 have S0 := Lib.hid (R0.out.kept hb2)
 have SB := Lib.hid (bnext RB.out hb2)
 clear hf2 hb2 F2 R0 RB
 go_wp2_with fail
 refine E2.out.mono ?_
 rintro e w5 ⟨rfl, hb⟩
 have m0 := Blk.new w5 (relC .u32 noR) 68
 have bb := (Below.refl w5.heap.size w5).alloc (Nat.le_refl _) (.cells (relC .u32 noR) 68)
 have T0 := Lib.hid ((S0.out.kept hb).kept bb)
 have TB := Lib.hid (bnext (bnext SB.out hb) bb)
 have M0 : Hid (Blk (w5.alloc (.cells (relC .u32 noR) 68)) w5.heap.size (relC .u32 (mixR 0 (etR p q) noR)) 68) := by rw [mixR_zero]; exact m0
 have HNE : Hid (w.heap.size < w5.heap.size) := (S0.out.kept hb).lt
 clear hb m0 bb S0 SB E2
 go_wp2_with (refine r_alloc rfl rfl (some 7) rfl w5.heap.size rfl ?_)
 generalize w5.alloc (.cells (relC .u32 noR) 68) = w6 at *
 generalize w5.heap.size = nb at *
 go_loopw [8, 15] (fun _ i wr => ∃ k : Nat, k ≤ 27 ∧ i = .int .i64 k ∧ Hid (Blk wr nb (relC .u32 (mixR k (etR p q) noR)) 68) ∧ Hid (Blk wr w.heap.size (relC .u32 noR) 68) ∧ Hid (Below w.heap.size w wr)) (fun _ i _ => 27 - (intOf i).toNat)
 case atStart => exact ⟨0, by omega, rfl, M0, T0, TB⟩
 case round =>
  clear M0 T0 TB
  obtain ⟨k, hk, rfl, R1, R0, RB⟩ := hrel
  by_cases hlt : k < 27
  ·have D := fun w => Lib.hid (implHasB (seS p) k w hlt)
   have NN := fun w => Lib.hid (implNot (seS q) w)
   have c1 := R1.out.free k
   have c0 := mixR_cell R1.out hlt
   have MP := mixR_put R1.out hlt
   have HE : etR p q k = if seS p k = true then seS q else (fun j => !seS q j) := by funext j; unfold etR; split <;> rfl
   cases hS : seS p k
   ·rw [hS] at D HE
    rw [HE] at MP
    replace MP := Lib.hid MP
    clear HE hS R1
    simp only [Bool.false_eq_true, if_false] at MP
    go_wp2_with fail
    refine (D _).out.mono ?_
    rintro e w' ⟨rfl, rfl⟩
    go_wp2_with fail
    refine (NN _).out.mono ?_
    rintro e w' ⟨rfl, rfl⟩
    go_wp2_with fail
    exact ⟨⟨k + 1, by omega, by go_num, MP, Lib.hid (R0.out.setOther (p := ⟨nb, k, none⟩) (by have := HNE.out; show w.heap.size ≠ nb; omega) _), Lib.hid (RB.out.setCell (p := ⟨nb, k, none⟩) (by have := HNE.out; show w.heap.size ≤ nb; omega) _)⟩, by simp [intOf]; omega⟩
   ·rw [hS] at D HE
    rw [HE] at MP
    replace MP := Lib.hid MP
    clear HE hS R1
    simp only [if_true] at MP
    go_wp2_with fail
    refine (D _).out.mono ?_
    rintro e w' ⟨rfl, rfl⟩
    go_wp2_with fail
    exact ⟨⟨k + 1, by omega, by go_num, MP, Lib.hid (R0.out.setOther (p := ⟨nb, k, none⟩) (by have := HNE.out; show w.heap.size ≠ nb; omega) _), Lib.hid (RB.out.setCell (p := ⟨nb, k, none⟩) (by have := HNE.out; show w.heap.size ≤ nb; omega) _)⟩, by simp [intOf]; omega⟩
  ·have hk2 : k = 27 := by omega
   have RR := R1.out
   rw [hk2, mixR_all] at RR
   replace RR := Lib.hid RR
   have hkl : ¬ ((k : Int) < 27) := by omega
   clear R1 hk2
   go_wp2_with (first
    | (refine wpList_load_row rfl 68 _ rfl nb (by rfl) 68 (relC .u32 (etR p q)) (0, 0) _ RR.out undR rfl (infoR _) ?_)
    | (refine wpList_store_row rfl 68 _ _ rfl w.heap.size (relC .u32 (etR p q)) (by rfl) (by rfl) 68 (relC .u32 noR) R0.out (infoR _) (by rw [relC_size, relC_size]) (relC_one _ _) ?_))
   exact bodyPost_ret (v := .agg (relC .u32 (etR p q))) (results_cell_row rfl _ _ w.heap.size 68 _ (0, 0) _ (by rfl) (R0.out.row _) undR rfl (infoR _)) rfl ⟨rfl, Below.setRow RB.out (Nat.le_refl _) _⟩
noncomputable def etB (p q : Pg) (F : Nat → Nat → Bool) : Bool := relEq (fun i j => F i j && etR p q i j) F
set_option maxRecDepth 1000000 in
set_option maxHeartbeats 8000000 in
theorem implEt_yes (r s t : ByteArray) (w : World) {p q : Pg} (hp : p.ok false) (hs : s.data.toList = p.ser) (hl : s.size ≤ 200) (hq : q.ok false) (ht : t.data.toList = q.ser) (hm : t.size ≤ 200) (hr : Rel729 r) :
  Calls Tryz.prog 44 #[.string r, .string s, .string t] w fun e w' => e = .returned (.bool (etB p q (relS r.data.toList))) ∧ Below w.heap.size w w' := by
 have C1 := fun w => Lib.hid (three_yes s t r w hp hs hl hq ht hm hr)
 have HL := all_len hs hl
 have HM := all_len ht hm
 have HF := Lib.hid (fun B B' v1 v2 w h1 h2 => ending_any p q B B' v1 v2 w h1 h2 hp hq HL HM)
 have HWI := fun w => Lib.hid (rel_within (relS r.data.toList) (etR p q) w)
 unfold BoolIs at HWI
 clear hs ht hr HL HM
 generalize relS r.data.toList = A at *
 have HPB : relEq (fun i j => A i j && etR p q i j) A = etB p q A := rfl
 rw [HPB] at HWI
 clear HPB
 generalize etB p q A = res at *
 go_enter Tryz.func44, Tryz.ntmps44
 go_wp2_with fail
 refine (C1 _).out.mono ?_
 rintro e w2 ⟨T, u, T', u', B, B', rfl, h1, h2, hb⟩
 obtain ⟨p0, pb⟩ := push_blk w2 (relC .u32 noR) (relC .u32 A) 68
 have L0 := Lib.hid (one_blk w2 (relC .u32 noR) 68).1
 have Q0 := Lib.hid p0.drew
 have T1 := Lib.hid ((h1.below pb).below (Below.refl _ _).drew)
 have T2 := Lib.hid ((h2.below pb).below (Below.refl _ _).drew)
 have QB := Lib.hid (bnext hb pb).drew
 clear p0 pb h1 h2 hb C1
 go_wp2_with (first
  | (refine r_alloc rfl rfl (some 9) rfl w2.heap.size rfl ?_)
  | (refine wpList_store_row rfl 68 _ _ rfl w2.heap.size (relC .u32 A) (by rfl) (by rfl) 68 (relC .u32 noR) L0.out (infoR _) (by rw [relC_size, relC_size]) (relC_one _ _) ?_))
 clear L0
 generalize (w2.alloc (.cells (relC .u32 noR) 68)).setRow w2.heap.size (relC .u32 A) = w5 at *
 generalize w2.heap.size = b1 at *
 refine wp_region_held_drew (S := fun w' => Blk w' b1 (relC .u32 A) 68) (by kernel_rfl) Q0.out (fun hHeld => ?_)
 generalize w5.drew = wd at *
 refine wpAnyH_take (i := 0) (oi := { dst := some 20, op := _, type := _, pos := _, after := _, guard := _ }) (v := ?_) rfl (by kernel_rfl) (by kernel_rfl) (by kernel_rfl) (fun _ _ _ h => h) (Or.inl ⟨by kernel_rfl, ?_⟩) hHeld ?_
 rotate_left
 ·intro w hSw
  go_simp
  first | done | with_reducible rfl
 simp only [Act.put]
 try simp only [List.setIfInBounds_toArray]
 refine wpAnyH_take (i := 1) (oi := { dst := some 21, op := _, type := _, pos := _, after := _, guard := _ }) (v := ?_) rfl (by kernel_rfl) (by kernel_rfl) (by kernel_rfl) (fun _ _ _ h => h) (Or.inl ⟨by kernel_rfl, ?_⟩) hHeld ?_
 rotate_left
 ·intro w hSw
  go_simp
  first | done | with_reducible rfl
 simp only [Act.put]
 try simp only [List.setIfInBounds_toArray]
 refine wpAnyH_take (i := 2) (v := .agg (relC .u32 A)) rfl (by kernel_rfl) (by kernel_rfl) (by kernel_rfl) (fun _ _ _ h => h) (yields_row (by kernel_rfl) rfl rfl fun w hSw => r_load hSw) hHeld ?_
 simp only [Act.put]
 try simp only [List.setIfInBounds_toArray]
 refine wpAnyH_take (i := 3) (oi := { dst := some 23, op := _, type := _, pos := _, after := _, guard := _ }) (v := ?_) rfl (by kernel_rfl) (by kernel_rfl) (by kernel_rfl) (fun _ _ _ h => h) (Or.inl ⟨by kernel_rfl, ?_⟩) hHeld ?_
 rotate_left
 ·intro w hSw
  go_simp
  first | done | with_reducible rfl
 simp only [Act.put]
 try simp only [List.setIfInBounds_toArray]
 refine wpAnyH_take (i := 4) (oi := { dst := some 24, op := _, type := _, pos := _, after := _, guard := _ }) (v := ?_) rfl (by kernel_rfl) (by kernel_rfl) (by kernel_rfl) (fun _ _ _ h => h) (Or.inl ⟨by kernel_rfl, ?_⟩) hHeld ?_
 rotate_left
 ·intro w hSw
  go_simp
  first | done | with_reducible rfl
 simp only [Act.put]
 try simp only [List.setIfInBounds_toArray]
 refine wpAnyH_ready (rs := [5]) (by kernel_rfl) (by simp) ?_
 refine AllReadyH.cons rfl (fun K hK => ?_) AllReadyH.nil
 go_simp
 refine (HF.out _ _ _ _ wd T1.out T2.out).mono ?_
 rintro e w6 ⟨rfl, hb⟩
 have R0 := Lib.hid (Q0.out.kept hb)
 have RB := Lib.hid (bnext QB.out hb)
 clear hb Q0 T1 T2 QB HF
 go_wp2_with fail
 refine hK.out _ _ R0.out (fun hHeld => ?_)
 clear hK K
 try simp only [Act.put]
 try simp only [List.setIfInBounds_toArray]
 refine wpAnyH_ready (rs := [6]) (by kernel_rfl) (by simp) ?_
 refine AllReadyH.cons rfl (fun K hK => ?_) AllReadyH.nil
 go_simp
 refine (HWI w6).out.mono ?_
 rintro e w7 ⟨rfl, hb⟩
 have U0 := Lib.hid (R0.out.kept hb)
 have UB := Lib.hid (bnext RB.out hb)
 clear hb R0 RB HWI
 go_wp2_with fail
 refine hK.out _ _ U0.out (fun hHeld => ?_)
 clear hK K
 try simp only [Act.put]
 try simp only [List.setIfInBounds_toArray]
 refine wpAnyH_take (i := 7) (oi := { dst := some 27, op := _, type := _, pos := _, after := _, guard := _ }) (v := ?_) rfl (by kernel_rfl) (by kernel_rfl) (by kernel_rfl) (fun _ _ _ h => h) (Or.inl ⟨by kernel_rfl, ?_⟩) hHeld ?_
 rotate_left
 ·intro w hSw
  go_simp
  first | done | with_reducible rfl
 simp only [Act.put]
 try simp only [List.setIfInBounds_toArray]
 refine wpAnyH_take (i := 8) (oi := { dst := some 6, op := .assign (.tmp 27), type := _, pos := _, after := _, guard := _ }) (v := ?_) rfl (by kernel_rfl) (by kernel_rfl) (by kernel_rfl) (fun _ _ _ h => h) (Or.inl ⟨by kernel_rfl, ?_⟩) hHeld ?_
 rotate_left
 ·intro w hSw
  go_simp
  first | done | with_reducible rfl
 simp only [Act.put]
 try simp only [List.setIfInBounds_toArray]
 refine wpAnyH_done (by kernel_rfl) ?_ _
 clear hHeld
 go_wp2_with fail
 go_ret
 exact ⟨rfl, UB.out⟩
theorem implEt_no (r s t : ByteArray) (w : World) (h : ¬ (PV s ∧ PV t ∧ Rel729 r)) :
  Calls Tryz.prog 44 #[.string r, .string s, .string t] w fun e w' => e = .returned (.bool false) ∧ Below w.heap.size w w' := by
 have C1 := fun w => Lib.hid (three_bad s t r h w)
 clear h
 go_enter Tryz.func44, Tryz.ntmps44
 go_wp2_with fail
 refine (C1 _).out.mono ?_
 rintro e w2 ⟨rfl, hb⟩
 obtain ⟨p0, pb⟩ := push_blk w2 (relC .u32 noR) (relC .u32 noR) 68
 have L0 := Lib.hid (one_blk w2 (relC .u32 noR) 68).1
 have QB := Lib.hid (bnext hb pb)
 clear p0 pb hb C1
 go_wp2_with (first
  | (refine r_alloc rfl rfl (some 9) rfl w2.heap.size rfl ?_)
  | (refine wpList_store_row rfl 68 _ _ rfl w2.heap.size (relC .u32 noR) (by rfl) (by rfl) 68 (relC .u32 noR) L0.out (infoR _) (by first | rw [relC_size, relC_size] | rw [relC_size]) (relC_one _ _) ?_))
 go_quiet (fail)
 go_wp2_with fail
 go_ret
 exact ⟨rfl, bdrewN QB.out nq⟩
end Go.Proofs.YtlhmdpkenkibiaaGreatDoor
