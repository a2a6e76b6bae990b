import Derived.Test.YtgkoljphndgoeaaGreatDoorTopK1
import Derived.Test.YtgkoljphndgoeaaGreatDoorTopF1
import Derived.ScopeJumps
import Derived.WalkMore
import Derived.ChangeAlike
import Derived.StillTailTactics
import Derived.BigQuiet
import Derived.Deep.RegionHeld
namespace Go.Proofs.YtgkoljphndgoeaaGreatDoor
open Go.RowKit Tm Go.ChangeMaps
def PfPost (G H : List Stp) (T : Nd → Prop) (BB bm : Nat) (m0 : Mq) (fr : Nd) (w0 : World) (e : Ending) (w' : World) : Prop :=
 e = .returned (.tuple #[]) ∧ ∃ m f, BefW w' BB bm m f ∧ Below BB w0 w' ∧ Wlk mdl G H 27 T m [] none [] ∧ (m fr ≠ none ∧ ∀ n, m0 n ≠ none → m n ≠ none) ∧ ∀ b cs, Blk w0 b cs 171 → Blk w' b cs 171
theorem mem_sum {l : List Nat} {n : Nat} (h : n ∈ l) : n ≤ l.sum := by
 induction l with
 | nil => cases h
 | cons a l ih =>
  rw [List.sum_cons]
  rcases List.mem_cons.1 h with rfl | h
  ·omega
  ·have := ih h; omega
theorem Wlk.bound {G H : List Stp} {T : Nd → Prop} {m : Mq} {O : List Nd} {q : Option Nd} {Q : List Nd} (h : Wlk mdl G H 27 T m O q Q) (hG : G.length ≤ 1200) (hH : H.length ≤ 1200) (n : Nd) : ((m n).getD []).length ≤ 2100000000 ∧ O.length ≤ 2100000000 := by
 have h1 := h.sz
 have h4 : G.length * 27 * (H.length * 27) ≤ (1200 * 27) * (1200 * 27) := Nat.mul_le_mul (Nat.mul_le_mul_right _ hG) (Nat.mul_le_mul_right _ hH)
 have h5 : ((m n).getD []).length ≤ sumq (uni2 G.length H.length 27) m := by
  by_cases hn : m n = none
  ·rw [hn]; simp
  ·have hu := h.un n hn
   unfold sumq
   have : rlen m n ∈ (uni2 G.length H.length 27).map (rlen m) := List.mem_map.2 ⟨n, hu, rfl⟩
   exact mem_sum this
 omega
theorem unkq_note {U : List Nd} {m : Mq} {z : Nd} {l : List Nd} (h : m z ≠ none) : unkq U (updq m z l) = unkq U m := by
 cases hm : m z with
 | none => exact absurd hm h
 | some l0 => exact unkq_old hm
theorem keys_note {m0 m : Mq} {fr z : Nd} {l : List Nd} (h : m fr ≠ none ∧ ∀ n, m0 n ≠ none → m n ≠ none) : updq m z l fr ≠ none ∧ ∀ n, m0 n ≠ none → updq m z l n ≠ none := by
 have k : ∀ n, m n ≠ none → updq m z l n ≠ none := fun n hn => by
  by_cases e : z = n
  ·subst e; rw [updq_same]; simp
  ·rw [updq_ne e]; exact hn
 exact ⟨k _ h.1, fun n hn => k n (h.2 n hn)⟩
section
variable {w1 : World} {spL spR : Value} {sl sr : Nat} {G H : List Stp}
set_option maxRecDepth 1000000 in
set_option maxHeartbeats 8000000 in
theorem pf_known (T : Nd → Prop) (spL spR : Value) (sl sr : Nat) (w0 : World) (BB bm : Nat) (m0 : Mq) (f0 : Mv) (fr : Nd) (hB : BefW w0 BB bm m0 f0) (hBB : BB ≤ w0.heap.size) (hW : Wlk mdl G H 27 T m0 [] none []) (hm : m0 fr ≠ none) :
  Calls Tryz.prog 201 #[.agg (pwC spL sl spR sr bm), ndV fr] w0 (PfPost G H T BB bm m0 fr w0) := by
 obtain ⟨k0, k1, kb⟩ := two_new w0 (pwC spL sl spR sr bm) #[.int .i64 fr.1.1, .int .i64 fr.1.2, .int .i64 fr.2.1, .int .i64 fr.2.2] 171 223
 have hs : (f0 fr).isSome = true := by rw [hB.isSome, Option.isSome_iff_ne_none]; exact hm
 have K := fun w (h : Below w0.heap.size w0 w) => Lib.hid (keeps_pt spL spR sl sr bm fr w (hB.mp.kept h))
 simp only [hs] at K
 have HB := Lib.hid hB
 have HW := Lib.hid hW
 have HM := Lib.hid hm
 unfold pwC at k0 k1 kb K ⊢
 unfold ndV at K ⊢
 have c0 := k0.cell 0; have c1 := k0.cell 1; have c2 := k0.cell 2; have c3 := k0.cell 3; have c4 := k0.cell 4
 have p0 := k1.cell 0; have p1 := k1.cell 1; have p2 := k1.cell 2; have p3 := k1.cell 3
 simp at c0 c1 c2 c3 c4 p0 p1 p2 p3
 have KB := Lib.hid kb
 clear k0 k1 kb hB hW hm hs
 go_enter Tryz.func201, Tryz.ntmps201
 go_wp2_with fail
 generalize (w0.alloc (.cells _ 171)).alloc (.cells _ 223) = wa at *
 go_wp2_with fail
 refine (K _ KB.out).out.mono ?_
 rintro e w2 ⟨rfl, hb⟩
 have HB2 := Lib.hid (bnext KB.out hb)
 clear hb K KB
 go_wp2_with fail
 go_end0
 exact ⟨rfl, m0, f0, HB.out.kept HB2.out, HB2.out.mono hBB, HW.out, ⟨HM.out, fun n h => h⟩, fun b cs h => h.kept HB2.out⟩
set_option maxRecDepth 1000000 in
set_option maxHeartbeats 8000000 in
theorem pf_new (hF : Flown mdl 27 w1 spL sl G) (hH : Flown mdl 27 w1 spR sr H) (T : Nd → Prop) (w0 : World) (BB bm : Nat) (m0 : Mq) (f0 : Mv) (fr : Nd) (hT : T fr) (hu : fr ∈ uni2 G.length H.length 27) (hB : BefW w0 BB bm m0 f0) (hBB : BB ≤ w0.heap.size) (hb1 : Below w1.heap.size w1 w0) (hb2 : w1.heap.size ≤ BB) (hW : Wlk mdl G H 27 T m0 [] none []) (hm : m0 fr = none) :
  Calls Tryz.prog 201 #[.agg (pwC spL sl spR sr bm), ndV fr] w0 (PfPost G H T BB bm m0 fr w0) := by
 obtain ⟨rb, capf, rfl⟩ := hF.sl
 obtain ⟨rb2, capf2, rfl⟩ := hH.sl
 obtain ⟨i0, hi0, hz0, hz1, hz2⟩ := info_parts infoPP
 obtain ⟨k0, k1, kb⟩ := two_new w0 (pwC (.slice (some ⟨rb, 0, none⟩) G.length capf) sl (.slice (some ⟨rb2, 0, none⟩) H.length capf2) sr bm) #[.int .i64 fr.1.1, .int .i64 fr.1.2, .int .i64 fr.2.1, .int .i64 fr.2.2] 171 223
 have hs : (f0 fr).isSome = false := by rw [hB.isSome, hm]; rfl
 have K := fun w (h : Below w0.heap.size w0 w) => Lib.hid (keeps_pt (.slice (some ⟨rb, 0, none⟩) G.length capf) (.slice (some ⟨rb2, 0, none⟩) H.length capf2) sl sr bm fr w (hB.mp.kept h))
 simp only [hs] at K
 have HF := Lib.hid hF
 have HH := Lib.hid hH
 have HB := Lib.hid hB
 have HW := Lib.hid (hW.begin hm hT hu)
 have HM : Hid (updq m0 fr [] fr ≠ none ∧ ∀ n, m0 n ≠ none → updq m0 fr [] n ≠ none) := by
  refine ⟨by rw [updq_same]; simp, fun n h => ?_⟩
  by_cases e : fr = n
  ·subst e; rw [updq_same]; simp
  ·rw [updq_ne e]; exact h
 have HB1 := Lib.hid hb1
 obtain ⟨o, ho, hmv⟩ := storeV_run hB.mp fr (.slice none 0 0)
 have HO := Lib.hid ho
 have HMV := Lib.hid hmv
 unfold pwC at k0 k1 kb K ⊢
 unfold ndV at K HO ⊢
 have c0 := k0.cell 0; have c1 := k0.cell 1; have c2 := k0.cell 2; have c3 := k0.cell 3; have c4 := k0.cell 4
 have p0 := k1.cell 0; have p1 := k1.cell 1; have p2 := k1.cell 2; have p3 := k1.cell 3
 simp at c0 c1 c2 c3 c4 p0 p1 p2 p3
 have K0 := Lib.hid k0
 have K1 := Lib.hid k1
 have KB := Lib.hid kb
 clear k0 k1 kb hB hW hs hF hH hb1 ho hmv
 go_enter Tryz.func201, Tryz.ntmps201
 go_wp2_with fail
 generalize (w0.alloc (.cells _ 171)).alloc (.cells _ 223) = wa at *
 go_wp2_with fail
 refine (K _ KB.out).out.mono ?_
 rintro e w2 ⟨rfl, hb⟩
 replace KB := Lib.hid (bnext KB.out hb)
 replace K0 := Lib.hid (K0.out.kept hb)
 replace K1 := Lib.hid (K1.out.kept hb)
 have c4 := K0.out.cell 4
 have p0 := K1.out.cell 0; have p1 := K1.out.cell 1; have p2 := K1.out.cell 2; have p3 := K1.out.cell 3
 simp only [List.getElem?_toArray, List.getElem?_cons_zero, List.getElem?_cons_succ] at c4 p0 p1 p2 p3
 have hs1 := HO.out w2 (KB.out.block bm HB.out.mp.lt)
 have B2 := Lib.hid ((HB.out.kept KB.out).fresh fr (HMV.out w2 (by have := (HB.out.kept KB.out).mp.lt; exact this)))
 have hnm : ∀ {b : Nat} {cs : Array Value} {t : TypeId}, Blk w2 b cs t → b ≠ bm := fun {b cs t} hb e => by
  subst e
  obtain ⟨es, c, hobj⟩ := (HB.out.kept KB.out).mp.obj
  unfold Blk at hb
  rw [hobj] at hb
  cases hb
 have E0 := Lib.hid (Blk.setB' K0.out (hnm K0.out) o)
 have E1 := Lib.hid (Blk.setB' K1.out (hnm K1.out) o)
 have EB := Lib.hid (below_setB (KB.out.mono hBB) HB.out.lm o)
 have r0 : (setBlock w2 bm o).cell? _ = _ := E1.out.cell 0
 have r1 : (setBlock w2 bm o).cell? _ = _ := E1.out.cell 1
 have r2 : (setBlock w2 bm o).cell? _ = _ := E1.out.cell 2
 have r3 : (setBlock w2 bm o).cell? _ = _ := E1.out.cell 3
 simp only [List.getElem?_toArray, List.getElem?_cons_zero, List.getElem?_cons_succ] at r0 r1 r2 r3
 have PK0 : Hid (∀ b cs, Blk w0 b cs 171 → Blk (setBlock w2 bm o) b cs 171) := fun b cs h => Blk.setB' (h.kept KB.out) (hnm (h.kept KB.out)) o
 clear hb K hnm HO HMV c0 c1 c2 c3 K0 K1 KB E1
 generalize setBlock w2 bm o = we at *
 have hsz := EB.out.size
 have hlt1 := E0.out.lt
 have BX := Lib.hid ((Below.refl we.heap.size we).alloc (Nat.le_refl _) (.cells #[.int .i64 fr.1.1, .int .i64 fr.1.2, .int .i64 fr.2.1, .int .i64 fr.2.2] 223))
 have T1 : Hid (NStk (we.alloc (.cells #[.int .i64 fr.1.1, .int .i64 fr.1.2, .int .i64 fr.2.1, .int .i64 fr.2.2] 223)) BB (.slice (some ⟨we.heap.size, 0, none⟩) 1 1) [fr]) :=
  World.ownsRow_lit we #[.int .i64 fr.1.1, .int .i64 fr.1.2, .int .i64 fr.2.1, .int .i64 fr.2.2] 1 (Nat.le_trans hBB hsz) (by unfold maxLen; omega) rfl
 have T2 := Lib.hid (B2.out.kept BX.out)
 have T3 := Lib.hid (EB.out.trans (BX.out.mono (Nat.le_trans hBB hsz)))
 have T4 := Lib.hid (E0.out.kept BX.out)
 have T5 : Hid (Apart (fun q => if fr = q then some (.slice none 0 0) else f0 q) (Value.slice (some ⟨we.heap.size, 0, none⟩) 1 1).ownBlock) := B2.out.apart_new (Nat.le_refl _)
 have T6 : Hid (∀ b cs, Blk w0 b cs 171 → Blk (we.alloc (.cells #[.int .i64 fr.1.1, .int .i64 fr.1.2, .int .i64 fr.2.1, .int .i64 fr.2.2] 223)) b cs 171) := fun b cs h => (PK0.out b cs h).kept BX.out
 clear hsz E0 EB B2 BX hlt1 PK0
 go_wp2_with fail
 clear r0 r1 r2 r3 hs1
 generalize we.alloc (.cells #[.int .i64 fr.1.1, .int .i64 fr.1.2, .int .i64 fr.2.1, .int .i64 fr.2.2] 223) = wf at *
 generalize (fun q => if fr = q then some (.slice none 0 0) else f0 q) = f1 at *
 generalize updq m0 fr [] = m1 at *
 generalize we.heap.size = g0 at *
 clear hm
 go_loopw [4, 8, 9] (fun ov _ _ wr => ∃ O m f, Hid (NStk wr BB ov O) ∧ Hid (BefW wr BB bm m f) ∧ Hid (Wlk mdl G H 27 T m O none []) ∧ Hid (Below BB w0 wr) ∧ Hid (Apart f ov.ownBlock) ∧ Hid (Blk wr w0.heap.size (pwC (.slice (some ⟨rb, 0, none⟩) G.length capf) sl (.slice (some ⟨rb2, 0, none⟩) H.length capf2) sr bm) 171) ∧ Hid (m fr ≠ none ∧ ∀ n, m0 n ≠ none → m n ≠ none) ∧ Hid (∀ b cs, Blk w0 b cs 171 → Blk wr b cs 171)) (fun ov _ _ wr => unkV (uni2 G.length H.length 27) (mvIn wr bm) + lenOf ov)
 case atStart => exact ⟨[fr], m1, f1, T1, T2, HW, T3, T5, T4, HM, T6⟩
 case round =>
  clear T1 T2 HW T3 T5 T4 HM T6
  obtain ⟨O, m, f, R1, R2, R3, R4, R5, R6, R7, R8⟩ := hrel
  cases O with
  | nil =>
   as_aux_lemma =>
   obtain ⟨a, cap, rfl, hcap, _⟩ := own_forms R1.out
   simp only [List.reverse_nil, List.length_nil] at *
   go_wp2_with fail
   go_end0
   exact ⟨rfl, m, f, R2.out, R4.out, R3.out, R7.out, R8.out⟩
  | cons y s =>
   obtain ⟨g, cap, rfl, hcap, hg, hgl, q0, q1, q2, q3, htop⟩ := R1.out.top
   have HT := Lib.hid htop
   have HGL := Lib.hid hgl
   have hbd := (R3.out.bound HF.out.sm HH.out.sm y).2
   simp only [List.length_cons] at hbd
   have hmx : s.length + 1 ≤ 9223372036854775807 := by omega
   clear hbd
   have hyu := mem_uni2.1 (R3.out.un y (R3.out.op y (List.mem_cons_self ..)))
   have hzz : (wr.alloc (.cells #[.int .i64 y.1.1, .int .i64 y.1.2, .int .i64 y.2.1, .int .i64 y.2.2] 223)).heap.size = wr.heap.size + 1 := by simp
   have BX := Lib.hid ((Below.refl wr.heap.size wr).alloc (Nat.le_refl _) (.cells #[.int .i64 y.1.1, .int .i64 y.1.2, .int .i64 y.2.1, .int .i64 y.2.2] 223))
   have D0 := R6.out.cell 0; have D1 := R6.out.cell 1; have D2 := R6.out.cell 2; have D3 := R6.out.cell 3; have D4 := R6.out.cell 4
   unfold pwC at D0 D1 D2 D3 D4
   simp only [List.getElem?_toArray, List.getElem?_cons_zero, List.getElem?_cons_succ] at D0 D1 D2 D3 D4
   have dlt := R6.out.lt
   have C := Lib.hid (pfol_any HF.out HH.out bm y hyu (wr.alloc (.cells #[.int .i64 y.1.1, .int .i64 y.1.2, .int .i64 y.2.1, .int .i64 y.2.2] 223)) (HB1.out.trans ((R4.out.trans (BX.out.mono (Nat.le_trans hBB R4.out.size))).mono hb2)))
   unfold NFol at C
   rw [hzz] at C
   unfold pwC ndV at C
   have HN2 := Lib.hid (pnx_two HF.out HH.out y)
   have HP := Lib.hid (R3.out.pop (pnx_two HF.out HH.out y))
   have HU := Lib.hid (R2.out.unk (uni2 G.length H.length 27))
   have HPN : ∀ z, z ∈ pnx mdl G H y → z ∈ uni2 G.length H.length 27 := fun z hz => by
    rw [mem_uni2]
    rcases pe_or hz with ⟨k1, k2⟩ | ⟨_, k1, k2⟩
    ·exact ⟨HF.out.un _ _ hyu.1 k1, by rw [k2]; exact hyu.2⟩
    ·exact ⟨by rw [k2]; exact hyu.1, HH.out.un _ _ hyu.2 k1⟩
   replace HPN := Lib.hid HPN
   generalize pnx mdl G H y = N at *
   clear htop R3 hyu
   go_wp2_with fail
   refine C.out.mono ?_
   rintro e w5 ⟨nv, rfl, hpr, hb5⟩
   have M0 := Lib.hid (Mem2.start (y := y) hBB HT.out HGL.out R2.out R4.out R5.out R6.out hb5 hpr R8.out)
   obtain ⟨aN, capN, rfl, hcapN, _⟩ := own_forms hpr
   clear hpr hb5 C BX D0 D1 D2 D3 D4 dlt q0 q1 q2 q3 HT R1 R2 R4 R5 R6 R8 hzz
   go_wp2_with fail
   generalize wr.heap.size = nb at *
   go_loopw [4, 8, 9, 36] (fun ov _ _ kx w6 => ∃ k : Nat, k ≤ N.length ∧ kx = .int .i64 k ∧ ∃ O m' f', Hid (Mem2 w0 BB bm nb w0.heap.size y N (.slice aN N.length capN) (pwC (.slice (some ⟨rb, 0, none⟩) G.length capf) sl (.slice (some ⟨rb2, 0, none⟩) H.length capf2) sr bm) w6 ov O m' f') ∧ Hid (Wlk mdl G H 27 T m' O (some y) (N.drop k)) ∧ Hid (O.length + unkq (uni2 G.length H.length 27) m' = s.length + unkq (uni2 G.length H.length 27) m) ∧ Hid (m' fr ≠ none ∧ ∀ n, m0 n ≠ none → m' n ≠ none)) (fun _ _ _ kx _ => N.length - (intOf kx).toNat)
   case atStart => exact ⟨0, by omega, rfl, s, m, f, M0, HP, rfl, R7⟩
   case round =>
    clear M0 HP R7
    obtain ⟨k, hk, rfl, O, m', f', A, AW, AM, AK⟩ := hrel
    by_cases hlt : k < N.length
    ·as_aux_lemma =>
     have HLT := Lib.hid hlt
     have hlt2 : (k : Int) < N.length := by omega
     have hk63 : (k : Int) + 1 ≤ 9223372036854775807 := by have := HN2.out; omega
     obtain ⟨a', cap', e1, _, hcl⟩ := own_forms A.out.pr
     injection e1 with e1 _ e2
     subst e1 e2
     obtain ⟨gN, rfl, hgN, hcells⟩ := hcl (by omega)
     have hp := List.getElem?_eq_getElem hlt
     have HD := Lib.hid (List.drop_eq_getElem_cons hlt)
     have HZU := Lib.hid (HPN.out _ (List.getElem_mem hlt))
     generalize N[k] = z at hp HD HZU
     obtain ⟨g0, g1, g2, g3⟩ := ndC_get hp
     have z0 := hcells _ _ g0
     have z1 := hcells _ _ g1
     have z2 := hcells _ _ g2
     have z3 := hcells _ _ g3
     clear hcl hcells hp g0 g1 g2 g3
     have BX := Lib.hid ((Below.refl wr.heap.size wr).alloc (Nat.le_refl _) (.cells #[.int .i64 (z.1.1 : Int), .int .i64 (z.1.2 : Int), .int .i64 (z.2.1 : Int), .int .i64 (z.2.2 : Int)] 223))
     have AX := Lib.hid (A.out.kept BX.out)
     have ZB := Lib.hid (Blk.new wr #[.int .i64 (z.1.1 : Int), .int .i64 (z.1.2 : Int), .int .i64 (z.2.1 : Int), .int .i64 (z.2.2 : Int)] 223)
     have HZS : Hid (∀ j, (valOf (f' z)).ownBlock = some j → j < wr.heap.size) := fun j hj => (World.ownsRow.lt (A.out.bf.row z) j hj).2
     have hl := lookV_run AX.out.bf.mp z
     rw [AX.out.bf.isSome z] at hl
     unfold ndV at hl
     have d4 := A.out.pw.cell 4
     unfold pwC at d4
     simp only [List.getElem?_toArray, List.getElem?_cons_zero, List.getElem?_cons_succ] at d4
     have dlt := A.out.pw.lt
     have HBB := Lib.hid (Nat.le_trans hBB (Nat.le_trans A.out.bl.size BX.out.size))
     have HNT := Lib.hid (AW.out.bound HF.out.sm HH.out.sm z)
     have AWN := AW.out
     rw [HD.out] at AWN
     replace AWN := Lib.hid (AWN.note HZU.out)
     obtain ⟨bb, hbb⟩ : ∃ bb, bb = (m' z).isSome := ⟨_, rfl⟩
     rw [← hbb] at hl
     replace hbb := Lib.hid hbb
     clear A AW BX
     go_wp2_with fail
     clear d4 dlt z0 z1 z2 z3 hl
     generalize wr.alloc (.cells #[.int .i64 (z.1.1 : Int), .int .i64 (z.1.2 : Int), .int .i64 (z.2.1 : Int), .int .i64 (z.2.2 : Int)] 223) = wx at *
     have AD := Lib.hid (AX.out.kept (Below.refl _ _).drew)
     have ZD := Lib.hid ZB.out.drew
     have HZ1 : Hid (BB ≤ wx.drew.heap.size) := HBB
     clear HBB AX ZB
     refine wp_region_held_drew (S := fun w' => Blk w' w0.heap.size (pwC (.slice (some ⟨rb, 0, none⟩) G.length capf) sl (.slice (some ⟨rb2, 0, none⟩) H.length capf2) sr bm) 171 ∧ Blk w' nb #[.int .i64 (y.1.1 : Int), .int .i64 (y.1.2 : Int), .int .i64 (y.2.1 : Int), .int .i64 (y.2.2 : Int)] 223 ∧ Blk w' wr.heap.size #[.int .i64 (z.1.1 : Int), .int .i64 (z.1.2 : Int), .int .i64 (z.2.1 : Int), .int .i64 (z.2.2 : Int)] 223) (by kernel_rfl) ⟨AD.out.pw, AD.out.ya, ZD.out⟩ (fun hHeld => ?_)
     generalize wx.drew = wd at *
     refine wpAnyH_take (i := 0) (oi := { dst := some 47, op := _, type := _, pos := _, after := _, guard := _ }) (v := ?_) rfl (by kernel_rfl) (by kernel_rfl) (by kernel_rfl) (fun _ _ _ h => h) (Or.inl ⟨by kernel_rfl, ?_⟩) hHeld ?_
     rotate_left
     ·intro w hSw
      go_simp
      first | done | with_reducible rfl
     simp only [Act.put]
     refine wpAnyH_take (i := 1) (oi := { dst := some 48, op := _, type := _, pos := _, after := _, guard := _ }) (v := ?_) rfl (by kernel_rfl) (by kernel_rfl) (by kernel_rfl) (fun _ _ _ h => h) (Or.inl ⟨by kernel_rfl, ?_⟩) hHeld ?_
     rotate_left
     ·intro w hSw
      have d4 := hSw.1.cell 4
      try unfold pwC at d4
      simp only [List.getElem?_toArray, List.getElem?_cons_zero, List.getElem?_cons_succ] at d4
      go_simp
      first | done | with_reducible rfl
     simp only [Act.put]
     refine wpAnyH_take (i := 2) (oi := { dst := some 49, op := _, type := _, pos := _, after := _, guard := _ }) (v := ?_) rfl (by kernel_rfl) (by kernel_rfl) (by kernel_rfl) (fun _ _ _ h => h) (Or.inl ⟨by kernel_rfl, ?_⟩) hHeld ?_
     rotate_left
     ·intro w hSw
      have x0 := hSw.2.2.cell 0
      have x1 := hSw.2.2.cell 1
      have x2 := hSw.2.2.cell 2
      have x3 := hSw.2.2.cell 3
      try unfold pwC at x0 x1 x2 x3
      simp only [List.getElem?_toArray, List.getElem?_cons_zero, List.getElem?_cons_succ] at x0 x1 x2 x3
      go_simp
      first | done | with_reducible rfl
     simp only [Act.put]
     refine wpAnyH_take (i := 3) (oi := { dst := some 50, op := _, type := _, pos := _, after := _, guard := _ }) (v := ?_) rfl (by kernel_rfl) (by kernel_rfl) (by kernel_rfl) (fun _ _ _ h => h) (Or.inl ⟨by kernel_rfl, ?_⟩) hHeld ?_
     rotate_left
     ·intro w hSw
      go_simp
      first | done | with_reducible rfl
     simp only [Act.put]
     refine wpAnyH_take (i := 4) (oi := { dst := some 51, op := _, type := _, pos := _, after := _, guard := _ }) (v := ?_) rfl (by kernel_rfl) (by kernel_rfl) (by kernel_rfl) (fun _ _ _ h => h) (Or.inl ⟨by kernel_rfl, ?_⟩) hHeld ?_
     rotate_left
     ·intro w hSw
      have y0 := hSw.2.1.cell 0
      have y1 := hSw.2.1.cell 1
      have y2 := hSw.2.1.cell 2
      have y3 := hSw.2.1.cell 3
      try unfold pwC at y0 y1 y2 y3
      simp only [List.getElem?_toArray, List.getElem?_cons_zero, List.getElem?_cons_succ] at y0 y1 y2 y3
      go_simp
      first | done | with_reducible rfl
     simp only [Act.put]
     have BE := Lib.hid ((Below.refl wd.heap.size wd).alloc (Nat.le_refl _) (.cells #[.int .i64 (y.1.1 : Int), .int .i64 (y.1.2 : Int), .int .i64 (y.2.1 : Int), .int .i64 (y.2.2 : Int)] 223))
     have AE := Lib.hid (AD.out.kept BE.out)
     have ZE := Lib.hid (ZD.out.kept BE.out)
     have HNW := Lib.hid (heap_alloc_new wd (.cells #[.int .i64 (y.1.1 : Int), .int .i64 (y.1.2 : Int), .int .i64 (y.2.1 : Int), .int .i64 (y.2.2 : Int)] 223))
     have HZ2 := Lib.hid (Nat.le_trans HZ1.out BE.out.size)
     have HZ3 : Hid ((wd.alloc (.cells #[.int .i64 (y.1.1 : Int), .int .i64 (y.1.2 : Int), .int .i64 (y.2.1 : Int), .int .i64 (y.2.2 : Int)] 223)).heap.size = wd.heap.size + 1) := by show _ = _; simp
     generalize hl0 : (m' z).getD [] = l at *
     have HR : Hid ((wd.alloc (.cells #[.int .i64 (y.1.1 : Int), .int .i64 (y.1.2 : Int), .int .i64 (y.2.1 : Int), .int .i64 (y.2.2 : Int)] 223)).ownsRow BB 223 4 (valOf (f' z)) l.length (ndC l)) := by
      have := AE.out.bf.row z
      rw [hl0] at this
      exact this
     replace hl0 := Lib.hid hl0
     clear AD ZD BE
     refine wpAnyH_ready (rs := [5]) (by kernel_rfl) (by simp) ?_
     refine AllReadyH.cons rfl (fun K hK => ?_) AllReadyH.nil
     go_simp
     refine hK.out _ _ ⟨AE.out.pw, AE.out.ya, ZE.out⟩ (fun hHeld => ?_)
     clear hK K
     try simp only [Act.put]
     generalize wd.alloc (.cells #[.int .i64 (y.1.1 : Int), .int .i64 (y.1.2 : Int), .int .i64 (y.2.1 : Int), .int .i64 (y.2.2 : Int)] 223) = we at *
     refine wpAnyH_ready (rs := [6]) (by kernel_rfl) (by simp) ?_
     refine AllReadyH.cons rfl (fun K hK => ?_) AllReadyH.nil
     refine step_append_lies _ (by rfl) _ _ _ (by rfl) BB 223 i0 _ 4 32 Tryz.underlying225 hi0 hz0 hz1 hz2 rfl (by omega) (valOf (f' z)) l.length (ndC l) (by simp [Act.eval]) HR.out ⟨wd.heap.size, 0, none⟩ 1 1 [.int .i64 (y.1.1 : Int), .int .i64 (y.1.2 : Int), .int .i64 (y.2.1 : Int), .int .i64 (y.2.2 : Int)] (by first | rfl | simp [Act.eval, Act.put]) (by simp) (World.news_of_block (cs := #[.int .i64 (y.1.1 : Int), .int .i64 (y.1.2 : Int), .int .i64 (y.2.1 : Int), .int .i64 (y.2.2 : Int)]) (t := 223) (fr := (0, 0)) HNW.out) (by simp [Value.oneCell']) (by omega) (by have := HNT.out.1; unfold maxLen; omega) (by have := HNT.out.1; omega) HZ2.out (wd.heap.size + 1) HZ3.out ?_
     intro g3 cap3 w7 hown hgrow hat hlt7
     have HV : Hid (NRow w7 BB (.slice (some ⟨g3, 0, none⟩) (l.length + 1) cap3) (l ++ [y])) := by
      show w7.ownsRow _ _ _ _ _ _
      rw [ndC_app, ndC_one, List.length_append]
      exact hown
     obtain ⟨o, ho, hmv⟩ := storeV_run (AE.out.bf.grownAt z hgrow).1 z (.slice (some ⟨g3, 0, none⟩) (l.length + 1) cap3)
     have hs1 := ho w7 rfl
     unfold ndV at hs1
     have AN := Lib.hid (AE.out.noted z HV.out hgrow (hat.imp id (fun e => by rw [e]; exact Nat.le_of_eq HZ3.out)) (hmv w7 (AE.out.bf.grownAt z hgrow).1.lt))
     have Z7 := Lib.hid (Blk.grown ZE.out hgrow (fun e => by have := HZS.out _ e; omega))
     have ZN := Lib.hid (Blk.setB' Z7.out (fun e => by
      obtain ⟨es, c, hobj⟩ := (AE.out.bf.grownAt z hgrow).1.obj
      have := Z7.out
      unfold Blk at this
      rw [e, hobj] at this
      cases this) o)
     refine hK.out _ _ ⟨Blk.grown AE.out.pw hgrow (own_blk HR.out AE.out.pw typ_ne7), Blk.grown AE.out.ya hgrow (fun e => AE.out.a2.keep z nb rfl e.symm), Z7.out⟩ (fun hHeld => ?_)
     clear hK K hown hgrow hat hlt7 ho hmv HV Z7 AE ZE HR HNW
     try simp only [Act.put]
     refine wpAnyH_ready (rs := [7]) (by kernel_rfl) (by simp) ?_
     refine AllReadyH.cons rfl (fun K hK => ?_) AllReadyH.nil
     go_simp
     refine hK.out _ _ ⟨AN.out.pw, AN.out.ya, ZN.out⟩ (fun hHeld => ?_)
     clear hK K
     try simp only [Act.put]
     refine wpAnyH_done (by kernel_rfl) ?_ _
     clear hs1 hHeld
     generalize setBlock w7 bm o = w8 at *
     cases bb with
     | true =>
      have hnz : m' z ≠ none := by rw [← Option.isSome_iff_ne_none]; exact hbb.out.symm
      have W8 : Hid (Wlk mdl G H 27 T (updq m' z (l ++ [y])) O (some y) (N.drop (k + 1))) := by
       have := AWN.out
       rw [if_neg hnz] at this
       exact this
      have M8 : Hid (O.length + unkq (uni2 G.length H.length 27) (updq m' z (l ++ [y])) = s.length + unkq (uni2 G.length H.length 27) m) := by
       show _ = _
       rw [unkq_note hnz]
       exact AM.out
      have K8 := Lib.hid (keys_note (z := z) (l := l ++ [y]) AK.out)
      clear hnz AWN AM AK
      go_wp2_with fail
      exact ⟨⟨k + 1, by have := HLT.out; omega, by go_num, O, _, _, AN, W8, M8, K8⟩, by have := HLT.out; simp [intOf]; omega⟩
     | false =>
      have hnz : m' z = none := by
       cases h : m' z with
       | none => rfl
       | some l =>
        have := hbb.out
        rw [h] at this
        cases this
      have W8 : Hid (Wlk mdl G H 27 T (updq m' z (l ++ [y])) (z :: O) (some y) (N.drop (k + 1))) := by
       have := AWN.out
       rw [if_pos hnz] at this
       exact this
      have M8 : Hid ((z :: O).length + unkq (uni2 G.length H.length 27) (updq m' z (l ++ [y])) = s.length + unkq (uni2 G.length H.length 27) m) := by
       show _ = _
       have h1 := unkq_upd (l := l ++ [y]) (uni2_nodup G.length H.length 27) HZU.out hnz
       have h2 := AM.out
       simp only [List.length_cons]
       omega
      have K8 := Lib.hid (keys_note (z := z) (l := l ++ [y]) AK.out)
      have BY := Lib.hid ((Below.refl w8.heap.size w8).alloc (Nat.le_refl _) (.cells #[.int .i64 (z.1.1 : Int), .int .i64 (z.1.2 : Int), .int .i64 (z.2.1 : Int), .int .i64 (z.2.2 : Int)] 223))
      have AP := Lib.hid (AN.out.kept BY.out)
      have HB8 := Lib.hid (Nat.le_trans hBB AN.out.bl.size)
      have x0 := ZN.out.cell 0; have x1 := ZN.out.cell 1; have x2 := ZN.out.cell 2; have x3 := ZN.out.cell 3
      simp only [List.getElem?_toArray, List.getElem?_cons_zero, List.getElem?_cons_succ] at x0 x1 x2 x3
      clear hnz AWN AM AK AN ZN
      go_wp2_with (at_builtin; refine wpList_append_lies _ (by rfl) _ _ _ (by rfl) BB 223 i0 _ 4 32 Tryz.underlying225 hi0 hz0 hz1 hz2 rfl (by omega) _ _ _ (by rfl) AP.out.st.own ⟨w8.heap.size, 0, none⟩ 1 1 [.int .i64 (z.1.1 : Int), .int .i64 (z.1.2 : Int), .int .i64 (z.2.1 : Int), .int .i64 (z.2.2 : Int)] (by rfl) (by rfl) (World.news_of_block (cs := #[.int .i64 (z.1.1 : Int), .int .i64 (z.1.2 : Int), .int .i64 (z.2.1 : Int), .int .i64 (z.2.2 : Int)]) (t := 223) (fr := (0, 0)) (heap_alloc_new w8 _)) (by simp [Value.oneCell']) (by omega) (by have := HNT.out.2; unfold maxLen; omega) (by have := HNT.out.2; omega) (Nat.le_trans HB8.out BY.out.size) (w8.heap.size + 1) (by simp) ?_; intro g4 cap4 w9 hown hgrow hat hlt9)
      have AQ := Lib.hid (AP.out.pushed (NStk.push hown) hgrow (hat.imp id (fun e => by rw [e]; simp)))
      clear hown hgrow hat AP BY x0 x1 x2 x3
      go_wp2_with fail
      exact ⟨⟨k + 1, by have := HLT.out; omega, by go_num, z :: O, _, _, AQ, W8, M8, K8⟩, by have := HLT.out; simp [intOf]; omega⟩
    ·as_aux_lemma =>
     have hk2 : k = N.length := by omega
     subst hk2
     have hnl : ¬ (N.length : Int) < N.length := by omega
     have AW2 : Hid (Wlk mdl G H 27 T m' O none []) := by
      have := AW.out
      rw [List.drop_length] at this
      exact this.noted
     go_wp2_with fail
     refine ⟨⟨O, m', f', A.out.st, A.out.bf, AW2, A.out.bl, A.out.a1, A.out.pw, AK, A.out.pk⟩, ?_⟩
     rw [A.out.bf.unk, HU.out, A.out.st.len]
     show _ < _ + (s.length + 1)
     have := AM.out
     omega
theorem pf_any (hF : Flown mdl 27 w1 spL sl G) (hH : Flown mdl 27 w1 spR sr H) (T : Nd → Prop) (w0 : World) (BB bm : Nat) (m0 : Mq) (f0 : Mv) (fr : Nd) (hT : T fr) (hu : fr ∈ uni2 G.length H.length 27) (hB : BefW w0 BB bm m0 f0) (hBB : BB ≤ w0.heap.size) (hb1 : Below w1.heap.size w1 w0) (hb2 : w1.heap.size ≤ BB) (hW : Wlk mdl G H 27 T m0 [] none []) :
  Calls Tryz.prog 201 #[.agg (pwC spL sl spR sr bm), ndV fr] w0 (PfPost G H T BB bm m0 fr w0) := by
 by_cases hm : m0 fr = none
 ·exact pf_new hF hH T w0 BB bm m0 f0 fr hT hu hB hBB hb1 hb2 hW hm
 ·exact pf_known T spL spR sl sr w0 BB bm m0 f0 fr hB hBB hW hm
end
end Go.Proofs.YtgkoljphndgoeaaGreatDoor
