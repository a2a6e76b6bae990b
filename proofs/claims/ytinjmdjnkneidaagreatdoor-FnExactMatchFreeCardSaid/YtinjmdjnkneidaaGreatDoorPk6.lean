/-
  What leads to an end that is avoided is deleted: impl.pairWalk.avoid.
-/
import Derived.Test.YtinjmdjnkneidaaGreatDoorPk5
namespace Go.Proofs.YtinjmdjnkneidaaGreatDoor
open Go.RowKit Tm Go.ChangeMaps Go.Great

/-! ### One row behind another -/
theorem append_nilr {t ty e : TypeId} (ht : Tryz.prog.underlying t = some (.slice e)) {sz : Nat} (hs : ∀ w, (sizeOf e).run Tryz.prog w = .ok sz w) (b : Option Addr) (n cap : Nat) (hc : n ≤ cap) (w : World) : (Builtin.append_ #[t, t] ty #[.slice b n cap, .slice none 0 0]).run Tryz.prog w = .ok (.slice b n cap) w := by
  have h0 : (n + 0) = n := rfl
  cases b with
  | none => simp [Builtin.append_, run_underlying ht, hs, Builtin.lenOf, Builtin.firstCells, hc, Result.andThen]
  | some a => simp [Builtin.append_, run_underlying ht, hs, Builtin.lenOf, Builtin.firstCells, hc, Result.andThen, storeCells]
theorem sizePP (w : World) : (sizeOf 106).run Tryz.prog w = .ok 4 w := by kernel_rfl
theorem append_rows (w : World) (ty : TypeId) {BB : Nat} {v r : Value} {l l' : List Nd} (hv : NRow w BB v l) (hr : NRow w BB r l') (hlen : l.length + l'.length ≤ 4000000000) (hB : BB ≤ w.heap.size) :
    ∃ v' w', (Builtin.append_ #[151, 151] ty #[v, r]).run Tryz.prog w = .ok v' w' ∧ NRow w' BB v' (l ++ l') ∧ w.grownBy w' v.ownBlock ∧ (v'.ownBlock = v.ownBlock ∨ v'.ownBlock = some w.heap.size) := by
  obtain ⟨i0, hi0, hz0, hz1, hz2⟩ := info_parts infoPP
  have hr' := hr
  obtain ⟨h1, h2⟩ := hr'
  rcases h2 with ⟨rfl, h3⟩ | ⟨g, cap, cur, rfl, _⟩
  · obtain ⟨a, cap, rfl, hc, _⟩ := own_forms hv
    have : l' = [] := List.length_eq_zero_iff.1 h3
    subst this
    refine ⟨_, w, append_nilr Tryz.underlying151 sizePP a l.length cap hc w, ?_, World.grownBy.refl _ _, .inl rfl⟩
    rw [List.append_nil]; exact hv
  · have hcl := World.ownsRow.cells hr (g := g) rfl
    have h8 : ∀ u ∈ ndC l', u.oneCell' = true := fun u hu => by
      unfold ndC at hu
      obtain ⟨n, _, hn⟩ := List.mem_flatMap.1 hu
      simp only [List.mem_cons, List.not_mem_nil, or_false] at hn
      rcases hn with rfl | rfl | rfl | rfl <;> rfl
    obtain ⟨v', w', k1, k2, k3, _, k5⟩ := run_append_own_at (P := Tryz.prog) w BB 151 ty 106 i0 _ 4 32 Tryz.underlying151 hi0 hz0 hz1 hz2 rfl (by omega) v l.length (ndC l) hv ⟨g, 0, none⟩ l'.length cap (ndC l') (ndC_len l') hcl h8 (by unfold maxLen; omega) (by omega) hB
    refine ⟨v', w', k1, ?_, k3, k5⟩
    show w'.ownsRow _ _ _ _ _ _
    rw [List.length_append, ndC_app]
    exact k2
theorem step_append_run {ops : Array Oper} {o : Oper} {a : Act} {w w' : World} {K : Act → World → Prop} {Q : Exit → Act → World → Prop} {E : Prop} (hgd : o.guard = none) (s x : Operand) (t : TypeId)
    (ho : o.op = .call { callee := .builtin .append, args := #[s, x], argTypes := #[t, t] }) (v r v' : Value) (hs : a.eval s = v) (hx : a.eval x = r) (hr : (Builtin.append_ #[t, t] o.type #[v, r]).run Tryz.prog w = .ok v' w') (h : K (a.put o.dst v') w') :
    if Region.wanted o (yielded ops a.tmps) = true then Oper.wp Tryz.prog o a w K Q else E := by
  have hw : Region.wanted o (yielded ops a.tmps) = true := by simp [Region.wanted, hgd]
  rw [if_pos hw]
  unfold Oper.wp execOp
  simp only [ho, resolve, invoke, builtin, Sem.run_bind, Sem.run_pure, Result.andThen_ok, List.map_toArray, List.map_cons, List.map_nil, hs, hx, hr]
  exact h

/-! ### The ends to be avoided, in the order of numbers -/
def lowE (C : Nat → Nat → Bool) (n : Nat) : List Nd := ((List.range n).filter fun k => C (k % 27) (k / 27)).map fun k => enN (k % 27) (k / 27)
theorem lowE_len (C : Nat → Nat → Bool) (n : Nat) : (lowE C n).length ≤ n := by
  unfold lowE
  rw [List.length_map]
  have := List.length_filter_le (fun k => C (k % 27) (k / 27)) (List.range n)
  rwa [List.length_range] at this
theorem lowE_no {C : Nat → Nat → Bool} {i j : Nat} (hi : i < 27) (h : C i j = false) : lowE C (i + 27 * j + 1) = lowE C (i + 27 * j) := by
  unfold lowE
  have h1 : (i + 27 * j) % 27 = i := by omega
  have h2 : (i + 27 * j) / 27 = j := by omega
  rw [List.range_succ, List.filter_append]
  simp [h1, h2, h]
theorem lowE_yes {C : Nat → Nat → Bool} {i j : Nat} (hi : i < 27) (h : C i j = true) : lowE C (i + 27 * j + 1) = lowE C (i + 27 * j) ++ [enN i j] := by
  unfold lowE
  have h1 : (i + 27 * j) % 27 = i := by omega
  have h2 : (i + 27 * j) / 27 = j := by omega
  rw [List.range_succ, List.filter_append, List.map_append]
  simp [h1, h2, h]
theorem mem_lowE {C : Nat → Nat → Bool} {n : Nd} : n ∈ lowE C 729 ↔ badN C n := by
  unfold lowE badN
  simp only [List.mem_map, List.mem_filter, List.mem_range]
  constructor
  · rintro ⟨k, ⟨hk, hC⟩, rfl⟩
    exact ⟨k % 27, k / 27, by omega, by omega, hC, rfl⟩
  · rintro ⟨a, c, ha, hc, hC, rfl⟩
    refine ⟨a + 27 * c, ⟨by omega, ?_⟩, ?_⟩
    · rw [show (a + 27 * c) % 27 = a by omega, show (a + 27 * c) / 27 = c by omega]; exact hC
    · rw [show (a + 27 * c) % 27 = a by omega, show (a + 27 * c) / 27 = c by omega]
theorem Avd.start {G H : List Stp} {T : Nd → Prop} {m : Mq} (C : Nat → Nat → Bool) (h : Wlk mdl G H 27 T m [] none []) : Avd mdl G H 27 (badN C) m m (lowE C 729).reverse where
  sub := fun n => .inr rfl
  dl := fun n h1 h2 => absurd h2 h1
  oo := fun n hn => ⟨n, mem_lowE.1 (List.mem_reverse.1 hn), .refl _⟩
  cl := fun z l h1 h2 => by rw [h1] at h2; cases h2
  bd := fun b hb => .inl (List.mem_reverse.2 (mem_lowE.2 hb))
  sz := by
    have h1 := h.sz
    have h2 := lowE_len C 729
    simp only [List.length_nil, List.length_reverse] at *
    omega

/-! ### The measure -/
def sumV (U : List Nd) (f : Mv) : Nat := (U.map fun n => lenOf (valOf (f n))).sum
theorem BefW.sum {w : World} {BB bm : Nat} {m : Mq} {f : Mv} (h : BefW w BB bm m f) (U : List Nd) : sumV U (mvIn w bm) = sumq U m := by
  rw [h.mp.inn]
  unfold sumV sumq
  exact sum_congr fun x _ => (NRow.len (h.row x))
theorem typ_ne8 : 46 ≠ 106 := by decide
def AvPost (G H : List Stp) (C : Nat → Nat → Bool) (BB bm : Nat) (m : Mq) (w0 : World) (e : Ending) (w' : World) : Prop :=
  e = .returned (.tuple #[]) ∧ ∃ m' f', BefW w' BB bm m' f' ∧ Avd mdl G H 27 (badN C) m m' [] ∧ Below BB w0 w' ∧ ∀ b cs, Blk w0 b cs 64 → Blk w' b cs 64
set_option maxRecDepth 1000000 in
set_option maxHeartbeats 8000000 in
theorem avoid_any {G H : List Stp} {T : Nd → Prop} (hG : G.length ≤ 1200) (hH : H.length ≤ 1200) (C : Nat → Nat → Bool) (rb n1 cap1 rb2 n2 cap2 : Nat) (sl sr bm BB : Nat) (m : Mq) (f : Mv) (w0 : World) (hB : BefW w0 BB bm m f) (hBB : BB ≤ w0.heap.size) (hW : Wlk mdl G H 27 T m [] none []) :
    Calls Tryz.prog 97 #[.agg (pwC (.slice (some ⟨rb, 0, none⟩) n1 cap1) sl (.slice (some ⟨rb2, 0, none⟩) n2 cap2) sr bm), .agg (relC .u32 C)] w0 (AvPost G H C BB bm m w0) := by
  obtain ⟨i0, hi0, hz0, hz1, hz2⟩ := info_parts infoPP
  obtain ⟨k0, k1, kb⟩ := two_new w0 (pwC (.slice (some ⟨rb, 0, none⟩) n1 cap1) sl (.slice (some ⟨rb2, 0, none⟩) n2 cap2) sr bm) (relC .u32 C) 64 46
  have hz : ((w0.alloc (.cells (pwC (.slice (some ⟨rb, 0, none⟩) n1 cap1) sl (.slice (some ⟨rb2, 0, none⟩) n2 cap2) sr bm) 64)).alloc (.cells (relC .u32 C) 46)).heap.size = w0.heap.size + 2 := by simp
  have K0 := Lib.hid k0
  have K1 := Lib.hid k1
  have KB := Lib.hid kb
  have HZ : Hid (w0.heap.size + 2 ≤ ((w0.alloc (.cells (pwC (.slice (some ⟨rb, 0, none⟩) n1 cap1) sl (.slice (some ⟨rb2, 0, none⟩) n2 cap2) sr bm) 64)).alloc (.cells (relC .u32 C) 46)).heap.size) := Nat.le_of_eq hz.symm
  have HB := Lib.hid hB
  have HW := Lib.hid hW
  have HS := Lib.hid (Avd.start C hW)
  have HGH : Hid (G.length * 27 * (H.length * 27) ≤ (1200 * 27) * (1200 * 27)) := Nat.mul_le_mul (Nat.mul_le_mul_right _ hG) (Nat.mul_le_mul_right _ hH)
  clear k0 k1 kb hz hB hW
  unfold pwC at K0 K1 KB HZ ⊢
  go_enter Tryz.func97, Tryz.ntmps97
  go_wp2_with (refine wpList_boxTo rfl 46 _ rfl (some 3) rfl (w0.heap.size + 1) (by simp) (relC .u32 C) (by rfl) ?_)
  generalize (w0.alloc (.cells _ 64)).alloc (.cells (relC .u32 C) 46) = wa at *
  replace K0 : Hid (Blk wa w0.heap.size (pwC (.slice (some ⟨rb, 0, none⟩) n1 cap1) sl (.slice (some ⟨rb2, 0, none⟩) n2 cap2) sr bm) 64) := K0
  go_wp2_with fail
  go_loopw [4, 5, 7] (fun ov _ i wr => ∃ k : Nat, k ≤ 729 ∧ i = .int .i64 k ∧ Hid (NRow wr (w0.heap.size + 2) ov (lowE C k)) ∧ Hid (Blk wr w0.heap.size (pwC (.slice (some ⟨rb, 0, none⟩) n1 cap1) sl (.slice (some ⟨rb2, 0, none⟩) n2 cap2) sr bm) 64) ∧ Hid (Blk wr (w0.heap.size + 1) (relC .u32 C) 46) ∧ Hid (Below w0.heap.size w0 wr) ∧ Hid (w0.heap.size + 2 ≤ wr.heap.size)) (fun _ _ i _ => 729 - (intOf i).toNat)
  case atStart => exact ⟨0, by omega, rfl, NRow.nil _ _, K0, K1, KB, HZ⟩
  case round =>
    clear K0 K1 KB HZ
    obtain ⟨n, hn, rfl, RO, R0, R1, RB, RZ⟩ := hrel
    by_cases hlt : n < 729
    · obtain ⟨i, j, hi, hj, hne⟩ : ∃ i j, i < 27 ∧ j < 27 ∧ n = i + 27 * j := ⟨n % 27, n / 27, by omega, by omega, by omega⟩
      have P1 := fun w => Lib.hid (rel_hasn C i j hi hj w)
      rw [← hne] at P1
      cases hA : C i j with
      | false =>
        as_aux_lemma =>
        rw [hA] at P1
        have HL := lowE_no hi hA
        rw [← hne] at HL
        replace HL := Lib.hid HL
        clear hA hne
        go_wp2_with (refine wpList_load_row rfl 46 _ rfl (w0.heap.size + 1) (by rfl) 46 (relC .u32 C) (0, 0) _ R1.out undR rfl (infoR _) ?_)
        refine (P1 _).out.mono ?_
        rintro e w5 ⟨rfl, hb⟩
        have NO : Hid (NRow w5 (w0.heap.size + 2) u4 (lowE C (n + 1))) := by
          show NRow _ _ _ _
          rw [HL.out]
          exact own_below RO.out hb
        have N0 := Lib.hid (R0.out.kept hb)
        have N1 := Lib.hid (R1.out.kept hb)
        have NB := Lib.hid (bnext RB.out hb)
        have NZ := Lib.hid (Nat.le_trans RZ.out hb.size)
        clear RO R0 R1 RB RZ hb P1
        go_wp2_with fail
        exact ⟨⟨n + 1, by omega, by go_num, NO, N0, N1, NB, NZ⟩, by simp [intOf]; omega⟩
      | true =>
        as_aux_lemma =>
        rw [hA] at P1
        have HL := lowE_yes hi hA
        have P2 := fun w => Lib.hid (endOf_any i j hi hj w)
        rw [← hne] at HL P2
        replace HL := Lib.hid HL
        have HLE := Lib.hid (lowE_len C n)
        have hE : ((0, i), (0, j)) = enN i j := rfl
        rw [hE] at P2
        clear hA hne hE
        generalize enN i j = z at *
        unfold NdIs ndV at P2
        go_wp2_with (refine wpList_load_row rfl 46 _ rfl (w0.heap.size + 1) (by rfl) 46 (relC .u32 C) (0, 0) _ R1.out undR rfl (infoR _) ?_)
        refine (P1 _).out.mono ?_
        rintro e w5 ⟨rfl, hb⟩
        have NO := Lib.hid (own_below RO.out hb)
        have N0 := Lib.hid (R0.out.kept hb)
        have N1 := Lib.hid (R1.out.kept hb)
        have NB := Lib.hid (bnext RB.out hb)
        have NZ := Lib.hid (Nat.le_trans RZ.out hb.size)
        clear RO R0 R1 RB RZ hb P1
        go_wp2_with fail
        refine (P2 _).out.mono ?_
        rintro e w6 ⟨rfl, hb⟩
        have BY := Lib.hid ((Below.refl w6.heap.size w6).alloc (Nat.le_refl _) (.cells #[.int .i64 (z.1.1 : Int), .int .i64 (z.1.2 : Int), .int .i64 (z.2.1 : Int), .int .i64 (z.2.2 : Int)] 106))
        have MO := Lib.hid (own_below (own_below NO.out hb) BY.out)
        have M0 := Lib.hid ((N0.out.kept hb).kept BY.out)
        have M1 := Lib.hid ((N1.out.kept hb).kept BY.out)
        have MB := Lib.hid (bnext (bnext NB.out hb) BY.out)
        have MZ := Lib.hid (Nat.le_trans (Nat.le_trans NZ.out hb.size) BY.out.size)
        clear NO N0 N1 NB NZ hb BY P2
        go_wp2_with (at_builtin; refine wpList_append_lies _ (by rfl) _ _ _ (by rfl) (w0.heap.size + 2) 106 i0 _ 4 32 Tryz.underlying151 hi0 hz0 hz1 hz2 rfl (by omega) _ _ _ (by rfl) MO.out ⟨w6.heap.size, 0, none⟩ 1 1 [.int .i64 (z.1.1 : Int), .int .i64 (z.1.2 : Int), .int .i64 (z.2.1 : Int), .int .i64 (z.2.2 : Int)] (by rfl) (by rfl) (World.news_of_block (cs := #[.int .i64 (z.1.1 : Int), .int .i64 (z.1.2 : Int), .int .i64 (z.2.1 : Int), .int .i64 (z.2.2 : Int)]) (t := 106) (fr := (0, 0)) (heap_alloc_new w6 _)) (by simp [Value.oneCell']) (by omega) (by have := HLE.out; unfold maxLen; omega) (by have := HLE.out; omega) MZ.out (w6.heap.size + 1) (by simp) ?_; intro g4 cap4 w7 hown hgrow hat hlt7)
        have LO : Hid (NRow w7 (w0.heap.size + 2) (.slice (some ⟨g4, 0, none⟩) ((lowE C n).length + 1) cap4) (lowE C (n + 1))) := by
          show w7.ownsRow _ _ _ _ _ _
          rw [HL.out, ndC_app, List.length_append]
          exact hown
        have L0 := Lib.hid (Blk.grown M0.out hgrow (own_blk MO.out M0.out typ_ne7))
        have L1 := Lib.hid (Blk.grown M1.out hgrow (own_blk MO.out M1.out typ_ne8))
        have LB := Lib.hid (MB.out.grown hgrow MB.out.size (fun k hk => by have := (World.ownsRow.lt MO.out k hk).1; omega))
        have LZ := Lib.hid (Nat.le_trans MZ.out hgrow.size)
        clear hown hgrow hat MO M0 M1 MB MZ
        go_wp2_with fail
        exact ⟨⟨n + 1, by omega, by go_num, LO, L0, L1, LB, LZ⟩, by simp [intOf]; omega⟩
    · have hk2 : n = 729 := by omega
      rw [hk2] at RO
      have hnl : ¬ ((n : Int) < 729) := by omega
      clear hk2 hn hlt
      have T1 : Hid (NStk wr BB u4 (lowE C 729).reverse) := by
        show NRow _ _ _ _
        rw [List.reverse_reverse]
        exact World.ownsRow.mono RO.out (by omega)
      have T2 := Lib.hid (HB.out.kept RB.out)
      have T5 : Hid (Apart f u4.ownBlock) := by
        show Apart _ _
        cases hn : u4.ownBlock with
        | none => exact Apart.none_ f
        | some b => exact HB.out.apart_new (by have := (World.ownsRow.lt RO.out b hn).1; omega)
      have T3 := Lib.hid (RB.out.mono hBB)
      have T7 : Hid (∀ b cs, Blk w0 b cs 64 → Blk wr b cs 64) := fun b cs h => h.kept RB.out
      clear RO R1 RB RZ HB
      go_wp2_with fail
      go_loopw [4] (fun ov wr => ∃ O m' f', Hid (NStk wr BB ov O) ∧ Hid (BefW wr BB bm m' f') ∧ Hid (Avd mdl G H 27 (badN C) m m' O) ∧ Hid (Below BB w0 wr) ∧ Hid (Apart f' ov.ownBlock) ∧ Hid (Blk wr w0.heap.size (pwC (.slice (some ⟨rb, 0, none⟩) n1 cap1) sl (.slice (some ⟨rb2, 0, none⟩) n2 cap2) sr bm) 64) ∧ Hid (∀ b cs, Blk w0 b cs 64 → Blk wr b cs 64)) (fun ov wr => sumV (uni2 G.length H.length 27) (mvIn wr bm) + lenOf ov)
      case atStart => exact ⟨_, m, f, T1, T2, HS, T3, T5, R0, T7⟩
      case round =>
        clear T1 T2 HS T3 T5 R0 T7
        obtain ⟨O, m', f', R1, R2, R3, R4, R5, R6, R7⟩ := hrel
        cases O with
        | nil =>
          as_aux_lemma =>
          obtain ⟨a, cap, rfl, hcap, _⟩ := own_forms R1.out
          simp only [List.reverse_nil, List.length_nil] at *
          go_wp2_with fail
          go_end0
          exact ⟨rfl, m', f', R2.out, R3.out, R4.out, R7.out⟩
        | cons y s =>
          as_aux_lemma =>
          obtain ⟨g, cap, rfl, hcap, hg, hgl, q0, q1, q2, q3, htop⟩ := R1.out.top
          have HT := Lib.hid htop
          have HLB : Hid (((m' y).getD []).length + s.length ≤ 3000000000) := by
            show _ ≤ _
            have h1 := R3.out.sz
            have h2 := HGH.out
            have h3 : ((m' y).getD []).length ≤ sumq (uni2 G.length H.length 27) m' := by
              by_cases hn : m' y = none
              · rw [hn]; simp
              · have hu : y ∈ uni2 G.length H.length 27 := HW.out.un y (by
                  rcases R3.out.sub y with k | k
                  · exact absurd k hn
                  · rw [← k]; exact hn)
                unfold sumq
                have : rlen m' y ∈ (uni2 G.length H.length 27).map (rlen m') := List.mem_map.2 ⟨y, hu, rfl⟩
                exact mem_sum this
            simp only [List.length_cons] at h1
            omega
          have hmx : s.length + 1 ≤ 9223372036854775807 := by have := HLB.out; omega
          have hw : IntKind.i64.wrap (s.length : Int) = (s.length : Int) := IntWalk.i64_in _ (by omega)
          obtain ⟨hp1, hp2⟩ := R3.out.pop HW.out.sd HW.out.un
          have HP1 := Lib.hid hp1
          have HP2 := Lib.hid hp2
          have HU := Lib.hid (R2.out.sum (uni2 G.length H.length 27))
          have BX := Lib.hid (((Below.refl wr.heap.size wr).alloc (Nat.le_refl _) (.cells #[.int .i64 y.1.1, .int .i64 y.1.2, .int .i64 y.2.1, .int .i64 y.2.2] 106)).drew)
          have ZB := Lib.hid (Blk.new wr #[.int .i64 y.1.1, .int .i64 y.1.2, .int .i64 y.2.1, .int .i64 y.2.2] 106).drew
          have E1 := Lib.hid (R2.out.kept BX.out)
          have E2 : Hid (NStk (wr.alloc (.cells #[.int .i64 y.1.1, .int .i64 y.1.2, .int .i64 y.2.1, .int .i64 y.2.2] 106)).drew BB (.slice (some ⟨g, 0, none⟩) s.length cap) s) := own_below HT.out BX.out
          have E4 := Lib.hid (R4.out.trans (BX.out.mono (Nat.le_trans hBB R4.out.size)))
          have E6 := Lib.hid (R6.out.kept BX.out)
          have E7 : Hid (∀ b cs, Blk w0 b cs 64 → Blk (wr.alloc (.cells #[.int .i64 y.1.1, .int .i64 y.1.2, .int .i64 y.2.1, .int .i64 y.2.2] 106)).drew b cs 64) := fun b cs h => (R7.out b cs h).kept BX.out
          have A2 : Hid (Apart f' (some wr.heap.size)) := R2.out.apart_new (Nat.le_refl _)
          have HGL := Lib.hid hgl
          clear htop hp1 hp2 R1 R2 R3 R4 R6 R7 BX HT
          go_wp2_with fail
          clear q0 q1 q2 q3
          generalize wr.heap.size = nb at *
          refine wp_region_held_drew (S := fun w' => Blk w' w0.heap.size (pwC (.slice (some ⟨rb, 0, none⟩) n1 cap1) sl (.slice (some ⟨rb2, 0, none⟩) n2 cap2) sr bm) 64 ∧ Blk w' nb #[.int .i64 y.1.1, .int .i64 y.1.2, .int .i64 y.2.1, .int .i64 y.2.2] 106 ∧ MapV w' bm f') (by kernel_rfl) ⟨E6.out, ZB.out, E1.out.mp⟩ (fun hHeld => ?_)
          generalize World.drew (World.alloc _ (.cells #[.int .i64 y.1.1, .int .i64 y.1.2, .int .i64 y.2.1, .int .i64 y.2.2] 106)) = wd at *
          refine wpAnyH_take (i := 0) (oi := { dst := some 28, op := _, type := _, pos := _, after := _, guard := _ }) (v := ?_) rfl (by kernel_rfl) (by kernel_rfl) (by kernel_rfl) (fun _ _ _ h => h) (Or.inl ⟨by kernel_rfl, ?_⟩) hHeld ?_
          rotate_left
          · intro w hSw
            go_simp
            first | done | with_reducible rfl
          simp only [Act.put]
          try simp only [List.setIfInBounds_toArray]
          refine wpAnyH_take (i := 1) (oi := { dst := some 29, op := _, type := _, pos := _, after := _, guard := _ }) (v := ?_) rfl (by kernel_rfl) (by kernel_rfl) (by kernel_rfl) (fun _ _ _ h => h) (Or.inl ⟨by kernel_rfl, ?_⟩) hHeld ?_
          rotate_left
          · intro w hSw
            go_simp
            first | done | with_reducible rfl
          simp only [Act.put]
          try simp only [List.setIfInBounds_toArray]
          refine wpAnyH_take (i := 2) (oi := { dst := some 30, op := _, type := _, pos := _, after := _, guard := _ }) (v := ?_) rfl (by kernel_rfl) (by kernel_rfl) (by kernel_rfl) (fun _ _ _ h => h) (Or.inl ⟨by kernel_rfl, ?_⟩) hHeld ?_
          rotate_left
          · intro w hSw
            go_simp
            first | done | with_reducible rfl
          simp only [Act.put]
          try simp only [List.setIfInBounds_toArray]
          refine wpAnyH_take (i := 3) (oi := { dst := some 31, op := _, type := _, pos := _, after := _, guard := _ }) (v := ?_) rfl (by kernel_rfl) (by kernel_rfl) (by kernel_rfl) (fun _ _ _ h => h) (Or.inl ⟨by kernel_rfl, ?_⟩) hHeld ?_
          rotate_left
          · intro w hSw
            go_simp
            first | done | with_reducible rfl
          simp only [Act.put]
          try simp only [List.setIfInBounds_toArray]
          refine wpAnyH_take (i := 5) (oi := { dst := some 33, op := _, type := _, pos := _, after := _, guard := _ }) (v := ?_) rfl (by kernel_rfl) (by kernel_rfl) (by kernel_rfl) (fun _ _ _ h => h) (Or.inl ⟨by kernel_rfl, ?_⟩) hHeld ?_
          rotate_left
          · intro w hSw
            go_simp
            first | done | with_reducible rfl
          simp only [Act.put]
          try simp only [List.setIfInBounds_toArray]
          refine wpAnyH_take (i := 6) (oi := { dst := some 34, op := _, type := _, pos := _, after := _, guard := _ }) (v := ?_) rfl (by kernel_rfl) (by kernel_rfl) (by kernel_rfl) (fun _ _ _ h => h) (Or.inl ⟨by kernel_rfl, ?_⟩) hHeld ?_
          rotate_left
          · intro w hSw
            have d4 := hSw.1.cell 4
            unfold pwC at d4
            simp only [List.getElem?_toArray, List.getElem?_cons_zero, List.getElem?_cons_succ] at d4
            go_simp
            first | done | with_reducible rfl
          simp only [Act.put]
          try simp only [List.setIfInBounds_toArray]
          refine wpAnyH_take (i := 7) (oi := { dst := some 35, op := _, type := _, pos := _, after := _, guard := _ }) (v := ?_) rfl (by kernel_rfl) (by kernel_rfl) (by kernel_rfl) (fun _ _ _ h => h) (Or.inl ⟨by kernel_rfl, ?_⟩) hHeld ?_
          rotate_left
          · intro w hSw
            have x0 := hSw.2.1.cell 0
            have x1 := hSw.2.1.cell 1
            have x2 := hSw.2.1.cell 2
            have x3 := hSw.2.1.cell 3
            simp only [List.getElem?_toArray, List.getElem?_cons_zero, List.getElem?_cons_succ] at x0 x1 x2 x3
            go_simp
            first | done | with_reducible rfl
          simp only [Act.put]
          try simp only [List.setIfInBounds_toArray]
          refine wpAnyH_ready (rs := [4, 8]) (by decide +kernel) (by simp) ?_
          refine AllReadyH.cons rfl (fun K hK => ?_) (AllReadyH.cons rfl (fun K hK => ?_) AllReadyH.nil)
          · as_aux_lemma =>
            go_simp
            go_wp2_with fail
            refine hK.out _ _ hHeld (fun hHeld => ?_)
            clear hK K
            try simp only [Act.put]
            refine wpAnyH_take (i := 8) (oi := { dst := some 36, op := _, type := _, pos := _, after := _, guard := _ }) (v := ?_) rfl (by kernel_rfl) (by kernel_rfl) (by kernel_rfl) (fun _ _ _ h => h) (Or.inl ⟨by kernel_rfl, ?_⟩) hHeld ?_
            rotate_left
            · intro w hSw
              have hl := lookV_run1 hSw.2.2 y
              unfold ndV at hl
              go_simp
              first | done | with_reducible rfl
            simp only [Act.put]
            try simp only [List.setIfInBounds_toArray]
            have HRW := Lib.hid (E1.out.row y)
            generalize hl0 : (m' y).getD [] = l at *
            replace hl0 := Lib.hid hl0
            have HL2 : s.reverse.length + l.length ≤ 4000000000 := by
              have h9 := HLB.out
              rw [List.length_reverse]
              omega
            obtain ⟨v', w7, hr7, hv7, hg7, hat7⟩ := append_rows wd 151 E2.out HRW.out HL2 (Nat.le_trans hBB E4.out.size)
            clear HL2
            have P6 := Lib.hid (Blk.grown E6.out hg7 (own_blk E2.out E6.out typ_ne7))
            have PZ := Lib.hid (Blk.grown ZB.out hg7 (fun e => by have e : some g = some nb := e; injection e with e; have := HGL.out; omega))
            have P1 := Lib.hid (E1.out.grown hg7 R5.out (E1.out.own_ne E2.out))
            have P2 : Hid (NStk w7 BB v' (l.reverse ++ s)) := by
              show NRow _ _ _ _
              rw [List.reverse_append, List.reverse_reverse]
              exact hv7
            have P4 := Lib.hid (E4.out.grown hg7 (Nat.le_trans hBB E4.out.size) (fun k hk => (World.ownsRow.lt E2.out k hk).1))
            have P7 : Hid (∀ b cs, Blk w0 b cs 64 → Blk w7 b cs 64) := fun b cs h => Blk.grown (E7.out b cs h) hg7 (own_blk E2.out (E7.out b cs h) typ_ne7)
            have P5 : Hid (Apart f' v'.ownBlock) := by
              show Apart _ _
              rcases hat7 with e | e
              · rw [e]; exact R5.out
              · rw [e]; exact E1.out.apart_new (Nat.le_refl _)
            have HR7 := Lib.hid hr7
            clear hr7 hv7 hg7 hat7 E1 E2 E4 E6 E7 R5 ZB A2 HGL HRW
            refine wpAnyH_ready (rs := [9]) (by kernel_rfl) (by simp) ?_
            refine AllReadyH.cons rfl (fun K hK => ?_) AllReadyH.nil
            refine step_append_run rfl _ _ _ rfl _ _ v' (by simp [Act.eval]) (by simp [Act.eval]) HR7.out ?_
            refine hK.out _ _ ⟨P6.out, PZ.out, P1.out.mp⟩ (fun hHeld => ?_)
            clear hK K HR7
            try simp only [Act.put]
            refine wpAnyH_take (i := 10) (oi := { dst := some 4, op := .assign (.tmp 37), type := _, pos := _, after := _, guard := _ }) (v := ?_) rfl (by kernel_rfl) (by kernel_rfl) (by kernel_rfl) (fun _ _ _ h => h) (Or.inl ⟨by kernel_rfl, ?_⟩) hHeld ?_
            rotate_left
            · intro w hSw
              go_simp
              first | done | with_reducible rfl
            simp only [Act.put]
            try simp only [List.setIfInBounds_toArray]
            refine wpAnyH_done (by kernel_rfl) ?_ _
            clear hHeld
            have d4 := P6.out.cell 4
            have x0 := PZ.out.cell 0; have x1 := PZ.out.cell 1; have x2 := PZ.out.cell 2; have x3 := PZ.out.cell 3
            unfold pwC at d4
            simp only [List.getElem?_toArray, List.getElem?_cons_zero, List.getElem?_cons_succ] at d4 x0 x1 x2 x3
            obtain ⟨o, ho, hmv⟩ := deleteV_run P1.out.mp y
            have hs1 := fun k ty => ho k ty w7 rfl
            unfold ndV at hs1
            obtain ⟨es, c, hobj⟩ := P1.out.mp.obj
            have hnb : ∀ {b : Nat} {cs : Array Value} {t : TypeId}, Blk w7 b cs t → b ≠ bm := fun {b cs t} hb e => by
              subst e
              unfold Blk at hb
              rw [hobj] at hb
              cases hb
            have Q1 := Lib.hid (P1.out.del y (hmv w7 P1.out.mp.lt))
            have Q2 : Hid (NStk (setBlock w7 bm o) BB v' (l.reverse ++ s)) := own_setB P2.out (P1.out.own_ne P2.out) o
            have Q4 := Lib.hid (below_setB P4.out P1.out.lm o)
            have Q6 := Lib.hid (Blk.setB' P6.out (hnb P6.out) o)
            have Q7 : Hid (∀ b cs, Blk w0 b cs 64 → Blk (setBlock w7 bm o) b cs 64) := fun b cs h => Blk.setB' (P7.out b cs h) (hnb (P7.out b cs h)) o
            have Q5 : Hid (Apart (fun q => if y = q then none else f' q) v'.ownBlock) := Apart.sub P5.out (fun q u hq => by
              split at hq
              · cases hq
              · exact .inr hq)
            clear ho hmv hobj hnb P1 P2 P4 P5 P6 P7 PZ
            go_wp2_with fail
            have HM : sumV (uni2 G.length H.length 27) (mvIn (setBlock w7 bm o) bm) + lenOf v' < sumV (uni2 G.length H.length 27) (mvIn wr bm) + lenOf (.slice (some ⟨g, 0, none⟩) (s.length + 1) cap) := by
              rw [Q1.out.sum, HU.out, Q2.out.len]
              exact HP2.out
            exact ⟨⟨_, _, _, Q2, Q1, HP1, Q4, Q5, Q6, Q7⟩, HM⟩
          · as_aux_lemma =>
            have hl := lookV_run1 hHeld.2.2 y
            unfold ndV at hl
            go_simp
            refine hK.out _ _ hHeld (fun hHeld => ?_)
            clear hl hK K
            try simp only [Act.put]
            refine wpAnyH_ready (rs := [4]) (by kernel_rfl) (by simp) ?_
            refine AllReadyH.cons rfl (fun K hK => ?_) AllReadyH.nil
            go_simp
            go_wp2_with fail
            refine hK.out _ _ hHeld (fun hHeld => ?_)
            clear hK K
            try simp only [Act.put]
            have HRW := Lib.hid (E1.out.row y)
            generalize hl0 : (m' y).getD [] = l at *
            replace hl0 := Lib.hid hl0
            have HL2 : s.reverse.length + l.length ≤ 4000000000 := by
              have h9 := HLB.out
              rw [List.length_reverse]
              omega
            obtain ⟨v', w7, hr7, hv7, hg7, hat7⟩ := append_rows wd 151 E2.out HRW.out HL2 (Nat.le_trans hBB E4.out.size)
            clear HL2
            have P6 := Lib.hid (Blk.grown E6.out hg7 (own_blk E2.out E6.out typ_ne7))
            have PZ := Lib.hid (Blk.grown ZB.out hg7 (fun e => by have e : some g = some nb := e; injection e with e; have := HGL.out; omega))
            have P1 := Lib.hid (E1.out.grown hg7 R5.out (E1.out.own_ne E2.out))
            have P2 : Hid (NStk w7 BB v' (l.reverse ++ s)) := by
              show NRow _ _ _ _
              rw [List.reverse_append, List.reverse_reverse]
              exact hv7
            have P4 := Lib.hid (E4.out.grown hg7 (Nat.le_trans hBB E4.out.size) (fun k hk => (World.ownsRow.lt E2.out k hk).1))
            have P7 : Hid (∀ b cs, Blk w0 b cs 64 → Blk w7 b cs 64) := fun b cs h => Blk.grown (E7.out b cs h) hg7 (own_blk E2.out (E7.out b cs h) typ_ne7)
            have P5 : Hid (Apart f' v'.ownBlock) := by
              show Apart _ _
              rcases hat7 with e | e
              · rw [e]; exact R5.out
              · rw [e]; exact E1.out.apart_new (Nat.le_refl _)
            have HR7 := Lib.hid hr7
            clear hr7 hv7 hg7 hat7 E1 E2 E4 E6 E7 R5 ZB A2 HGL HRW
            refine wpAnyH_ready (rs := [9]) (by kernel_rfl) (by simp) ?_
            refine AllReadyH.cons rfl (fun K hK => ?_) AllReadyH.nil
            refine step_append_run rfl _ _ _ rfl _ _ v' (by simp [Act.eval]) (by simp [Act.eval]) HR7.out ?_
            refine hK.out _ _ ⟨P6.out, PZ.out, P1.out.mp⟩ (fun hHeld => ?_)
            clear hK K HR7
            try simp only [Act.put]
            refine wpAnyH_take (i := 10) (oi := { dst := some 4, op := .assign (.tmp 37), type := _, pos := _, after := _, guard := _ }) (v := ?_) rfl (by kernel_rfl) (by kernel_rfl) (by kernel_rfl) (fun _ _ _ h => h) (Or.inl ⟨by kernel_rfl, ?_⟩) hHeld ?_
            rotate_left
            · intro w hSw
              go_simp
              first | done | with_reducible rfl
            simp only [Act.put]
            try simp only [List.setIfInBounds_toArray]
            refine wpAnyH_done (by kernel_rfl) ?_ _
            clear hHeld
            have d4 := P6.out.cell 4
            have x0 := PZ.out.cell 0; have x1 := PZ.out.cell 1; have x2 := PZ.out.cell 2; have x3 := PZ.out.cell 3
            unfold pwC at d4
            simp only [List.getElem?_toArray, List.getElem?_cons_zero, List.getElem?_cons_succ] at d4 x0 x1 x2 x3
            obtain ⟨o, ho, hmv⟩ := deleteV_run P1.out.mp y
            have hs1 := fun k ty => ho k ty w7 rfl
            unfold ndV at hs1
            obtain ⟨es, c, hobj⟩ := P1.out.mp.obj
            have hnb : ∀ {b : Nat} {cs : Array Value} {t : TypeId}, Blk w7 b cs t → b ≠ bm := fun {b cs t} hb e => by
              subst e
              unfold Blk at hb
              rw [hobj] at hb
              cases hb
            have Q1 := Lib.hid (P1.out.del y (hmv w7 P1.out.mp.lt))
            have Q2 : Hid (NStk (setBlock w7 bm o) BB v' (l.reverse ++ s)) := own_setB P2.out (P1.out.own_ne P2.out) o
            have Q4 := Lib.hid (below_setB P4.out P1.out.lm o)
            have Q6 := Lib.hid (Blk.setB' P6.out (hnb P6.out) o)
            have Q7 : Hid (∀ b cs, Blk w0 b cs 64 → Blk (setBlock w7 bm o) b cs 64) := fun b cs h => Blk.setB' (P7.out b cs h) (hnb (P7.out b cs h)) o
            have Q5 : Hid (Apart (fun q => if y = q then none else f' q) v'.ownBlock) := Apart.sub P5.out (fun q u hq => by
              split at hq
              · cases hq
              · exact .inr hq)
            clear ho hmv hobj hnb P1 P2 P4 P5 P6 P7 PZ
            go_wp2_with fail
            have HM : sumV (uni2 G.length H.length 27) (mvIn (setBlock w7 bm o) bm) + lenOf v' < sumV (uni2 G.length H.length 27) (mvIn wr bm) + lenOf (.slice (some ⟨g, 0, none⟩) (s.length + 1) cap) := by
              rw [Q1.out.sum, HU.out, Q2.out.len]
              exact HP2.out
            exact ⟨⟨_, _, _, Q2, Q1, HP1, Q4, Q5, Q6, Q7⟩, HM⟩
end Go.Proofs.YtinjmdjnkneidaaGreatDoor
