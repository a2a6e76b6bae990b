/-
  The model's assignments: AssignPost.
-/
import Derived.Test.YtiaidahhlnaabaaAsgS
namespace Go.Proofs.Ytiaidahhlnaabaa
open Go.RowKit Tm

/-- The text of no state. -/
def z48 : List UInt8 := List.replicate 27 48

set_option maxRecDepth 100000 in
set_option maxHeartbeats 2000000 in
theorem specMany (w : World) : Calls Try.prog 38 #[.string ⟨#[48]⟩, .int .i64 27] w fun e w' => e = .returned (.string (bs z48)) ∧ w = w' := by
  go_enter Try.func38, Try.ntmps38
  go_wp2_with fail
  refine wp_loop_rounds 6 ?_
  rw [rounds_succ]
  go_wp2_with fail
  rw [rounds_succ]
  go_wp2_with fail
  rw [rounds_succ]
  go_wp2_with fail
  rw [rounds_succ]
  go_wp2_with fail
  rw [rounds_succ]
  go_wp2_with fail
  rw [rounds_succ]
  go_wp2_with fail
  go_ret
  exact ⟨rfl, rfl⟩

/-- The first cells of a block are these bytes, and may be written. -/
structure MBlk (w : World) (b : Nat) (l : List UInt8) : Prop where
  get : ∀ i (h : i < l.length), w.cell? ⟨b, i, none⟩ = some (.int .u8 (l[i].toNat : Int))
  free : ∀ i, i < l.length → w.frozen? ⟨b, i, none⟩ = false
  lt : b < w.heap.size
theorem MBlk.kept {w w' : World} {b : Nat} {l : List UInt8} (h : MBlk w b l) (hb : Below w.heap.size w w') : MBlk w' b l :=
  ⟨fun i hi => ckeep hb (h.get i hi), fun i hi => (hb.frozen (p := ⟨b, i, none⟩) h.lt).trans (h.free i hi), Nat.lt_of_lt_of_le h.lt hb.size⟩
theorem MBlk.set {w : World} {b : Nat} {l : List UInt8} (h : MBlk w b l) (i : Nat) (hi : i < l.length) (c : UInt8) : MBlk (w.setCell ⟨b, i, none⟩ (.int .u8 c.toNat)) b (l.set i c) := by
  refine ⟨fun j hj => ?_, fun j hj => ?_, ?_⟩
  · have hj2 : j < l.length := by simpa using hj
    by_cases e : i = j
    · subst e
      have := h.get i hi
      simp [go_sem, this]
    · rw [World.cell?_setCell_other _ _ _ _ (by intro e2; injection e2; omega), h.get j hj2, List.getElem_set_ne e]
  · have hj2 : j < l.length := by simpa using hj
    have := h.free j hj2
    simpa [go_sem] using this
  · have := h.lt
    simpa [World.setCell] using this
theorem bytesOf (w : World) (l : List UInt8) : ∃ cap W', (convert 9 47 (.string (bs l))).run Try.prog w = .ok (.slice (some ⟨w.heap.size, 0, none⟩) l.length cap) W' ∧ MBlk W' w.heap.size l ∧ Below w.heap.size w W' := by
  have h := run_bytes_of_string (P := Try.prog) w 9 47 5 (bs l) Try.underlying9 Try.underlying47 Try.underlying5
  rw [bs_size] at h
  obtain ⟨C, hC⟩ : ∃ C, C = bytesRow (bs l) (grownCap w l.length 0 5) := ⟨_, rfl⟩
  rw [← hC] at h
  have hget : ∀ i (hi : i < l.length), C[i]? = some (.int .u8 (l[i].toNat : Int)) := fun i hi => by
    rw [hC, bytesRow, Array.getElem?_append_left (by simpa [bs] using hi)]
    simp [bs, hi]
  have hsz : l.length ≤ C.size := by rw [hC, bytesRow]; simp [bs]
  have hbl : (w.drew.alloc (.cells C 5 (C.size, C.size + 1))).heap[w.heap.size]? = some (.cells C 5 (C.size, C.size + 1)) := by
    show (w.heap.push _)[w.heap.size]? = _
    simp
  refine ⟨_, _, h, ⟨?_, ?_, ?_⟩, ?_⟩
  · intro i hi
    rw [cell_of_row _ w.heap.size i C _ _ hbl]
    exact hget i hi
  · intro i hi
    have h2 : ¬ C.size ≤ i := by omega
    generalize w.drew.alloc (.cells C 5 (C.size, C.size + 1)) = W at hbl
    simp [World.frozen?, hbl, h2]
  · simp
  · exact ((Below.refl _ _).drew).alloc (Nat.le_refl _) _

theorem toStrM {w : World} {b : Nat} {l : List UInt8} (h : MBlk w b l) (n c : Nat) (hn : n = l.length) : (convert 47 9 (.slice (some ⟨b, 0, none⟩) n c)).run Try.prog w = .ok (.string (bs l)) w := by
  subst hn
  rw [run_convert_bytes_string _ _ _ 5 _ _ _ Try.underlying47 Try.underlying5 Try.underlying9]
  rw [run_bytesToString _ _ l.length c (l.map (fun c : UInt8 => (c.toNat : Int)))]
  · rw [fold_push]
    congr 2
  · have h2 := run_loadCells_list (w := w) (P := Try.prog) ⟨b, 0, none⟩ (l.map bv) (fun j v hj => by
      rw [List.getElem?_map] at hj
      have hlt : j < l.length := by
        rcases Nat.lt_or_ge j l.length with h | h
        · exact h
        · rw [List.getElem?_eq_none h] at hj; cases hj
      rw [List.getElem?_eq_getElem hlt] at hj
      simp at hj
      subst hj
      have e : (⟨b, 0, none⟩ : Addr).add j = ⟨b, j, none⟩ := by
        by_cases h0 : j = 0 <;> simp [Addr.add, h0]
      rw [e]
      exact h.get j hlt)
    simp at h2
    rw [h2]
    simp [bv, List.map_map, Function.comp_def]

theorem tbn_set (n : Nat) (G : Nat → Bool) (a : Nat) (ha : a < n) : (tbn n G).set a 49 = tbn n (fun j => G j || j == a) := by
  apply List.ext_getElem?
  intro i
  by_cases hi : i < n
  · rw [tbn_get n _ i hi, List.getElem?_set]
    by_cases e : a = i
    · subst e; simp [tbn_length, ha, bitc]
    · rw [if_neg e, tbn_get n G i hi]
      have : (i == a) = false := by rw [beq_eq_false_iff_ne]; omega
      simp [this]
  · rw [List.getElem?_eq_none (by simp [tbn_length]; omega), List.getElem?_eq_none (by rw [tbn_length]; omega)]
theorem imgL_zero (F : Nat → Bool) (st : Nat → Nat) : tbn 27 (imgF F st 0) = z48 := by
  rw [tbn_congr (G := fun _ => false) (fun i _ => by simp [imgF])]; rfl
theorem imgL_one {F : Nat → Bool} {st : Nat → Nat} {k : Nat} (h : F k = true) (ha : st k < 27) : (tbn 27 (imgF F st k)).set (st k) 49 = tbn 27 (imgF F st (k + 1)) := by
  rw [tbn_set 27 _ _ ha]
  apply tbn_congr
  intro i _
  rw [imgF_succ, h, Bool.true_and]
  congr 1
  rw [Bool.eq_iff_iff, beq_iff_eq, beq_iff_eq]; exact eq_comm
theorem imgL_nil {F : Nat → Bool} {st : Nat → Nat} {k : Nat} (h : F k = false) : tbn 27 (imgF F st k) = tbn 27 (imgF F st (k + 1)) := tbn_congr fun i _ => by
  rw [imgF_succ, h, Bool.false_and, Bool.or_false]

set_option maxRecDepth 100000 in
set_option maxHeartbeats 4000000 in
theorem specApost_yes (p v e : ByteArray) (w : World) (c : UInt8) (j : Nat) (hp : Set27 p) (hv : v = ⟨#[c]⟩) (hj : VarAt c j) {t : Tm} (ht : Ok false false t) (he : e.data.toList = t.ser) (hl : e.size ≤ 200) :
    Calls Try.prog 15 #[.string p, .string v, .string e] w fun e w' => e = .returned (.tuple #[.string (bs (tb (imgF (hs p.data.toList) (asg c t) 27))), .bool true]) ∧ Below w.heap.size w w' := by
  subst hv
  have C1 := fun w => Lib.hid (specPredValid_yes p w hp)
  have C2 := fun w => Lib.hid (specVar_yes c j w hj)
  have C3 := fun w => Lib.hid (specExpr_yes e w ⟨t, ht, he⟩ hl)
  have C4 := fun w => Lib.hid (specMany w)
  have A := fun i hi w => Lib.hid (specAsg c j hj e ht he hl i hi w)
  obtain ⟨hj3, hj0, hjd⟩ := varAt_bd hj
  have hp27 : p.size = 27 := by have := hp.1; simpa using this
  have HP := Lib.hid hp
  clear hp he hj
  go_enter Try.func15, Try.ntmps15
  go_wp2_with fail
  refine (C1 _).out.mono ?_
  rintro e w' ⟨rfl, rfl⟩
  go_wp2_with fail
  refine (C2 _).out.mono ?_
  rintro e w' ⟨rfl, rfl⟩
  go_wp2_with fail
  refine (C3 _).out.mono ?_
  rintro e w1 ⟨rfl, m, rfl⟩
  go_wp2_with fail
  refine (C4 _).out.mono ?_
  rintro e w' ⟨rfl, rfl⟩
  obtain ⟨cap, W0, hcv, hM, hB⟩ := bytesOf (w.drewN m) z48
  rw [show z48.length = 27 from rfl] at hcv
  have HM := Lib.hid hM
  have HB0 := Lib.hid (bnext (bdrewN (Below.refl w.heap.size w) m) hB)
  rw [show (w.drewN m).heap.size = w.heap.size from rfl] at HM hcv
  clear hM hB
  go_wp2_with fail
  go_loopw [9] (fun i wr => ∃ k : Nat, k ≤ 27 ∧ i = .int .i64 k ∧ MBlk wr w.heap.size (tbn 27 (imgF (hs p.data.toList) (asg c t) k)) ∧ Below w.heap.size w wr) (fun i _ => 27 - (intOf i).toNat)
  case atStart => exact ⟨0, by omega, rfl, by rw [imgL_zero]; exact HM.out, HB0.out⟩
  case round =>
    clear HM HB0 hcv
    obtain ⟨k, hk, rfl, hpt, hb⟩ := hrel
    by_cases hlt : k < 27
    · have HT := Lib.hid hpt
      have HB := Lib.hid hb
      clear hpt hb
      have hkp : k < p.size := by omega
      have hgk := hs_int p k hkp
      cases hF : hs p.data.toList k
      · have hn : ((p[k].toNat : Int) == 49) = false := by rw [← hgk, hF]
        have HL := Lib.hid (imgL_nil (st := asg c t) hF)
        clear hgk hF
        go_wp2_with fail
        exact ⟨⟨k + 1, by omega, by go_num, by rw [← HL.out]; exact HT.out, HB.out⟩, by simp [intOf]; omega⟩
      · have hn : ((p[k].toNat : Int) == 49) = true := by rw [← hgk, hF]
        have HL := Lib.hid (imgL_one (st := asg c t) hF (asg_lt ht hlt))
        clear hgk hF
        have C := fun w => Lib.hid (specAt0 k w (by omega) (by omega))
        have D := fun w => A k hlt w
        have hv := val_env ht hlt
        have ha := asg_lt (c := c) ht hlt
        have I := fun w => Lib.hid (specIx0 _ _ _ w (set_st3 (c := c) hv hlt))
        rw [← (ixx_lt (set_st3 (c := c) hv hlt)).2, ← setN_eq] at I
        rw [show setN c (val (env k) t) k = asg c t k from rfl] at I
        obtain ⟨a, hae⟩ : ∃ a, a = asg c t k := ⟨_, rfl⟩
        rw [← hae] at I ha
        have HE := Lib.hid hae
        clear hv hae
        go_wp2_with fail
        refine (C _).out.mono ?_
        rintro e w1 ⟨rfl, hb⟩
        have HB1 := Lib.hid (bnext HB.out hb)
        have HT1 := Lib.hid (HT.out.kept hb)
        clear hb
        go_wp2_with fail
        refine (C2 _).out.mono ?_
        rintro e w' ⟨rfl, rfl⟩
        go_wp2_with fail
        refine (D _).out.mono ?_
        rintro e w2 ⟨rfl, hb⟩
        have HB2 := Lib.hid (bnext HB1.out hb)
        have HT2 := Lib.hid (HT1.out.kept hb)
        clear hb
        go_wp2_with fail
        refine (I _).out.mono ?_
        rintro e w3 ⟨rfl, hb⟩
        have HB3 := Lib.hid (bnext HB2.out hb)
        have HT3 := Lib.hid (HT2.out.kept hb)
        clear hb
        have hc := HT3.out.get a (by rw [tbn_length]; exact ha)
        have hf := HT3.out.free a (by rw [tbn_length]; exact ha)
        generalize ((tbn 27 (imgF (hs p.data.toList) (asg c t) k))[a]'_).toNat = old at hc
        go_wp2_with fail
        refine ⟨⟨k + 1, by omega, by go_num, ?_, HB3.out.setCell (p := ⟨w.heap.size, a, none⟩) (Nat.le_refl _) _⟩, by simp [intOf]; omega⟩
        have h9 := HT3.out.set a (by rw [tbn_length]; exact ha) 49
        rw [← HL.out, ← HE.out]
        exact h9
    · have hk2 : k = 27 := by omega
      subst hk2
      have HB := Lib.hid hb
      have hv := toStrM hpt 27 cap (tbn_length 27 _).symm
      clear hpt hb hlt
      go_wp2_with fail
      go_ret2
      exact ⟨rfl, HB.out⟩
set_option maxHeartbeats 2000000 in
theorem specApost_p (p v e : ByteArray) (w : World) (hp : ¬ Set27 p) (hm : p.size ≤ maxLen) :
    Calls Try.prog 15 #[.string p, .string v, .string e] w fun e w' => e = .returned (.tuple #[.string (bs []), .bool false]) ∧ Below w.heap.size w w' := by
  have C1 := fun w => Lib.hid (specPredValid_no p w hp hm)
  clear hp
  go_enter Try.func15, Try.ntmps15
  go_wp2_with fail
  refine (C1 _).out.mono ?_
  rintro e w' ⟨rfl, rfl⟩
  go_wp2_with fail
  go_ret2
  exact ⟨rfl, Below.refl _ _⟩
set_option maxHeartbeats 2000000 in
theorem specApost_v (p v e : ByteArray) (w : World) (hp : Set27 p) (hv : ¬ IsVar v) (hm : v.size ≤ maxLen) :
    Calls Try.prog 15 #[.string p, .string v, .string e] w fun e w' => e = .returned (.tuple #[.string (bs []), .bool false]) ∧ Below w.heap.size w w' := by
  have C1 := fun w => Lib.hid (specPredValid_yes p w hp)
  have C2 := fun w => Lib.hid (specVar_no v w hm hv)
  clear hv
  go_enter Try.func15, Try.ntmps15
  go_wp2_with fail
  refine (C1 _).out.mono ?_
  rintro e w' ⟨rfl, rfl⟩
  go_wp2_with fail
  refine (C2 _).out.mono ?_
  rintro e w' ⟨rfl, rfl⟩
  go_wp2_with fail
  go_ret2
  exact ⟨rfl, Below.refl _ _⟩
set_option maxHeartbeats 2000000 in
theorem specApost_e (p v e : ByteArray) (w : World) (hp : Set27 p) (hv : IsVar v) (he : ¬ (Valid false false e.data.toList ∧ e.size ≤ 200)) :
    Calls Try.prog 15 #[.string p, .string v, .string e] w fun e w' => e = .returned (.tuple #[.string (bs []), .bool false]) ∧ Below w.heap.size w w' := by
  obtain ⟨c, j, rfl, hj, _⟩ := var_at hv
  have C1 := fun w => Lib.hid (specPredValid_yes p w hp)
  have C2 := fun w => Lib.hid (specVar_yes c j w hj)
  have C3 := fun w => Lib.hid (specExpr_no e w he)
  obtain ⟨hj3, hj0, hjd⟩ := varAt_bd hj
  clear hv he hj
  go_enter Try.func15, Try.ntmps15
  go_wp2_with fail
  refine (C1 _).out.mono ?_
  rintro e w' ⟨rfl, rfl⟩
  go_wp2_with fail
  refine (C2 _).out.mono ?_
  rintro e w' ⟨rfl, rfl⟩
  go_wp2_with fail
  refine (C3 _).out.mono ?_
  rintro e w1 ⟨rfl, m, rfl⟩
  go_wp2_with fail
  go_ret2
  exact ⟨rfl, bdrewN (Below.refl _ _) m⟩
theorem specApost_no (p v e : ByteArray) (w : World) (hm : p.size ≤ maxLen) (hm2 : v.size ≤ maxLen) (h : ¬ (Set27 p ∧ IsVar v ∧ Valid false false e.data.toList ∧ e.size ≤ 200)) :
    Calls Try.prog 15 #[.string p, .string v, .string e] w fun e w' => e = .returned (.tuple #[.string (bs []), .bool false]) ∧ Below w.heap.size w w' := by
  by_cases hp : Set27 p
  · by_cases hv : IsVar v
    · exact specApost_e p v e w hp hv (fun he => h ⟨hp, hv, he⟩)
    · exact specApost_v p v e w hp hv hm2
  · exact specApost_p p v e w hp hm
end Go.Proofs.Ytiaidahhlnaabaa
