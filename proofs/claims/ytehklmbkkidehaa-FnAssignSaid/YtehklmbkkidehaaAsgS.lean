/-
  The model's assignments: l2With, l2Assign, AssignPre, AssignPost.
-/
import Derived.Test.YtehklmbkkidehaaAsgR
import Derived.Test.YtehklmbkkidehaaSpecValid
namespace Go.Proofs.Ytehklmbkkidehaa
open Go.RowKit Tm

/-- The place of a variable's letter. -/
def VarAt (c : UInt8) (j : Nat) : Prop := (c = 120 ∧ j = 0) ∨ (c = 121 ∧ j = 1) ∨ (c = 122 ∧ j = 2)
def setX (c : UInt8) (n : Int) (i : Int) : Int := if c = 120 then n else ax i
def setY (c : UInt8) (n : Int) (i : Int) : Int := if c = 120 then ay i else if c = 121 then n else ay i
def setZ (c : UInt8) (n : Int) (i : Int) : Int := if c = 120 then az i else if c = 121 then az i else n
theorem setN_eq (c : UInt8) (n : Int) (i : Nat) : setN c n i = ixx (setX c n i) (setY c n i) (setZ c n i) := by
  unfold setN setX setY setZ
  split
  · rfl
  · split <;> rfl
theorem set_st3 {c : UInt8} {n : Int} {i : Nat} (hn : val3 n = true) (hi : i < 27) : st3 (setX c n i) (setY c n i) (setZ c n i) = true := by
  obtain ⟨hx, hy, hz⟩ := st3_parts (at_st3 (i := (i : Int)) (by omega) (by omega))
  unfold setX setY setZ
  split
  · exact st3_of hn hy hz
  · split
    · exact st3_of hx hn hz
    · exact st3_of hx hy hn

set_option maxHeartbeats 2000000 in
theorem specWith_of (x y z p q r n : Int) (j : Nat) (w : World)
    (C : ∀ w, Calls Try.prog 71 #[.agg #[.int .i64 x, .int .i64 y, .int .i64 z, .int .i64 0, .int .i64 0, .int .i64 0], .int .i64 j, .int .i64 n] w fun e w' => e = .returned (.agg #[.int .i64 p, .int .i64 q, .int .i64 r, .int .i64 0, .int .i64 0, .int .i64 0]) ∧ Below w.heap.size w w') :
    Calls Try.prog 59 #[.agg #[.int .i64 x, .int .i64 y, .int .i64 z], .int .i64 j, .int .i64 n] w fun e w' => e = .returned (.agg #[.int .i64 p, .int .i64 q, .int .i64 r]) ∧ Below w.heap.size w w' := by
  have C' := Lib.hid C
  clear C
  go_enter Try.func59, Try.ntmps59
  go_wp2_with fail
  have HB0 := Lib.hid ((Below.refl _ w).alloc (Nat.le_refl _) (.cells #[.int .i64 x, .int .i64 y, .int .i64 z] 30))
  have HK0 := Lib.hid (Blk.new w #[.int .i64 x, .int .i64 y, .int .i64 z] 30)
  have HB1 := Lib.hid (bput HB0.out (.cells #[.int .i64 0, .int .i64 0, .int .i64 0] 30))
  have HK1 := Lib.hid (Blk.new (w.alloc (.cells #[.int .i64 x, .int .i64 y, .int .i64 z] 30)) #[.int .i64 0, .int .i64 0, .int .i64 0] 30)
  generalize (w.alloc (.cells #[.int .i64 x, .int .i64 y, .int .i64 z] 30)).alloc (.cells #[.int .i64 0, .int .i64 0, .int .i64 0] 30) = w0 at *
  rw [show (w.alloc (.cells #[.int .i64 x, .int .i64 y, .int .i64 z] 30)).heap.size = w.heap.size + 1 by simp] at HK1
  refine (specOneS _ _ _ _).mono ?_
  rintro e w1 ⟨rfl, hb⟩
  have HB2 := Lib.hid (bnext HB1.out hb)
  have HK2 := Lib.hid (HK1.out.kept hb)
  clear hb
  go_wp2_with fail
  refine (C'.out _).mono ?_
  rintro e w2 ⟨rfl, hb⟩
  have HB3 := Lib.hid (bnext HB2.out hb)
  have HK3 := Lib.hid (HK2.out.kept hb)
  clear hb
  go_wp2_with fail
  refine (specStateS _ _ _ _ _ _ _).mono ?_
  rintro e w3 ⟨rfl, hb⟩
  have HB4 := Lib.hid (bnext HB3.out hb)
  have HK4 := Lib.hid (HK3.out.kept hb)
  clear hb
  obtain ⟨q0, q1, q2, f0, f1, f2⟩ := HK4.out.a3
  go_wp2_with fail
  exact bodyPost_ret (v := .agg #[.int .i64 p, .int .i64 q, .int .i64 r]) (by simp [results, Try.results59, go_sem, q0, q1, q2]) rfl ⟨rfl, by (repeat refine Below.setCell ?_ (by simp) _); exact HB4.out⟩

theorem specWith (c : UInt8) (j : Nat) (h : VarAt c j) (n : Int) (i : Nat) (w : World) :
    Calls Try.prog 59 #[.agg #[.int .i64 (ax i), .int .i64 (ay i), .int .i64 (az i)], .int .i64 j, .int .i64 n] w fun e w' => e = .returned (.agg #[.int .i64 (setX c n i), .int .i64 (setY c n i), .int .i64 (setZ c n i)]) ∧ Below w.heap.size w w' := by
  rcases h with ⟨rfl, rfl⟩ | ⟨rfl, rfl⟩ | ⟨rfl, rfl⟩
  · exact specWith_of _ _ _ n (ay i) (az i) n 0 w (fun w => specSetS0 _ _ _ _ _ _ _ w)
  · exact specWith_of _ _ _ (ax i) n (az i) n 1 w (fun w => specSetS1 _ _ _ _ _ _ _ w)
  · exact specWith_of _ _ _ (ax i) (ay i) n n 2 w (fun w => specSetS2 _ _ _ _ _ _ _ w)

set_option maxHeartbeats 2000000 in
theorem specAsg (c : UInt8) (j : Nat) (h : VarAt c j) (e : ByteArray) {t : Tm} (ht : Ok false false t) (he : e.data.toList = t.ser) (hl : e.size ≤ 200) (i : Nat) (hi : i < 27) (w : World) :
    Calls Try.prog 31 #[.agg #[.int .i64 (ax i), .int .i64 (ay i), .int .i64 (az i)], .int .i64 j, .string e] w fun e w' => e = .returned (.agg #[.int .i64 (setX c (val (env i) t) i), .int .i64 (setY c (val (env i) t) i), .int .i64 (setZ c (val (env i) t) i)]) ∧ Below w.heap.size w w' := by
  have hat := at_st3 (i := (i : Int)) (by omega) (by omega)
  have V := fun w => Lib.hid (spv_any (env i) (one_bd hat) e (by omega) t 0 [] w (ok_wide ht) (by rw [List.drop_zero, List.append_nil]; exact he))
  have W := fun w => Lib.hid (specWith c j h (val (env i) t) i w)
  have O := fun w => Lib.hid (specOne (ax i) (ay i) (az i) w)
  clear hat he h
  go_enter Try.func31, Try.ntmps31
  go_wp2_with fail
  have HB0 := Lib.hid ((Below.refl _ w).alloc (Nat.le_refl _) (.cells #[.int .i64 (ax i), .int .i64 (ay i), .int .i64 (az i)] 30))
  have HK0 := Lib.hid ((Blk.new w #[.int .i64 (ax i), .int .i64 (ay i), .int .i64 (az i)] 30).alloc (.cells #[.int .i64 0, .int .i64 0, .int .i64 0] 30))
  have HB1 := Lib.hid (bput HB0.out (.cells #[.int .i64 0, .int .i64 0, .int .i64 0] 30))
  have HK1 := Lib.hid (Blk.new (w.alloc (.cells #[.int .i64 (ax i), .int .i64 (ay i), .int .i64 (az i)] 30)) #[.int .i64 0, .int .i64 0, .int .i64 0] 30)
  generalize (w.alloc (.cells #[.int .i64 (ax i), .int .i64 (ay i), .int .i64 (az i)] 30)).alloc (.cells #[.int .i64 0, .int .i64 0, .int .i64 0] 30) = w0 at *
  rw [show (w.alloc (.cells #[.int .i64 (ax i), .int .i64 (ay i), .int .i64 (az i)] 30)).heap.size = w.heap.size + 1 by simp] at HK1
  refine (O _).out.mono ?_
  rintro e w1 ⟨rfl, hb⟩
  have HB2 := Lib.hid (bnext HB1.out hb)
  have HK2 := Lib.hid (HK1.out.kept hb)
  have HL2 := Lib.hid (HK0.out.kept hb)
  clear hb
  go_wp2_with fail
  refine (V _).out.mono ?_
  rintro e w2 ⟨rfl, hb⟩
  have HB3 := Lib.hid (bnext HB2.out hb)
  have HK3 := Lib.hid (HK2.out.kept hb)
  have HL3 := Lib.hid (HL2.out.kept hb)
  clear hb
  obtain ⟨r0, r1, r2⟩ := HL3.out.c3
  go_wp2_with fail
  clear r0 r1 r2
  refine (W _).out.mono ?_
  rintro e w3 ⟨rfl, hb⟩
  have HB4 := Lib.hid (bnext HB3.out hb)
  have HK4 := Lib.hid (HK3.out.kept hb)
  clear hb
  obtain ⟨q0, q1, q2, f0, f1, f2⟩ := HK4.out.a3
  go_wp2_with fail
  exact bodyPost_ret (v := .agg #[.int .i64 (setX c (val (env i) t) i), .int .i64 (setY c (val (env i) t) i), .int .i64 (setZ c (val (env i) t) i)]) (by simp [results, Try.results31, go_sem, q0, q1, q2]) rfl ⟨rfl, by (repeat refine Below.setCell ?_ (by simp) _); exact HB4.out⟩

theorem hs_byte {s : ByteArray} {n : Nat} (h : Bits n s.data.toList) (k : Nat) (hk : k < s.size) : s[k] = bitc (hs s.data.toList k) := hs_cases h (by simpa using hk)

set_option maxRecDepth 100000 in
set_option maxHeartbeats 2000000 in
theorem specApre_yes (p v e : ByteArray) (w : World) (c : UInt8) (j : Nat) (hp : Set27 p) (hv : v = ⟨#[c]⟩) (hj : VarAt c j) {t : Tm} (ht : Ok false false t) (he : e.data.toList = t.ser) (hl : e.size ≤ 200) :
    Calls Try.prog 7 #[.string p, .string v, .string e] w fun e w' => e = .returned (.tuple #[.string (bs (tb (fun i => hs p.data.toList (asg c t i)))), .bool true]) ∧ Below w.heap.size w w' := by
  subst hv
  have C1 := fun w => Lib.hid (specPredValid_yes p w hp)
  have C2 := fun w => Lib.hid (specVar_yes c j w hj)
  have C3 := fun w => Lib.hid (specExpr_yes e w ⟨t, ht, he⟩ hl)
  have A := fun i hi w => Lib.hid (specAsg c j hj e ht he hl i hi w)
  have hmk : ∀ w, (Instr.makeSlice 22 (.int .i64 27) (.int .i64 27)).run Try.prog w = .ok (.slice (some ⟨w.heap.size, 0, none⟩) 27 27) (w.alloc (.cells (u8s (zs 27)) 5)) := fun w => mkBytes 27 (by omega) w
  have hj3 : (j : Int) < 3 := by rcases hj with ⟨_, rfl⟩ | ⟨_, rfl⟩ | ⟨_, rfl⟩ <;> decide
  have hj0 : (0 : Int) ≤ j := by omega
  have hjd : decide ((j : Int) < 0) = false := decide_eq_false (by omega)
  have hp27 : p.size = 27 := by have := hp.1; simpa using this
  have HP := Lib.hid hp
  clear hp he hj
  go_enter Try.func7, Try.ntmps7
  go_wp2_with fail
  refine (C1 _).out.mono ?_
  rintro e w' ⟨rfl, rfl⟩
  go_wp2_with fail
  refine (C2 _).out.mono ?_
  rintro e w' ⟨rfl, rfl⟩
  go_wp2_with fail
  refine (C3 _).out.mono ?_
  rintro e w1 ⟨rfl, m, rfl⟩
  go_wp2_with fail
  have HT0 := Lib.hid (BBlk.made 27 (w.drewN m))
  have HB0 := Lib.hid ((bdrewN (Below.refl w.heap.size w) m).alloc (Nat.le_refl _) (.cells (u8s (zs 27)) 5))
  have hsz : (w.drewN m).heap.size = w.heap.size := rfl
  rw [hsz] at HT0
  generalize (w.drewN m).alloc (.cells (u8s (zs 27)) 5) = w0 at *
  clear hsz
  go_loopw [9] (fun i wr => ∃ k : Nat, k ≤ 27 ∧ i = .int .i64 k ∧ BBlk wr w.heap.size (part 27 k (fun i => hs p.data.toList (asg c t i))) ∧ Below w.heap.size w wr) (fun i _ => 27 - (intOf i).toNat)
  case atStart => exact ⟨0, by omega, rfl, HT0.out, HB0.out⟩
  case round =>
    clear HT0 HB0
    obtain ⟨k, hk, rfl, hpt, hb⟩ := hrel
    by_cases hlt : k < 27
    · have HT := Lib.hid hpt
      have HB := Lib.hid hb
      have HS := Lib.hid (part_step 27 k (fun i => hs p.data.toList (asg c t i)) hlt)
      have hl := Lib.hid (part_len 27 k (fun i => hs p.data.toList (asg c t i)) (by omega))
      clear hpt hb
      have C := fun w => Lib.hid (specAt0 k w (by omega) (by omega))
      have D := fun w => A k hlt w
      have hv := val_env ht hlt
      have ha := asg_lt (c := c) ht hlt
      have I := fun w => Lib.hid (specIx0 _ _ _ w (set_st3 (c := c) hv hlt))
      rw [← (ixx_lt (set_st3 (c := c) hv hlt)).2, ← setN_eq] at I
      rw [show setN c (val (env k) t) k = asg c t k from rfl] at I
      obtain ⟨a, hae⟩ : ∃ a, a = asg c t k := ⟨_, rfl⟩
      rw [← hae] at I ha
      have hap : a < p.size := by omega
      have HG := Lib.hid (hs_byte HP.out a hap)
      have HE := Lib.hid hae
      clear hv hae
      go_wp2_with fail
      refine (C _).out.mono ?_
      rintro e w1 ⟨rfl, hb⟩
      have HB1 := Lib.hid (bnext HB.out hb)
      have HT1 := Lib.hid (HT.out.kept hb)
      clear hb
      go_wp2_with fail
      refine (C2 _).out.mono ?_
      rintro e w' ⟨rfl, rfl⟩
      go_wp2_with fail
      refine (D _).out.mono ?_
      rintro e w2 ⟨rfl, hb⟩
      have HB2 := Lib.hid (bnext HB1.out hb)
      have HT2 := Lib.hid (HT1.out.kept hb)
      clear hb
      go_wp2_with fail
      refine (I _).out.mono ?_
      rintro e w3 ⟨rfl, hb⟩
      have HB3 := Lib.hid (bnext HB2.out hb)
      have HT3 := Lib.hid (HT2.out.kept hb)
      clear hb
      obtain ⟨old, hc⟩ := HT3.out.some k (by rw [hl.out]; omega)
      have hf := HT3.out.free k
      go_wp2_with fail
      refine ⟨⟨k + 1, by omega, by go_num, ?_, HB3.out.setCell (p := ⟨w.heap.size, k, none⟩) (Nat.le_refl _) _⟩, by simp [intOf]; omega⟩
      have h9 := HT3.out.set k (bitc (hs p.data.toList a))
      rw [HE.out] at h9
      rw [← HS.out, HG.out, HE.out]
      exact h9
    · have hk2 : k = 27 := by omega
      subst hk2
      have HB := Lib.hid hb
      have hv := toStr hpt 27 27 (part_len 27 27 _ (by omega)).symm
      rw [part_all] at hv
      clear hpt hb hlt
      go_wp2_with fail
      go_ret2
      exact ⟨rfl, HB.out⟩

set_option maxHeartbeats 2000000 in
theorem specApre_p (p v e : ByteArray) (w : World) (hp : ¬ Set27 p) (hm : p.size ≤ maxLen) :
    Calls Try.prog 7 #[.string p, .string v, .string e] w fun e w' => e = .returned (.tuple #[.string (bs []), .bool false]) ∧ Below w.heap.size w w' := by
  have C1 := fun w => Lib.hid (specPredValid_no p w hp hm)
  clear hp
  go_enter Try.func7, Try.ntmps7
  go_wp2_with fail
  refine (C1 _).out.mono ?_
  rintro e w' ⟨rfl, rfl⟩
  go_wp2_with fail
  go_ret2
  exact ⟨rfl, Below.refl _ _⟩
set_option maxHeartbeats 2000000 in
theorem specApre_v (p v e : ByteArray) (w : World) (hp : Set27 p) (hv : ¬ IsVar v) (hm : v.size ≤ maxLen) :
    Calls Try.prog 7 #[.string p, .string v, .string e] w fun e w' => e = .returned (.tuple #[.string (bs []), .bool false]) ∧ Below w.heap.size w w' := by
  have C1 := fun w => Lib.hid (specPredValid_yes p w hp)
  have C2 := fun w => Lib.hid (specVar_no v w hm hv)
  clear hv
  go_enter Try.func7, Try.ntmps7
  go_wp2_with fail
  refine (C1 _).out.mono ?_
  rintro e w' ⟨rfl, rfl⟩
  go_wp2_with fail
  refine (C2 _).out.mono ?_
  rintro e w' ⟨rfl, rfl⟩
  go_wp2_with fail
  go_ret2
  exact ⟨rfl, Below.refl _ _⟩
theorem var_at {v : ByteArray} (h : IsVar v) : ∃ c j, v = ⟨#[c]⟩ ∧ VarAt c j ∧ (c = 120 ∨ c = 121 ∨ c = 122) := by
  rcases h with rfl | rfl | rfl
  · exact ⟨120, 0, rfl, .inl ⟨rfl, rfl⟩, .inl rfl⟩
  · exact ⟨121, 1, rfl, .inr (.inl ⟨rfl, rfl⟩), .inr (.inl rfl)⟩
  · exact ⟨122, 2, rfl, .inr (.inr ⟨rfl, rfl⟩), .inr (.inr rfl)⟩
theorem varAt_bd {c : UInt8} {j : Nat} (h : VarAt c j) : (j : Int) < 3 ∧ (0 : Int) ≤ j ∧ decide ((j : Int) < 0) = false :=
  ⟨by rcases h with ⟨_, rfl⟩ | ⟨_, rfl⟩ | ⟨_, rfl⟩ <;> decide, by omega, decide_eq_false (by omega)⟩
set_option maxHeartbeats 2000000 in
theorem specApre_e (p v e : ByteArray) (w : World) (hp : Set27 p) (hv : IsVar v) (he : ¬ (Valid false false e.data.toList ∧ e.size ≤ 200)) :
    Calls Try.prog 7 #[.string p, .string v, .string e] w fun e w' => e = .returned (.tuple #[.string (bs []), .bool false]) ∧ Below w.heap.size w w' := by
  obtain ⟨c, j, rfl, hj, _⟩ := var_at hv
  have C1 := fun w => Lib.hid (specPredValid_yes p w hp)
  have C2 := fun w => Lib.hid (specVar_yes c j w hj)
  have C3 := fun w => Lib.hid (specExpr_no e w he)
  obtain ⟨hj3, hj0, hjd⟩ := varAt_bd hj
  clear hv he hj
  go_enter Try.func7, Try.ntmps7
  go_wp2_with fail
  refine (C1 _).out.mono ?_
  rintro e w' ⟨rfl, rfl⟩
  go_wp2_with fail
  refine (C2 _).out.mono ?_
  rintro e w' ⟨rfl, rfl⟩
  go_wp2_with fail
  refine (C3 _).out.mono ?_
  rintro e w1 ⟨rfl, m, rfl⟩
  go_wp2_with fail
  go_ret2
  exact ⟨rfl, bdrewN (Below.refl _ _) m⟩
theorem specApre_no (p v e : ByteArray) (w : World) (hm : p.size ≤ maxLen) (hm2 : v.size ≤ maxLen) (h : ¬ (Set27 p ∧ IsVar v ∧ Valid false false e.data.toList ∧ e.size ≤ 200)) :
    Calls Try.prog 7 #[.string p, .string v, .string e] w fun e w' => e = .returned (.tuple #[.string (bs []), .bool false]) ∧ Below w.heap.size w w' := by
  by_cases hp : Set27 p
  · by_cases hv : IsVar v
    · exact specApre_e p v e w hp hv (fun he => h ⟨hp, hv, he⟩)
    · exact specApre_v p v e w hp hv hm2
  · exact specApre_p p v e w hp hm
end Go.Proofs.Ytehklmbkkidehaa
