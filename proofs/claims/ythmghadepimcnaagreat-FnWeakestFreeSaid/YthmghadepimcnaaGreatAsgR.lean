/-
  Reading the arguments of the functions on assignments; AssignPre and AssignPost of the program.
-/
import Derived.Test.YthmghadepimcnaaGreatImg
import Derived.Test.YthmghadepimcnaaGreatRead
namespace Go.Proofs.YthmghadepimcnaaGreat
open Go.RowKit Tm

def ixx (x y z : Int) : Nat := (x + 3 * y + 9 * z).toNat
/-- The number of a state in which a variable has another value. -/
def setN (c : UInt8) (n : Int) (i : Nat) : Nat := if c = 120 then ixx n (ay i) (az i) else if c = 121 then ixx (ax i) n (az i) else ixx (ax i) (ay i) n
/-- One assignment as a step from number to number. -/
def asg (c : UInt8) (t : Tm) (i : Nat) : Nat := setN c (val (env i) t) i

theorem ixx_lt {x y z : Int} (h : st3 x y z = true) : ixx x y z < 27 ∧ ((ixx x y z : Nat) : Int) = x + 3 * y + 9 * z := by
  have h := st3_lt h
  unfold ixx; omega
theorem st3_parts {x y z : Int} (h : st3 x y z = true) : val3 x = true ∧ val3 y = true ∧ val3 z = true := by
  unfold st3 at h
  simp only [Bool.and_eq_true] at h
  exact ⟨h.1.1, h.1.2, h.2⟩
theorem st3_of {x y z : Int} (hx : val3 x = true) (hy : val3 y = true) (hz : val3 z = true) : st3 x y z = true := by unfold st3; rw [hx, hy, hz]; rfl
theorem val_env {t : Tm} (ht : Ok false false t) {i : Nat} (hi : i < 27) : val3 (val (env i) t) = true := by
  have h := val_bd (one_bd (at_st3 (i := (i : Int)) (by omega) (by omega))) ht
  exact val3_t h.1 (by have := h.2; unfold env; omega)
theorem setN_lt {c : UInt8} {n : Int} {i : Nat} (hn : val3 n = true) (hi : i < 27) : setN c n i < 27 := by
  obtain ⟨hx, hy, hz⟩ := st3_parts (at_st3 (i := (i : Int)) (by omega) (by omega))
  unfold setN
  split
  · exact (ixx_lt (st3_of hn hy hz)).1
  · split
    · exact (ixx_lt (st3_of hx hn hz)).1
    · exact (ixx_lt (st3_of hx hy hn)).1

theorem implStep (c : UInt8) (hc : c = 120 ∨ c = 121 ∨ c = 122) (i : Nat) (t : Tm) (B : Nat) (xc : Int) (ya : Option Addr) (yn ym : Nat) (w : World) (hi : i < 27) (ht : Ok false false t) (hr : RepT w B t (.int .u8 xc) (.slice ya yn ym)) :
    Calls Tryz.prog 108 #[.agg #[.string ⟨#[c]⟩, .int .u8 xc, .slice ya yn ym], .int .i64 i] w fun e w' => e = .returned (.int .i64 (asg c t i : Nat)) ∧ Below w.heap.size w w' := by
  have hat := at_st3 (i := (i : Int)) (by omega) (by omega)
  obtain ⟨hx, hy, hz⟩ := st3_parts hat
  have hv := val_env ht hi
  rcases hc with rfl | rfl | rfl
  · have h3 := st3_of hv hy hz
    have h := implStep_of 120 i t B xc ya yn ym _ _ _ w hi ht hr h3 (fun w => implSet_x (ax i) (ay i) (az i) (val (env i) t) w hat hv)
    rw [← (ixx_lt h3).2] at h
    exact h
  · have h3 := st3_of hx hv hz
    have h := implStep_of 121 i t B xc ya yn ym _ _ _ w hi ht hr h3 (fun w => implSet_y (ax i) (ay i) (az i) (val (env i) t) w hat hv)
    rw [← (ixx_lt h3).2] at h
    exact h
  · have h3 := st3_of hx hy hv
    have h := implStep_of 122 i t B xc ya yn ym _ _ _ w hi ht hr h3 (fun w => implSet_z (ax i) (ay i) (az i) (val (env i) t) w hat hv)
    rw [← (ixx_lt h3).2] at h
    exact h
theorem asg_lt {c : UInt8} {t : Tm} (ht : Ok false false t) {i : Nat} (hi : i < 27) : asg c t i < 27 := setN_lt (val_env ht hi) hi

theorem isVar_at {v : ByteArray} (h : IsVar v) : ∃ c : UInt8, v = ⟨#[c]⟩ ∧ (c = 120 ∨ c = 121 ∨ c = 122) := by
  rcases h with rfl | rfl | rfl
  · exact ⟨120, rfl, .inl rfl⟩
  · exact ⟨121, rfl, .inr (.inl rfl)⟩
  · exact ⟨122, rfl, .inr (.inr rfl)⟩

set_option maxHeartbeats 2000000 in
theorem implReadA_bad (p v e : ByteArray) (w : World) (n1 : Nat) (b1 b2 : Bool) (hb : (b1 && b2) = false)
    (C1 : ∀ w, Calls Tryz.prog 75 #[.string p] w fun e w' => e = .returned (.tuple #[.int .u32 n1, .bool b1]) ∧ w = w')
    (C2 : ∀ w, Calls Tryz.prog 104 #[.string e, .int .u8 101] w fun e w' => ∃ xc ya yn ym, e = .returned (.tuple #[.agg #[.int .u8 xc, .slice ya yn ym], .bool b2]) ∧ Below w.heap.size w w') :
    Calls Tryz.prog 106 #[.string p, .string v, .string e] w fun e w' => e = .returned (.tuple #[.int .u32 0, .agg #[.string ⟨#[]⟩, .int .u8 0, .slice none 0 0], .bool false]) ∧ Below w.heap.size w w' := by
  have C1' := Lib.hid C1
  have C2' := Lib.hid C2
  clear C1 C2
  go_enter Tryz.func106, Tryz.ntmps106
  go_wp2_with fail
  have HK := Lib.hid (Blk.new w #[.string ⟨#[]⟩, .int .u8 0, .slice none 0 0] 121)
  have HB0 := Lib.hid ((Below.refl _ w).alloc (Nat.le_refl _) (.cells #[.string ⟨#[]⟩, .int .u8 0, .slice none 0 0] 121))
  generalize w.alloc (.cells #[.string ⟨#[]⟩, .int .u8 0, .slice none 0 0] 121) = w0 at *
  refine (C1'.out _).mono ?_
  rintro e w' ⟨rfl, rfl⟩
  go_wp2_with fail
  refine (C2'.out _).mono ?_
  rintro e w1 ⟨xc, ya, yn, ym, rfl, hb1⟩
  have HB1 := Lib.hid (bput (bnext HB0.out hb1) (.cells #[.int .u8 xc, .slice ya yn ym] 96))
  have HK1 := Lib.hid ((HK.out.kept hb1).alloc (.cells #[.int .u8 xc, .slice ya yn ym] 96))
  clear hb1
  obtain ⟨q0, q1, q2, f0, f1, f2⟩ := HK1.out.a3
  cases b1
  · clear hb
    go_wp2_with fail
    exact bodyPost_ret (v := .tuple #[.int .u32 0, .agg #[.string ⟨#[]⟩, .int .u8 0, .slice none 0 0], .bool false]) (by simp [results, Tryz.results106, go_sem, q0, q1, q2]) rfl ⟨rfl, by (repeat refine Below.setCell ?_ (by simp) _); exact HB1.out⟩
  · obtain rfl : b2 = false := by simpa using hb
    clear hb
    go_wp2_with fail
    exact bodyPost_ret (v := .tuple #[.int .u32 0, .agg #[.string ⟨#[]⟩, .int .u8 0, .slice none 0 0], .bool false]) (by simp [results, Tryz.results106, go_sem, q0, q1, q2]) rfl ⟨rfl, by (repeat refine Below.setCell ?_ (by simp) _); exact HB1.out⟩

set_option maxHeartbeats 2000000 in
theorem implReadA_var (p v e : ByteArray) (w : World) (n1 : Nat) (hv : ¬ IsVar v) (hm : v.size ≤ maxLen)
    (C1 : ∀ w, Calls Tryz.prog 75 #[.string p] w fun e w' => e = .returned (.tuple #[.int .u32 n1, .bool true]) ∧ w = w')
    (C2 : ∀ w, Calls Tryz.prog 104 #[.string e, .int .u8 101] w fun e w' => ∃ xc ya yn ym, e = .returned (.tuple #[.agg #[.int .u8 xc, .slice ya yn ym], .bool true]) ∧ Below w.heap.size w w') :
    Calls Tryz.prog 106 #[.string p, .string v, .string e] w fun e w' => e = .returned (.tuple #[.int .u32 0, .agg #[.string ⟨#[]⟩, .int .u8 0, .slice none 0 0], .bool false]) ∧ Below w.heap.size w w' := by
  have C1' := Lib.hid C1
  have C2' := Lib.hid C2
  have V := fun w => Lib.hid (implIsVar_no v w hm hv)
  clear C1 C2 hv
  go_enter Tryz.func106, Tryz.ntmps106
  go_wp2_with fail
  have HK := Lib.hid (Blk.new w #[.string ⟨#[]⟩, .int .u8 0, .slice none 0 0] 121)
  have HB0 := Lib.hid ((Below.refl _ w).alloc (Nat.le_refl _) (.cells #[.string ⟨#[]⟩, .int .u8 0, .slice none 0 0] 121))
  generalize w.alloc (.cells #[.string ⟨#[]⟩, .int .u8 0, .slice none 0 0] 121) = w0 at *
  refine (C1'.out _).mono ?_
  rintro e w' ⟨rfl, rfl⟩
  go_wp2_with fail
  refine (C2'.out _).mono ?_
  rintro e w1 ⟨xc, ya, yn, ym, rfl, hb1⟩
  have HB1 := Lib.hid (bput (bnext HB0.out hb1) (.cells #[.int .u8 xc, .slice ya yn ym] 96))
  have HK1 := Lib.hid ((HK.out.kept hb1).alloc (.cells #[.int .u8 xc, .slice ya yn ym] 96))
  clear hb1
  obtain ⟨q0, q1, q2, f0, f1, f2⟩ := HK1.out.a3
  go_wp2_with fail
  refine (V _).out.mono ?_
  rintro e w' ⟨rfl, rfl⟩
  go_wp2_with fail
  exact bodyPost_ret (v := .tuple #[.int .u32 0, .agg #[.string ⟨#[]⟩, .int .u8 0, .slice none 0 0], .bool false]) (by simp [results, Tryz.results106, go_sem, q0, q1, q2]) rfl ⟨rfl, by (repeat refine Below.setCell ?_ (by simp) _); exact HB1.out⟩

set_option maxHeartbeats 2000000 in
theorem implReadA_yes (p v e : ByteArray) (w : World) (hp : Set27 p) (hv : IsVar v) {t : Tm} (ht : Ok false false t) (he : e.data.toList = t.ser) (hl : e.size ≤ 200) :
    Calls Tryz.prog 106 #[.string p, .string v, .string e] w fun e w' => ∃ xc ya yn ym, e = .returned (.tuple #[.int .u32 (nb 27 (hs p.data.toList)), .agg #[.string v, .int .u8 xc, .slice ya yn ym], .bool true]) ∧ RepT w' w.heap.size t (.int .u8 xc) (.slice ya yn ym) ∧ Below w.heap.size w w' := by
  have C1 := fun w => Lib.hid (implRead_yes p w hp)
  have C2 := fun w => Lib.hid (read_yes false e w ht he hl)
  have V := fun w => Lib.hid (implIsVar_yes v w hv)
  clear hv he
  go_enter Tryz.func106, Tryz.ntmps106
  go_wp2_with fail
  have HK := Lib.hid (Blk.new w #[.string ⟨#[]⟩, .int .u8 0, .slice none 0 0] 121)
  have HB0 := Lib.hid ((Below.refl _ w).alloc (Nat.le_refl _) (.cells #[.string ⟨#[]⟩, .int .u8 0, .slice none 0 0] 121))
  have hsz : w.heap.size < (w.alloc (.cells #[.string ⟨#[]⟩, .int .u8 0, .slice none 0 0] 121)).heap.size := by simp
  generalize w.alloc (.cells #[.string ⟨#[]⟩, .int .u8 0, .slice none 0 0] 121) = w0 at *
  refine (C1 _).out.mono ?_
  rintro e w' ⟨rfl, rfl⟩
  go_wp2_with fail
  refine (C2 _).out.mono ?_
  rintro e w1 ⟨xc, ya, yn, ym, rfl, hr, hb1⟩
  have HB1 := Lib.hid (bput (bnext HB0.out hb1) (.cells #[.int .u8 xc, .slice ya yn ym] 96))
  have HK1 := Lib.hid ((HK.out.kept hb1).alloc (.cells #[.int .u8 xc, .slice ya yn ym] 96))
  have HR1 := Lib.hid (hr.below ((Below.refl _ w1).alloc (Nat.le_refl _) (.cells #[.int .u8 xc, .slice ya yn ym] 96)))
  have hne := (HK.out.kept hb1).lt
  have HT1 := Lib.hid (Blk.new w1 #[.int .u8 xc, .slice ya yn ym] 96)
  clear hb1 hr
  go_wp2_with fail
  refine (V _).out.mono ?_
  rintro e w' ⟨rfl, rfl⟩
  go_wp2_with fail
  generalize w1.alloc (.cells #[.int .u8 xc, .slice ya yn ym] 96) = w2 at *
  obtain ⟨q0, q1, q2, f0, f1, f2⟩ := HK1.out.a3
  have r0 := HT1.out.cell 0
  have r1 := HT1.out.cell 1
  simp at r0 r1
  go_region
  all_goals
    go_wp2_with fail
    refine bodyPost_ret (v := .tuple #[.int .u32 (nb 27 (hs p.data.toList)), .agg #[.string v, .int .u8 xc, .slice ya yn ym], .bool true]) (by simp [results, Tryz.results106, go_sem, q0, q1, q2]) rfl ⟨xc, ya, yn, ym, rfl, ?_, ?_⟩
    · refine (HR1.out.keep (B' := w.heap.size) (fun b o v hB h => ?_) (Nat.le_of_lt hsz)).below (Below.refl _ _).drew
      have hne2 : b ≠ w.heap.size := by omega
      rw [World.cell?_setCell_other _ _ _ _ (by intro e; injection e; omega), World.cell?_setCell_other _ _ _ _ (by intro e; injection e; omega), World.cell?_setCell_other _ _ _ _ (by intro e; injection e; omega)]
      exact h
    · refine Below.drew ?_
      (repeat refine Below.setCell ?_ (by simp) _)
      exact HB1.out

set_option maxHeartbeats 2000000 in
theorem implApre_yes (p v e : ByteArray) (w : World) (c : UInt8) (hp : Set27 p) (hv : v = ⟨#[c]⟩) (hc : c = 120 ∨ c = 121 ∨ c = 122) {t : Tm} (ht : Ok false false t) (he : e.data.toList = t.ser) (hl : e.size ≤ 200) :
    Calls Tryz.prog 56 #[.string p, .string v, .string e] w fun e w' => e = .returned (.tuple #[.string (bs (tb (fun i => hs p.data.toList (asg c t i)))), .bool true]) ∧ Below w.heap.size w w' := by
  have hiv : IsVar v := by rcases hc with rfl | rfl | rfl <;> simp [IsVar, hv]
  subst hv
  have C := fun w => Lib.hid (implReadA_yes p _ e w hp hiv ht he hl)
  have X := fun w => Lib.hid (implText (fun i => hs p.data.toList (asg c t i)) w)
  have hmf : ∀ (fn : Fn) (first cap : Array Value) (w : World), (Instr.makeFunc fn first cap).run Tryz.prog w = .ok (.func fn first cap) w := fun _ _ _ _ => rfl
  have hc' := Lib.hid hc
  clear hc he hiv
  go_enter Tryz.func56, Tryz.ntmps56
  go_wp2_with fail
  refine (C _).out.mono ?_
  rintro e w1 ⟨xc, ya, yn, ym, rfl, hr, hb1⟩
  have HB1 := Lib.hid (bput hb1 (.cells #[.string ⟨#[c]⟩, .int .u8 xc, .slice ya yn ym] 121))
  have HK1 := Lib.hid (Blk.new w1 #[.string ⟨#[c]⟩, .int .u8 xc, .slice ya yn ym] 121)
  have HR1 := Lib.hid (hr.below ((Below.refl _ w1).alloc (Nat.le_refl _) (.cells #[.string ⟨#[c]⟩, .int .u8 xc, .slice ya yn ym] 121)))
  clear hb1 hr
  go_wp2_with fail
  refine (implPre (hs p.data.toList) _ (asg c t) _ (fun i hi => asg_lt ht hi) (fun w' hb i hi => implStep c hc'.out i t w.heap.size xc ya yn ym w' hi ht (HR1.out.below hb))).mono ?_
  rintro e w2 ⟨rfl, hb⟩
  have HB2 := Lib.hid (bnext HB1.out hb)
  clear hb
  go_wp2_with fail
  refine (X _).out.mono ?_
  rintro e w3 ⟨rfl, hb⟩
  have HB3 := Lib.hid (bnext HB2.out hb)
  clear hb
  go_wp2_with fail
  go_ret2
  exact ⟨rfl, HB3.out⟩

set_option maxHeartbeats 2000000 in
theorem implApre_of (p v e : ByteArray) (w : World)
    (C : ∀ w, Calls Tryz.prog 106 #[.string p, .string v, .string e] w fun e w' => e = .returned (.tuple #[.int .u32 0, .agg #[.string ⟨#[]⟩, .int .u8 0, .slice none 0 0], .bool false]) ∧ Below w.heap.size w w') :
    Calls Tryz.prog 56 #[.string p, .string v, .string e] w fun e w' => e = .returned (.tuple #[.string (bs []), .bool false]) ∧ Below w.heap.size w w' := by
  have C' := Lib.hid C
  clear C
  go_enter Tryz.func56, Tryz.ntmps56
  go_wp2_with fail
  refine (C'.out _).mono ?_
  rintro e w1 ⟨rfl, hb1⟩
  have HB1 := Lib.hid (bput hb1 (.cells #[.string ⟨#[]⟩, .int .u8 0, .slice none 0 0] 121))
  clear hb1
  go_wp2_with fail
  go_ret2
  exact ⟨rfl, HB1.out⟩

theorem implReadA_no (p v e : ByteArray) (w : World) (hm : v.size ≤ maxLen) (h : ¬ (Set27 p ∧ IsVar v ∧ Valid false false e.data.toList ∧ e.size ≤ 200)) :
    Calls Tryz.prog 106 #[.string p, .string v, .string e] w fun e w' => e = .returned (.tuple #[.int .u32 0, .agg #[.string ⟨#[]⟩, .int .u8 0, .slice none 0 0], .bool false]) ∧ Below w.heap.size w w' := by
  have ry : ∀ w, (Valid false false e.data.toList ∧ e.size ≤ 200) → Calls Tryz.prog 104 #[.string e, .int .u8 101] w fun e w' => ∃ xc ya yn ym, e = .returned (.tuple #[.agg #[.int .u8 xc, .slice ya yn ym], .bool true]) ∧ Below w.heap.size w w' := by
    rintro w ⟨⟨t, ht, he⟩, hl⟩
    exact (read_yes false e w ht he hl).mono fun _ _ ⟨xc, ya, yn, ym, h1, _, h3⟩ => ⟨xc, ya, yn, ym, h1, h3⟩
  have rn : ∀ w, ¬ (Valid false false e.data.toList ∧ e.size ≤ 200) → Calls Tryz.prog 104 #[.string e, .int .u8 101] w fun e w' => ∃ xc ya yn ym, e = .returned (.tuple #[.agg #[.int .u8 xc, .slice ya yn ym], .bool false]) ∧ Below w.heap.size w w' := by
    intro w h
    exact (read_no false e w h).mono fun _ _ ⟨h1, h3⟩ => ⟨0, none, 0, 0, h1, h3⟩
  by_cases he : Valid false false e.data.toList ∧ e.size ≤ 200
  · by_cases hp : Set27 p
    · exact implReadA_var p v e w _ (fun hv => h ⟨hp, hv, he⟩) hm (fun w => implRead_yes p w hp) (fun w => ry w he)
    · exact implReadA_bad p v e w 0 false true rfl (fun w => implRead_no p w hp) (fun w => ry w he)
  · by_cases hp : Set27 p
    · exact implReadA_bad p v e w _ true false rfl (fun w => implRead_yes p w hp) (fun w => rn w he)
    · exact implReadA_bad p v e w 0 false false rfl (fun w => implRead_no p w hp) (fun w => rn w he)
end Go.Proofs.YthmghadepimcnaaGreat
