/-
  Several small texts in one: TopR Po TopH.
-/
import Derived.Test.YtkgdhlpmlpbbkaaGreatTopM
import Derived.Test.YtkgdhlpmlpbbkaaGreatTopW
import Derived.Test.YtkgdhlpmlpbbkaaGreatTopL
import Derived.Deep.RegionHeld3
namespace Go.Proofs.YtkgdhlpmlpbbkaaGreat
open Go.RowKit Tm Go.Great Classical

noncomputable def rT (p : Pg) : Nat → Nat → Bool := fun i j => decide (Fin mdl p i j)
noncomputable def rL (p : Pg) : Nat → Bool := fun i => decide (Lps mdl p i)
noncomputable def rK (p : Pg) : Nat → Bool := fun i => decide (Stk mdl p i)

theorem rT_iff {p : Pg} {i j : Nat} : rT p i j = true ↔ Fin mdl p i j := by unfold rT; exact decide_eq_true_iff
theorem rL_iff {p : Pg} {i : Nat} : rL p i = true ↔ Lps mdl p i := by unfold rL; exact decide_eq_true_iff
theorem rK_iff {p : Pg} {i : Nat} : rK p i = true ↔ Stk mdl p i := by unfold rK; exact decide_eq_true_iff
theorem fin_lt : ∀ {p : Pg}, p.ok false → ∀ {i j : Nat}, i < 27 → Fin mdl p i j → j < 27 := by
  intro p
  induction p with
  | skip => intro _ i j hi h; rw [show j = i from h]; exact hi
  | asg v e => intro hp i j hi h; rw [show j = asg v e i from h]; exact asg_lt hp.2 hi
  | seq a b iha ihb => intro hp i j hi ⟨m, h1, h2⟩; exact ihb hp.2 (iha hp.1 hi h1) h2
  | ite t a b iha ihb =>
    intro hp i j hi h
    unfold Fin at h
    split at h
    · exact iha hp.2.1 hi h
    · exact ihb hp.2.2 hi h
  | whl t a iha =>
    intro hp i j hi ⟨h, _⟩
    have : ∀ u v : Nat, Star (fun u v => mdl.t t u = true ∧ Fin mdl a u v) u v → u < 27 → v < 27 := by
      intro u v hs
      induction hs with
      | refl => exact id
      | head h1 _ ih => exact fun hu => ih (iha hp.2 hu h1.2)
    exact this i j h hi
  | cho a b iha ihb =>
    intro hp i j hi h
    rcases h with h | h
    · exact iha hp.1 hi h
    · exact ihb hp.2 hi h
  | asm t => intro _ i j hi h; rw [h.2]; exact hi

theorem upto_fin {p : Pg} (hp : p.ok false) {i : Nat} (hi : i < 27) {f : Nat → Bool} : upto 27 (fun q => rT p i q && f q) = true ↔ ∃ m, Fin mdl p i m ∧ f m = true := by
  rw [upto_iff]
  simp only [rT, Bool.and_eq_true, decide_eq_true_eq]
  exact ⟨fun ⟨q, _, h⟩ => ⟨q, h⟩, fun ⟨q, h1, h2⟩ => ⟨q, fin_lt hp hi h1, h1, h2⟩⟩
theorem star_hr {t : Tm} {a : Pg} (hp : a.ok false) {i j : Nat} (hi : i < 27) : Star (HR (tst t) (rT a)) i j ↔ Star (fun u v => mdl.t t u = true ∧ Fin mdl a u v) i j := by
  constructor
  · intro h
    induction h with
    | refl => exact .refl _
    | head h1 _ ih => exact .head ⟨h1.2.2.1, by simpa [rT] using h1.2.2.2⟩ (ih h1.2.1)
  · intro h
    induction h with
    | refl => exact .refl _
    | head h1 _ ih =>
      have hv := fin_lt hp hi h1.2
      exact .head ⟨hi, hv, h1.1, by simpa [rT] using h1.2⟩ (ih hv)
theorem en_iff {t : Tm} {a : Pg} (hp : a.ok false) {j : Nat} (hj : j < 27) : enS (tst t) (rT a) j = true ↔ ∃ S : Nat → Prop, S j ∧ ∀ u, S u → mdl.t t u = true ∧ ∃ v, Fin mdl a u v ∧ S v := by
  unfold enS
  rw [decide_eq_true_eq]
  constructor
  · intro ⟨S, hS, h⟩
    exact ⟨S, h, fun u hu => ⟨(hS u hu).2.1, by
      obtain ⟨v, _, h1, h2⟩ := (hS u hu).2.2
      exact ⟨v, by simpa [rT] using h1, h2⟩⟩⟩
  · intro ⟨S, h, hS⟩
    refine ⟨fun u => u < 27 ∧ S u, ?_, hj, h⟩
    intro u ⟨hu, hs⟩
    obtain ⟨h1, v, h2, h3⟩ := hS u hs
    have hv := fin_lt hp hu h2
    exact ⟨hu, h1, v, hv, by simpa [rT] using h2, hv, h3⟩
theorem hd_iff {t : Tm} {a : Pg} (hp : a.ok false) {i j : Nat} (hi : i < 27) : hdS (tst t) (rT a) i j = true ↔ Star (fun u v => mdl.t t u = true ∧ Fin mdl a u v) i j := by
  unfold hdS
  rw [decide_eq_true_eq, star_hr hp hi]
theorem star_lt {t : Tm} {a : Pg} (hp : a.ok false) {i j : Nat} (hi : i < 27) (h : Star (fun u v => mdl.t t u = true ∧ Fin mdl a u v) i j) : j < 27 := by
  induction h with
  | refl => exact hi
  | head h1 _ ih => exact ih (fin_lt hp hi h1.2)

theorem AllPost.as {T T' : Nat → Nat → Bool} {L L' K K' : Nat → Bool} {w w' : World} {e : Ending} (h : AllPost T L K w e w') (h1 : ∀ i, i < 27 → ∀ j, j < 27 → T i j = T' i j) (h2 : ∀ i, i < 27 → L i = L' i) (h3 : ∀ i, i < 27 → K i = K' i) : AllPost T' L' K' w e w' := by
  obtain ⟨rfl, hb⟩ := h
  exact ⟨by rw [allC_congr h1 h2 h3], hb⟩
theorem beq_dec (a b : Nat) : (a == b) = decide (a = b) := by
  rw [Bool.eq_iff_iff]; simp

theorem run_any (p : Pg) : ∀ (_ : p.ok false) (_ : p.ser.length ≤ 200) (w : World), Calls Tryz.prog 47 #[.string (bs p.ser)] w (AllPost (rT p) (rL p) (rK p) w) := by
  induction p with
  | skip =>
    intro hp hn w
    refine (lr_skip hp (by omega) w).mono fun e w' h => h.as (fun i _ j _ => ?_) (fun i _ => ?_) (fun i _ => ?_)
    · rw [Bool.eq_iff_iff]; simp [rT_iff, Fin]
    · rw [Bool.eq_iff_iff]; simp [rL_iff, Lps, noS]
    · rw [Bool.eq_iff_iff]; simp [rK_iff, Stk, noS]
  | asg c e =>
    intro hp hn w
    have hj : ∃ j, VarAt c j := by
      have h : c = 120 ∨ c = 121 ∨ c = 122 := by have := hp.1; simpa [isVarB, or_assoc] using this
      rcases h with rfl | rfl | rfl
      · exact ⟨0, .inl ⟨rfl, rfl⟩⟩
      · exact ⟨1, .inr (.inl ⟨rfl, rfl⟩)⟩
      · exact ⟨2, .inr (.inr ⟨rfl, rfl⟩)⟩
    obtain ⟨j, hj⟩ := hj
    refine (lr_asg c j hj e hp (by omega) w).mono fun e w' h => h.as (fun i _ j _ => ?_) (fun i _ => ?_) (fun i _ => ?_)
    · rw [Bool.eq_iff_iff]; simp [rT_iff, Fin, mdl]
    · rw [Bool.eq_iff_iff]; simp [rL_iff, Lps, noS]
    · rw [Bool.eq_iff_iff]; simp [rK_iff, Stk, noS]
  | seq a b iha ihb =>
    intro hp hn w
    have ha := mem_len (p := Pg.seq a b) (q := a) (by simp [Pg.pks])
    have hb := mem_len (p := Pg.seq a b) (q := b) (by simp [Pg.pks])
    refine (lr_seq a b hp (by omega) w _ _ _ _ _ _ (iha hp.1 (by omega)) (ihb hp.2 (by omega))).mono fun e w' h => h.as (fun i hi j _ => ?_) (fun i hi => ?_) (fun i hi => ?_)
    · rw [Bool.eq_iff_iff]
      unfold sqT
      rw [upto_fin hp.1 hi]
      simp [rT_iff, Fin]
    · rw [Bool.eq_iff_iff]
      unfold sqS
      rw [Bool.or_eq_true, upto_fin hp.1 hi]
      simp [rL_iff, Lps]
    · rw [Bool.eq_iff_iff]
      unfold sqS
      rw [Bool.or_eq_true, upto_fin hp.1 hi]
      simp [rK_iff, Stk]
  | ite t a b iha ihb =>
    intro hp hn w
    have ha := mem_len (p := Pg.ite t a b) (q := a) (by simp [Pg.pks])
    have hb := mem_len (p := Pg.ite t a b) (q := b) (by simp [Pg.pks])
    refine (lr_ite t a b hp (by omega) w _ _ _ _ _ _ (iha hp.2.1 (by omega)) (ihb hp.2.2 (by omega))).mono fun e w' h => h.as (fun i hi j _ => ?_) (fun i hi => ?_) (fun i hi => ?_)
    · rw [Bool.eq_iff_iff]
      cases hT : tst t i <;> simp [chT, rT_iff, Fin, mdl, hT]
    · rw [Bool.eq_iff_iff]
      cases hT : tst t i <;> simp [chS, rL_iff, Lps, mdl, hT]
    · rw [Bool.eq_iff_iff]
      cases hT : tst t i <;> simp [chS, rK_iff, Stk, mdl, hT]
  | whl t a iha =>
    intro hp hn w
    have ha := mem_len (p := Pg.whl t a) (q := a) (by simp [Pg.pks])
    refine (lr_whl t a hp (by omega) w _ _ _ (iha hp.2 (by omega))).mono fun e w' h => h.as (fun i hi j _ => ?_) (fun i hi => ?_) (fun i hi => ?_)
    · rw [Bool.eq_iff_iff]
      unfold whT
      rw [Bool.and_eq_true, hd_iff hp.2 hi]
      simp [rT_iff, Fin, mdl]
    · rw [Bool.eq_iff_iff]
      unfold whL
      rw [upto_iff]
      simp only [rL_iff, Lps, Bool.and_eq_true, Bool.or_eq_true]
      constructor
      · rintro ⟨q, hq, ⟨h1, h2⟩, h3⟩
        exact ⟨q, (hd_iff hp.2 hi).1 h1, h2, h3.imp id (en_iff hp.2 hq).1⟩
      · rintro ⟨q, h1, h2, h3⟩
        have hq := star_lt hp.2 hi h1
        exact ⟨q, hq, ⟨(hd_iff hp.2 hi).2 h1, h2⟩, h3.imp id (en_iff hp.2 hq).2⟩
    · rw [Bool.eq_iff_iff]
      unfold whK
      rw [upto_iff]
      simp only [rK_iff, Stk, Bool.and_eq_true]
      constructor
      · rintro ⟨q, hq, ⟨h1, h2⟩, h3⟩
        exact ⟨q, (hd_iff hp.2 hi).1 h1, h2, h3⟩
      · rintro ⟨q, h1, h2, h3⟩
        have hq := star_lt hp.2 hi h1
        exact ⟨q, hq, ⟨(hd_iff hp.2 hi).2 h1, h2⟩, h3⟩
  | cho a b iha ihb =>
    intro hp hn w
    have ha := mem_len (p := Pg.cho a b) (q := a) (by simp [Pg.pks])
    have hb := mem_len (p := Pg.cho a b) (q := b) (by simp [Pg.pks])
    refine (lr_cho a b hp (by omega) w _ _ _ _ _ _ (iha hp.1 (by omega)) (ihb hp.2 (by omega))).mono fun e w' h => h.as (fun i hi j _ => ?_) (fun i hi => ?_) (fun i hi => ?_)
    · rw [Bool.eq_iff_iff]; simp [chT, rT_iff, Fin]
    · rw [Bool.eq_iff_iff]; simp [chS, rL_iff, Lps]
    · rw [Bool.eq_iff_iff]; simp [chS, rK_iff, Stk]
  | asm t =>
    intro hp hn w
    refine (lr_asm t hp (by omega) w).mono fun e w' h => h.as (fun i hi j _ => ?_) (fun i hi => ?_) (fun i hi => ?_)
    · rw [Bool.eq_iff_iff]
      cases hT : tst t i <;> simp [chT, rT_iff, Fin, mdl, hT, noT]
    · rw [Bool.eq_iff_iff]
      simp [chS, rL_iff, Lps, noS]
    · rw [Bool.eq_iff_iff]
      cases hT : tst t i <;> simp [chS, rK_iff, Stk, mdl, hT, noS]
end Go.Proofs.YtkgdhlpmlpbbkaaGreat

namespace Go.Proofs.YtkgdhlpmlpbbkaaGreat
open Go.RowKit Tm Go.Great Classical

theorem out_pure {p : Pg} {m : Mp} {F : Nat → Bool} {lo bl : Bool} {i : Nat} (hi : i < 27) (h : Wk (flG p) (flS p) (fun j => j == i) 27 m F lo bl) (hT : Top (flG p)) : (∀ j, j < 27 → F j = rT p i j) ∧ lo = rL p i ∧ bl = rK p i := by
  have kn : ∀ y, m y ≠ none ↔ Star (Edge mdl (flG p)) (flS p, i) y := by
    intro y
    rw [h.kn y]
    constructor
    · rintro ⟨q, _, e, hs⟩
      rw [← eq_of_beq e]; exact hs
    · exact fun hs => ⟨i, hi, by simp, hs⟩
  refine ⟨fun j hj => ?_, ?_, ?_⟩
  · rw [Bool.eq_iff_iff, h.fin j hj, kn, rT_iff]
    exact fin_iff hT (fl_lay p)
  · rw [Bool.eq_iff_iff, h.lp, rL_iff, ← lps_iff hT (fl_lay p)]
    constructor
    · rintro ⟨q, _, e, hs⟩
      rw [← eq_of_beq e]; exact hs
    · exact fun hs => ⟨i, hi, by simp, hs⟩
  · rw [Bool.eq_iff_iff, h.blk, rK_iff, ← stk_iff hT (fl_lay p)]
    constructor
    · rintro ⟨y, h1, h2⟩
      exact ⟨y, (kn y).1 h1, h2⟩
    · rintro ⟨y, h1, h2⟩
      exact ⟨y, (kn y).2 h1, h2⟩
/-- The outcome from a state, as a value. -/
noncomputable def outV (p : Pg) (i : Nat) : Value := .agg #[.int .u32 (nb 27 (rT p i)), .bool (rL p i), .bool (rK p i)]
theorem outcome_p {p : Pg} {w1 : World} {B : Nat} {sp : Value} (hF : FlowOk w1 B sp (flS p) (flG p)) (i : Nat) (hi : i < 27) (w : World) (hb : Below w1.heap.size w1 w) :
    Calls Tryz.prog 52 #[.agg #[sp, .int .i64 (flS p : Nat)], .int .i64 i] w fun e w' => e = .returned (outV p i) ∧ Below w.heap.size w w' := by
  refine (outcome_any hF i hi w hb).mono ?_
  rintro e w' ⟨m, F, lo, bl, rfl, hk, hw⟩
  obtain ⟨h1, h2, h3⟩ := out_pure hi hk hF.top
  refine ⟨?_, hw⟩
  rw [nb_congr h1, h2, h3]
  rfl
end Go.Proofs.YtkgdhlpmlpbbkaaGreat

namespace Go.Proofs.YtkgdhlpmlpbbkaaGreat
open Go.RowKit Tm Go.Great Classical

/-- What is asked of an outcome: a function of the program that answers f. -/
def Asks (fn : FuncId) (f : (Nat → Bool) → Bool → Bool → Bool) : Prop := ∀ (F : Nat → Bool) (lo bl : Bool) (w : World), Calls Tryz.prog fn #[.agg #[.int .u32 (nb 27 F), .bool lo, .bool bl]] w fun e w' => e = .returned (.bool (f F lo bl)) ∧ Below w.heap.size w w'
set_option maxRecDepth 100000 in
set_option maxHeartbeats 2000000 in
theorem asksLoop : Asks 48 (fun _ lo _ => lo) := by
  intro F lo bl w
  go_enter Tryz.func48, Tryz.ntmps48
  go_wp2_with fail
  go_ret
  exact ⟨rfl, (Below.refl _ w).alloc (Nat.le_refl _) _⟩
set_option maxRecDepth 100000 in
set_option maxHeartbeats 2000000 in
theorem asksBlock : Asks 49 (fun _ _ bl => bl) := by
  intro F lo bl w
  go_enter Tryz.func49, Tryz.ntmps49
  go_wp2_with fail
  go_ret
  exact ⟨rfl, (Below.refl _ w).alloc (Nat.le_refl _) _⟩
set_option maxRecDepth 100000 in
set_option maxHeartbeats 2000000 in
theorem asksEnd : Asks 43 (fun F _ _ => upto 27 F) := by
  intro F lo bl w
  have h : (((nb 27 F : Nat) : Int) != 0) = upto 27 F := neq0 F
  go_enter Tryz.func43, Tryz.ntmps43
  go_wp2_with fail
  go_ret
  exact ⟨by rw [← h]; rfl, (Below.refl _ w).alloc (Nat.le_refl _) _⟩
set_option maxRecDepth 100000 in
set_option maxHeartbeats 2000000 in
theorem asksAll : Asks 50 (fun _ lo bl => !lo && !bl) := by
  intro F lo bl w
  cases lo <;> cases bl
  all_goals
    go_enter Tryz.func50, Tryz.ntmps50
    go_wp2_with fail
    go_ret
    exact ⟨rfl, (Below.refl _ w).alloc (Nat.le_refl _) _⟩
/-- What the answer says of a state. -/
noncomputable def askS (p : Pg) (f : (Nat → Bool) → Bool → Bool → Bool) : Nat → Bool := fun i => f (rT p i) (rL p i) (rK p i)
set_option maxRecDepth 100000 in
set_option maxHeartbeats 4000000 in
theorem statesWith_any {p : Pg} {w1 : World} {B : Nat} {sp : Value} (hF : FlowOk w1 B sp (flS p) (flG p)) (fn : FuncId) (f : (Nat → Bool) → Bool → Bool → Bool) (ha : Asks fn f) (hen : ∀ (args : Array Value) (w : World), (callFunc fn args).run Tryz.prog w = .ok (.enter fn args) w) (w : World) (hb : Below w1.heap.size w1 w) :
    Calls Tryz.prog 94 #[.agg #[sp, .int .i64 (flS p : Nat)], .func (.func fn) #[] #[]] w fun e w' => e = .returned (.int .u32 (nb 27 (askS p f))) ∧ Below w.heap.size w w' := by
  have HO := fun i hi w' (h : Below w.heap.size w w') => Lib.hid (outcome_p hF i hi w' (hb.trans (h.mono hb.size)))
  have HA := fun i w' => Lib.hid (ha (rT p i) (rL p i) (rK p i) w')
  obtain ⟨rb, cap, hsp, _⟩ := hF.fl
  subst hsp
  have K0 := Lib.hid (Blk.new w #[.slice (some ⟨rb, 0, none⟩) (flG p).length cap, .int .i64 (flS p : Nat)] 70)
  have HB := Lib.hid ((Below.refl w.heap.size w).alloc (Nat.le_refl _) (.cells #[.slice (some ⟨rb, 0, none⟩) (flG p).length cap, .int .i64 (flS p : Nat)] 70))
  clear hF hb ha
  go_enter Tryz.func94, Tryz.ntmps94
  go_wp2_with fail
  generalize w.alloc (.cells #[.slice (some ⟨rb, 0, none⟩) (flG p).length cap, .int .i64 (flS p : Nat)] 70) = w2 at *
  go_loopw [5, 7] (fun v i wr => ∃ k : Nat, k ≤ 27 ∧ i = .int .i64 k ∧ v = .int .u32 (nb 27 (lowF (askS p f) k)) ∧ Hid (Blk wr w.heap.size #[.slice (some ⟨rb, 0, none⟩) (flG p).length cap, .int .i64 (flS p : Nat)] 70) ∧ Hid (Below w.heap.size w wr)) (fun _ i _ => 27 - (intOf i).toNat)
  case atStart => exact ⟨0, by omega, rfl, by rw [lowF_zero]; rfl, K0, HB⟩
  case round =>
    clear K0 HB
    obtain ⟨k, hk, rfl, rfl, RB, RW⟩ := hrel
    by_cases hlt : k < 27
    · have j0 := RB.out.cell 0
      have j1 := RB.out.cell 1
      simp at j0 j1
      have C := HO k hlt
      have D := HA k
      have E := fun w => Lib.hid (implWithB (lowF (askS p f) k) k w hlt)
      go_wp2_with fail
      refine (C _ RW.out).out.mono ?_
      rintro e w3 ⟨rfl, h3⟩
      have RB3 := Lib.hid (RB.out.kept h3)
      have RW3 := Lib.hid (bnext RW.out h3)
      clear j0 j1 h3 RB RW
      go_wp2_with fail
      refine (D _).out.mono ?_
      rintro e w4 ⟨rfl, h4⟩
      have RB4 := Lib.hid (RB3.out.kept h4)
      have RW4 := Lib.hid (bnext RW3.out h4)
      clear h4 RB3 RW3
      cases hq : f (rT p k) (rL p k) (rK p k)
      · go_wp2_with fail
        exact ⟨⟨k + 1, by omega, by go_num, by rw [lowF_nil (F := askS p f) hq], RB4, RW4⟩, by simp [intOf]; omega⟩
      · go_wp2_with fail
        refine (E _).out.mono ?_
        rintro e w' ⟨rfl, rfl⟩
        go_wp2_with fail
        exact ⟨⟨k + 1, by omega, by go_num, by rw [lowF_one (F := askS p f) hq], RB4, RW4⟩, by simp [intOf]; omega⟩
    · have hk2 : k = 27 := by omega
      subst hk2
      go_wp2_with fail
      go_ret
      exact ⟨by rw [← lowF_all]; rfl, RW.out⟩
end Go.Proofs.YtkgdhlpmlpbbkaaGreat

namespace Go.Proofs.YtkgdhlpmlpbbkaaGreat
open Go.RowKit Tm Go.Great Classical

def TextPost (F : Nat → Bool) (w : World) (e : Ending) (w' : World) : Prop := e = .returned (.tuple #[.string (bs (tb F)), .bool true]) ∧ Below w.heap.size w w'
def NoPost (w : World) (e : Ending) (w' : World) : Prop := e = .returned (.tuple #[.string (bs []), .bool false]) ∧ Below w.heap.size w w'
theorem bs_of {s : ByteArray} {p : Pg} (h : s.data.toList = p.ser) : s = bs p.ser := by
  apply ByteArray.ext
  apply Array.ext'
  exact h.trans (bs_list _).symm
theorem ser_200 {s : ByteArray} {p : Pg} (h : s.data.toList = p.ser) (hl : s.size ≤ 200) : p.ser.length ≤ 200 := by
  rw [← h]; simpa using hl
set_option maxRecDepth 100000 in
set_option maxHeartbeats 4000000 in
theorem statesOf_yes (fn : FuncId) (f : (Nat → Bool) → Bool → Bool → Bool) (ha : Asks fn f) (hen : ∀ (args : Array Value) (w : World), (callFunc fn args).run Tryz.prog w = .ok (.enter fn args) w) (s : ByteArray) {p : Pg} (hp : p.ok false) (he : s.data.toList = p.ser) (hl : s.size ≤ 200) (w : World) :
    Calls Tryz.prog 42 #[.string s, .func (.func fn) #[] #[]] w (TextPost (askS p f) w) := by
  have CR := fun w => Lib.hid (prog_yes s w hp he hl)
  have hal : p.all.length ≤ 900 := by have := p.all_le; have := ser_200 he hl; omega
  have CF := fun B v w hv => Lib.hid (flowOf_any p B v w hv hp hal)
  have CS := fun {w1 : World} {B : Nat} {sp : Value} (hF : FlowOk w1 B sp (flS p) (flG p)) (w : World) (hb : Below w1.heap.size w1 w) => Lib.hid (statesWith_any hF fn f ha hen w hb)
  clear hp he hl hal ha hen
  go_enter Tryz.func42, Tryz.ntmps42
  go_wp2_with fail
  refine (CR _).out.mono ?_
  rintro e w1 ⟨T, u, rfl, hst, hb⟩
  have HB := Lib.hid hb
  have HS := Lib.hid hst
  clear hb hst
  go_wp2_with fail
  refine (CF _ _ _ HS.out).out.mono ?_
  rintro e w2 ⟨rb, cap, rfl, hF, hb⟩
  have HB2 := Lib.hid (bnext HB.out hb)
  have HF := Lib.hid hF
  clear hb hF
  go_wp2_with fail
  refine (CS HF.out _ (Below.refl _ _)).out.mono ?_
  rintro e w3 ⟨rfl, hb⟩
  have HB3 := Lib.hid (bnext HB2.out hb)
  clear hb
  go_wp2_with fail
  refine (implText _ _).mono ?_
  rintro e w4 ⟨rfl, hb⟩
  have HB4 := Lib.hid (bnext HB3.out hb)
  clear hb
  go_wp2_with fail
  go_ret2
  exact ⟨rfl, HB4.out⟩
set_option maxRecDepth 100000 in
set_option maxHeartbeats 4000000 in
theorem statesOf_no (fn : FuncId) (s : ByteArray) (h : ¬ (PValid false s.data.toList ∧ s.size ≤ 200)) (w : World) :
    Calls Tryz.prog 42 #[.string s, .func (.func fn) #[] #[]] w (NoPost w) := by
  have CR := fun w => Lib.hid (prog_no s w h)
  clear h
  go_enter Tryz.func42, Tryz.ntmps42
  go_wp2_with fail
  refine (CR _).out.mono ?_
  rintro e w1 ⟨rfl, hb⟩
  go_wp2_with fail
  go_ret2
  exact ⟨rfl, hb⟩
set_option maxRecDepth 100000 in
set_option maxHeartbeats 4000000 in
theorem implMayLoop_yes (s : ByteArray) {p : Pg} (hp : p.ok false) (he : s.data.toList = p.ser) (hl : s.size ≤ 200) (w : World) : Calls Tryz.prog 11 #[.string s] w (TextPost (rL p) w) := by
  have C := fun w => Lib.hid (statesOf_yes 48 (fun _ lo _ => lo) asksLoop (fun _ _ => by kernel_rfl) s hp he hl w)
  clear hp he hl
  go_enter Tryz.func11, Tryz.ntmps11
  go_wp2_with fail
  refine (C _).out.mono ?_
  rintro e w1 ⟨rfl, hb⟩
  go_wp2_with fail
  go_ret2
  exact ⟨rfl, hb⟩
set_option maxRecDepth 100000 in
set_option maxHeartbeats 4000000 in
theorem implMayLoop_no (s : ByteArray) (h : ¬ (PValid false s.data.toList ∧ s.size ≤ 200)) (w : World) : Calls Tryz.prog 11 #[.string s] w (NoPost w) := by
  have C := fun w => Lib.hid (statesOf_no 48 s h w)
  clear h
  go_enter Tryz.func11, Tryz.ntmps11
  go_wp2_with fail
  refine (C _).out.mono ?_
  rintro e w1 ⟨rfl, hb⟩
  go_wp2_with fail
  go_ret2
  exact ⟨rfl, hb⟩
set_option maxRecDepth 100000 in
set_option maxHeartbeats 4000000 in
theorem implMayBlock_yes (s : ByteArray) {p : Pg} (hp : p.ok false) (he : s.data.toList = p.ser) (hl : s.size ≤ 200) (w : World) : Calls Tryz.prog 13 #[.string s] w (TextPost (rK p) w) := by
  have C := fun w => Lib.hid (statesOf_yes 49 (fun _ _ bl => bl) asksBlock (fun _ _ => by kernel_rfl) s hp he hl w)
  clear hp he hl
  go_enter Tryz.func13, Tryz.ntmps13
  go_wp2_with fail
  refine (C _).out.mono ?_
  rintro e w1 ⟨rfl, hb⟩
  go_wp2_with fail
  go_ret2
  exact ⟨rfl, hb⟩
set_option maxRecDepth 100000 in
set_option maxHeartbeats 4000000 in
theorem implMayBlock_no (s : ByteArray) (h : ¬ (PValid false s.data.toList ∧ s.size ≤ 200)) (w : World) : Calls Tryz.prog 13 #[.string s] w (NoPost w) := by
  have C := fun w => Lib.hid (statesOf_no 49 s h w)
  clear h
  go_enter Tryz.func13, Tryz.ntmps13
  go_wp2_with fail
  refine (C _).out.mono ?_
  rintro e w1 ⟨rfl, hb⟩
  go_wp2_with fail
  go_ret2
  exact ⟨rfl, hb⟩
set_option maxRecDepth 100000 in
set_option maxHeartbeats 4000000 in
theorem implMayEnd_yes (s : ByteArray) {p : Pg} (hp : p.ok false) (he : s.data.toList = p.ser) (hl : s.size ≤ 200) (w : World) : Calls Tryz.prog 9 #[.string s] w (TextPost (fun i => upto 27 (rT p i)) w) := by
  have C := fun w => Lib.hid (statesOf_yes 43 (fun F _ _ => upto 27 F) asksEnd (fun _ _ => by kernel_rfl) s hp he hl w)
  clear hp he hl
  go_enter Tryz.func9, Tryz.ntmps9
  go_wp2_with fail
  refine (C _).out.mono ?_
  rintro e w1 ⟨rfl, hb⟩
  go_wp2_with fail
  go_ret2
  exact ⟨rfl, hb⟩
set_option maxRecDepth 100000 in
set_option maxHeartbeats 4000000 in
theorem implMayEnd_no (s : ByteArray) (h : ¬ (PValid false s.data.toList ∧ s.size ≤ 200)) (w : World) : Calls Tryz.prog 9 #[.string s] w (NoPost w) := by
  have C := fun w => Lib.hid (statesOf_no 43 s h w)
  clear h
  go_enter Tryz.func9, Tryz.ntmps9
  go_wp2_with fail
  refine (C _).out.mono ?_
  rintro e w1 ⟨rfl, hb⟩
  go_wp2_with fail
  go_ret2
  exact ⟨rfl, hb⟩
set_option maxRecDepth 100000 in
set_option maxHeartbeats 4000000 in
theorem implSurelyEnds_yes (s : ByteArray) {p : Pg} (hp : p.ok false) (he : s.data.toList = p.ser) (hl : s.size ≤ 200) (w : World) : Calls Tryz.prog 15 #[.string s] w (TextPost (fun i => !rL p i && !rK p i) w) := by
  have C := fun w => Lib.hid (statesOf_yes 50 (fun _ lo bl => !lo && !bl) asksAll (fun _ _ => by kernel_rfl) s hp he hl w)
  clear hp he hl
  go_enter Tryz.func15, Tryz.ntmps15
  go_wp2_with fail
  refine (C _).out.mono ?_
  rintro e w1 ⟨rfl, hb⟩
  go_wp2_with fail
  go_ret2
  exact ⟨rfl, hb⟩
set_option maxRecDepth 100000 in
set_option maxHeartbeats 4000000 in
theorem implSurelyEnds_no (s : ByteArray) (h : ¬ (PValid false s.data.toList ∧ s.size ≤ 200)) (w : World) : Calls Tryz.prog 15 #[.string s] w (NoPost w) := by
  have C := fun w => Lib.hid (statesOf_no 50 s h w)
  clear h
  go_enter Tryz.func15, Tryz.ntmps15
  go_wp2_with fail
  refine (C _).out.mono ?_
  rintro e w1 ⟨rfl, hb⟩
  go_wp2_with fail
  go_ret2
  exact ⟨rfl, hb⟩
end Go.Proofs.YtkgdhlpmlpbbkaaGreat

namespace Go.Proofs.YtkgdhlpmlpbbkaaGreat
open Go.RowKit Tm Go.Great Classical

theorem field_L (t : Nat → Nat → Bool) (l k : Nat → Bool) (w : World) : (Instr.field 66 (.agg (allC t l k)) 1).run Tryz.prog w = .ok (.int .i64 (nb 27 l)) w := by
  unfold allC
  generalize nb 27 l = a
  generalize nb 27 k = b
  kernel_rfl
theorem field_K (t : Nat → Nat → Bool) (l k : Nat → Bool) (w : World) : (Instr.field 66 (.agg (allC t l k)) 2).run Tryz.prog w = .ok (.int .i64 (nb 27 k)) w := by
  unfold allC
  generalize nb 27 l = a
  generalize nb 27 k = b
  kernel_rfl
theorem sure_eq (l k : Nat → Bool) : bits .andNot .i64 134217727 (bits .or .i64 (nb 27 l : Nat) (nb 27 k : Nat)) = (nb 27 (fun i => !l i && !k i) : Nat) := by
  rw [s_or, fullNot]
  congr 2
  funext i
  cases l i <;> rfl
set_option maxRecDepth 100000 in
set_option maxHeartbeats 4000000 in
theorem specMayLoop_yes (s : ByteArray) {p : Pg} (hp : p.ok false) (he : s.data.toList = p.ser) (hl : s.size ≤ 200) (w : World) : Calls Tryz.prog 12 #[.string s] w (TextPost (rL p) w) := by
  have C := fun w => Lib.hid (specPV_yes s w ⟨p, hp, he⟩ hl)
  have CR : ∀ w, Hid (Calls Tryz.prog 47 #[.string s] w (AllPost (rT p) (rL p) (rK p) w)) := fun w => by
    have := run_any p hp (ser_200 he hl) w
    rw [← bs_of he] at this
    exact this
  have fL := field_L (rT p) (rL p) (rK p)
  clear hp he hl
  go_enter Tryz.func12, Tryz.ntmps12
  go_wp2_with fail
  refine (C _).out.mono ?_
  rintro e w1 ⟨rfl, n0, rfl⟩
  go_wp2_with fail
  refine (CR _).out.mono ?_
  rintro e w2 ⟨rfl, hb⟩
  have HB := Lib.hid (bnext (bdrewN (Below.refl w.heap.size w) n0) hb)
  clear hb
  go_wp2_with fail
  refine (specTextS _ _).mono ?_
  rintro e w4 ⟨rfl, hb⟩
  have HB4 := Lib.hid (bnext HB.out hb)
  clear hb
  go_wp2_with fail
  go_ret2
  exact ⟨rfl, HB4.out⟩
set_option maxRecDepth 100000 in
set_option maxHeartbeats 4000000 in
theorem specMayLoop_no (s : ByteArray) (h : ¬ (PValid false s.data.toList ∧ s.size ≤ 200)) (w : World) : Calls Tryz.prog 12 #[.string s] w (NoPost w) := by
  have C := fun w => Lib.hid (specPV_no s w h)
  clear h
  go_enter Tryz.func12, Tryz.ntmps12
  go_wp2_with fail
  refine (C _).out.mono ?_
  rintro e w1 ⟨rfl, n0, rfl⟩
  go_wp2_with fail
  go_ret2
  exact ⟨rfl, bdrewN (Below.refl _ _) n0⟩
set_option maxRecDepth 100000 in
set_option maxHeartbeats 4000000 in
theorem specMayBlock_yes (s : ByteArray) {p : Pg} (hp : p.ok false) (he : s.data.toList = p.ser) (hl : s.size ≤ 200) (w : World) : Calls Tryz.prog 14 #[.string s] w (TextPost (rK p) w) := by
  have C := fun w => Lib.hid (specPV_yes s w ⟨p, hp, he⟩ hl)
  have CR : ∀ w, Hid (Calls Tryz.prog 47 #[.string s] w (AllPost (rT p) (rL p) (rK p) w)) := fun w => by
    have := run_any p hp (ser_200 he hl) w
    rw [← bs_of he] at this
    exact this
  have fK := field_K (rT p) (rL p) (rK p)
  clear hp he hl
  go_enter Tryz.func14, Tryz.ntmps14
  go_wp2_with fail
  refine (C _).out.mono ?_
  rintro e w1 ⟨rfl, n0, rfl⟩
  go_wp2_with fail
  refine (CR _).out.mono ?_
  rintro e w2 ⟨rfl, hb⟩
  have HB := Lib.hid (bnext (bdrewN (Below.refl w.heap.size w) n0) hb)
  clear hb
  go_wp2_with fail
  refine (specTextS _ _).mono ?_
  rintro e w4 ⟨rfl, hb⟩
  have HB4 := Lib.hid (bnext HB.out hb)
  clear hb
  go_wp2_with fail
  go_ret2
  exact ⟨rfl, HB4.out⟩
set_option maxRecDepth 100000 in
set_option maxHeartbeats 4000000 in
theorem specMayBlock_no (s : ByteArray) (h : ¬ (PValid false s.data.toList ∧ s.size ≤ 200)) (w : World) : Calls Tryz.prog 14 #[.string s] w (NoPost w) := by
  have C := fun w => Lib.hid (specPV_no s w h)
  clear h
  go_enter Tryz.func14, Tryz.ntmps14
  go_wp2_with fail
  refine (C _).out.mono ?_
  rintro e w1 ⟨rfl, n0, rfl⟩
  go_wp2_with fail
  go_ret2
  exact ⟨rfl, bdrewN (Below.refl _ _) n0⟩
set_option maxRecDepth 100000 in
set_option maxHeartbeats 4000000 in
theorem specMayEnd_yes (s : ByteArray) {p : Pg} (hp : p.ok false) (he : s.data.toList = p.ser) (hl : s.size ≤ 200) (w : World) : Calls Tryz.prog 10 #[.string s] w (TextPost (fun i => upto 27 (rT p i)) w) := by
  have C := fun w => Lib.hid (specPV_yes s w ⟨p, hp, he⟩ hl)
  have CR : ∀ w, Hid (Calls Tryz.prog 47 #[.string s] w (AllPost (rT p) (rL p) (rK p) w)) := fun w => by
    have := run_any p hp (ser_200 he hl) w
    rw [← bs_of he] at this
    exact this
  clear hp he hl
  go_enter Tryz.func10, Tryz.ntmps10
  go_wp2_with fail
  refine (C _).out.mono ?_
  rintro e w1 ⟨rfl, n0, rfl⟩
  go_wp2_with fail
  refine (CR _).out.mono ?_
  rintro e w2 ⟨rfl, hb⟩
  have HB := Lib.hid (bnext (bdrewN (Below.refl w.heap.size w) n0) hb)
  clear hb
  go_wp2_with fail
  refine (specEnds _ _ _ _).mono ?_
  rintro e w3 ⟨rfl, hb⟩
  replace HB := Lib.hid (bnext HB.out hb)
  clear hb
  go_wp2_with fail
  refine (specTextS _ _).mono ?_
  rintro e w4 ⟨rfl, hb⟩
  have HB4 := Lib.hid (bnext HB.out hb)
  clear hb
  go_wp2_with fail
  go_ret2
  exact ⟨rfl, HB4.out⟩
set_option maxRecDepth 100000 in
set_option maxHeartbeats 4000000 in
theorem specMayEnd_no (s : ByteArray) (h : ¬ (PValid false s.data.toList ∧ s.size ≤ 200)) (w : World) : Calls Tryz.prog 10 #[.string s] w (NoPost w) := by
  have C := fun w => Lib.hid (specPV_no s w h)
  clear h
  go_enter Tryz.func10, Tryz.ntmps10
  go_wp2_with fail
  refine (C _).out.mono ?_
  rintro e w1 ⟨rfl, n0, rfl⟩
  go_wp2_with fail
  go_ret2
  exact ⟨rfl, bdrewN (Below.refl _ _) n0⟩
end Go.Proofs.YtkgdhlpmlpbbkaaGreat

namespace Go.Proofs.YtkgdhlpmlpbbkaaGreat
open Go.RowKit Tm Go.Great Classical

/-- The states in which a program may end from a set. -/
noncomputable def poS (p : Pg) (S : Nat → Bool) : Nat → Bool := fun j => upto 27 (fun i => S i && rT p i j)
theorem po_eq {p : Pg} {S F : Nat → Bool} {m : Mp} {lo bl : Bool} (h : Wk (flG p) (flS p) S 27 m F lo bl) (hT : Top (flG p)) : ∀ j, j < 27 → F j = poS p S j := by
  intro j hj
  rw [Bool.eq_iff_iff, h.fin j hj, h.kn]
  unfold poS
  rw [upto_iff]
  constructor
  · rintro ⟨i, hi, hs, hw⟩
    exact ⟨i, hi, by rw [hs, Bool.true_and, rT_iff]; exact (fin_iff hT (fl_lay p)).1 hw⟩
  · rintro ⟨i, hi, hs⟩
    rw [Bool.and_eq_true, rT_iff] at hs
    exact ⟨i, hi, hs.1, (fin_iff hT (fl_lay p)).2 hs.2⟩
set_option maxRecDepth 100000 in
set_option maxHeartbeats 4000000 in
theorem implPostOf_yes (s q : ByteArray) {p : Pg} (hp : p.ok false) (he : s.data.toList = p.ser) (hl : s.size ≤ 200) (hq : Set27 q) (w : World) : Calls Tryz.prog 29 #[.string s, .string q] w (TextPost (poS p (hs q.data.toList)) w) := by
  have CR := fun w => Lib.hid (prog_yes s w hp he hl)
  have CQ := fun w => Lib.hid (implRead_yes q w hq)
  have hal : p.all.length ≤ 900 := by have := p.all_le; have := ser_200 he hl; omega
  have CF := fun B v w hv => Lib.hid (flowOf_any p B v w hv hp hal)
  have CW := fun {w1 : World} {B : Nat} {sp : Value} (hF : FlowOk w1 B sp (flS p) (flG p)) (w : World) (hb : Below w1.heap.size w1 w) => Lib.hid (walkFrom_any hF (hs q.data.toList) w hb)
  clear hp he hl hal hq
  go_enter Tryz.func29, Tryz.ntmps29
  go_wp2_with fail
  refine (CR _).out.mono ?_
  rintro e w1 ⟨T, u, rfl, hst, hb⟩
  have HB := Lib.hid hb
  have HS := Lib.hid hst
  clear hb hst
  go_wp2_with fail
  refine (CQ _).out.mono ?_
  rintro e w' ⟨rfl, rfl⟩
  go_wp2_with fail
  refine (CF _ _ _ HS.out).out.mono ?_
  rintro e w2 ⟨rb, cap, rfl, hF, hb⟩
  have HB2 := Lib.hid (bnext HB.out hb)
  have HF := Lib.hid hF
  clear hb hF
  go_wp2_with fail
  refine (CW HF.out _ (Below.refl _ _)).out.mono ?_
  rintro e w3 ⟨bw, bm, m, F, lo, bl, rfl, k1, k2, k3, hb⟩
  have HB3 := Lib.hid (bnext HB2.out hb)
  have hEq := nb_congr (po_eq k3 HF.out.top)
  obtain ⟨q0, q1, q2, q3, q4, q5⟩ := k1.cells
  clear hb k1 k2 k3
  go_wp2_with fail
  refine (implText _ _).mono ?_
  rintro e w4 ⟨rfl, hb⟩
  have HB4 := Lib.hid (bnext HB3.out hb)
  clear hb
  go_wp2_with fail
  go_ret2
  exact ⟨rfl, HB4.out⟩
set_option maxRecDepth 100000 in
set_option maxHeartbeats 4000000 in
theorem implPostOf_no (s q : ByteArray) (h : ¬ (IsP s ∧ Set27 q)) (w : World) : Calls Tryz.prog 29 #[.string s, .string q] w (NoPost w) := by
  by_cases hp : IsP s
  · have hq : ¬ Set27 q := fun hq => h ⟨hp, hq⟩
    obtain ⟨⟨p, hp, he⟩, hl⟩ := hp
    have CR := fun w => Lib.hid (prog_yes s w hp he hl)
    have CQ := fun w => Lib.hid (implRead_no q w hq)
    clear hp he hl hq h
    go_enter Tryz.func29, Tryz.ntmps29
    go_wp2_with fail
    refine (CR _).out.mono ?_
    rintro e w1 ⟨T, u, rfl, hst, hb⟩
    clear hst
    go_wp2_with fail
    refine (CQ _).out.mono ?_
    rintro e w' ⟨rfl, rfl⟩
    go_wp2_with fail
    go_ret2
    exact ⟨rfl, hb⟩
  · have CR := fun w => Lib.hid (prog_no s w hp)
    by_cases hq : Set27 q
    · have CQ := fun w => Lib.hid (implRead_yes q w hq)
      clear hp hq h
      go_enter Tryz.func29, Tryz.ntmps29
      go_wp2_with fail
      refine (CR _).out.mono ?_
      rintro e w1 ⟨rfl, hb⟩
      go_wp2_with fail
      refine (CQ _).out.mono ?_
      rintro e w' ⟨rfl, rfl⟩
      go_wp2_with fail
      go_ret2
      exact ⟨rfl, hb⟩
    · have CQ := fun w => Lib.hid (implRead_no q w hq)
      clear hp hq h
      go_enter Tryz.func29, Tryz.ntmps29
      go_wp2_with fail
      refine (CR _).out.mono ?_
      rintro e w1 ⟨rfl, hb⟩
      go_wp2_with fail
      refine (CQ _).out.mono ?_
      rintro e w' ⟨rfl, rfl⟩
      go_wp2_with fail
      go_ret2
      exact ⟨rfl, hb⟩
set_option maxRecDepth 100000 in
set_option maxHeartbeats 4000000 in
theorem specPostOf_yes (s q : ByteArray) {p : Pg} (hp : p.ok false) (he : s.data.toList = p.ser) (hl : s.size ≤ 200) (hq : Set27 q) (w : World) : Calls Tryz.prog 30 #[.string s, .string q] w (TextPost (poS p (hs q.data.toList)) w) := by
  have C := fun w => Lib.hid (specPV_yes s w ⟨p, hp, he⟩ hl)
  have CQ := fun w => Lib.hid (specPredValid_yes q w hq)
  have CM := fun w => Lib.hid (specMask q w hq)
  have CR : ∀ w, Hid (Calls Tryz.prog 47 #[.string s] w (AllPost (rT p) (rL p) (rK p) w)) := fun w => by
    have := run_any p hp (ser_200 he hl) w
    rw [← bs_of he] at this
    exact this
  clear hp he hl hq
  go_enter Tryz.func30, Tryz.ntmps30
  go_wp2_with fail
  refine (C _).out.mono ?_
  rintro e w1 ⟨rfl, n0, rfl⟩
  go_wp2_with fail
  refine (CQ _).out.mono ?_
  rintro e w' ⟨rfl, rfl⟩
  go_wp2_with fail
  refine (CR _).out.mono ?_
  rintro e w2 ⟨rfl, hb⟩
  have HB := Lib.hid (bnext (bdrewN (Below.refl w.heap.size w) n0) hb)
  clear hb
  go_wp2_with fail
  refine (CM _).out.mono ?_
  rintro e w3 ⟨rfl, hb⟩
  replace HB := Lib.hid (bnext HB.out hb)
  clear hb
  go_wp2_with fail
  refine (specPost _ _ _ _ _).mono ?_
  rintro e w4 ⟨rfl, hb⟩
  replace HB := Lib.hid (bnext HB.out hb)
  clear hb
  go_wp2_with fail
  refine (specTextS _ _).mono ?_
  rintro e w5 ⟨rfl, hb⟩
  have HB4 := Lib.hid (bnext HB.out hb)
  clear hb
  go_wp2_with fail
  go_ret2
  exact ⟨rfl, HB4.out⟩
set_option maxRecDepth 100000 in
set_option maxHeartbeats 4000000 in
theorem specPostOf_no (s q : ByteArray) (hm : q.size ≤ maxLen) (h : ¬ (IsP s ∧ Set27 q)) (w : World) : Calls Tryz.prog 30 #[.string s, .string q] w (NoPost w) := by
  by_cases hp : IsP s
  · have hq : ¬ Set27 q := fun hq => h ⟨hp, hq⟩
    have C := fun w => Lib.hid (specPV_yes s w hp.1 hp.2)
    have CQ := fun w => Lib.hid (specPredValid_no q w hq hm)
    clear hp hq h
    go_enter Tryz.func30, Tryz.ntmps30
    go_wp2_with fail
    refine (C _).out.mono ?_
    rintro e w1 ⟨rfl, n0, rfl⟩
    go_wp2_with fail
    refine (CQ _).out.mono ?_
    rintro e w' ⟨rfl, rfl⟩
    go_wp2_with fail
    go_ret2
    exact ⟨rfl, bdrewN (Below.refl _ _) n0⟩
  · have C := fun w => Lib.hid (specPV_no s w hp)
    clear hp h
    go_enter Tryz.func30, Tryz.ntmps30
    go_wp2_with fail
    refine (C _).out.mono ?_
    rintro e w1 ⟨rfl, n0, rfl⟩
    go_wp2_with fail
    go_ret2
    exact ⟨rfl, bdrewN (Below.refl _ _) n0⟩
end Go.Proofs.YtkgdhlpmlpbbkaaGreat

namespace Go.Proofs.YtkgdhlpmlpbbkaaGreat
open Go.RowKit Tm Go.Great Classical

theorem readH_yes (s : ByteArray) (w : World) {t : Tm} (ht : Ok false true t) (hs : s.data.toList = t.ser) (hl : s.size ≤ 200) :
    Calls Tryz.prog 109 #[.string s, .int .u8 116] w fun e w' => ∃ xc ya yn ym, e = .returned (.tuple #[.agg #[.int .u8 xc, .slice ya yn ym], .bool true]) ∧ RepH w' w.heap.size t (.int .u8 xc) (.slice ya yn ym) ∧ Below w.heap.size w w' := by
  obtain ⟨kids, ek⟩ := emb_nd t
  refine (gread_yes (kc true) s w (by rw [← ek]; exact emb_ok ht rfl) (by rw [hs, ← ek, emb_ser]; simp [Fo.ser]) hl).mono ?_
  rintro e2 w' ⟨ya, ym, rfl, hr, hb⟩
  exact ⟨_, ya, _, ym, rfl, ⟨kids, ek, hr⟩, hb⟩
def IsT (s : ByteArray) : Prop := Valid false true s.data.toList ∧ s.size ≤ 200
theorem readT_no (s : ByteArray) (w : World) (h : ¬ IsT s) : Calls Tryz.prog 109 #[.string s, .int .u8 116] w fun e w' => e = .returned (.tuple #[.agg #[.int .u8 0, .slice none 0 0], .bool false]) ∧ Below w.heap.size w w' := read_no true s w h
def LoopPost (t : Tm) (p : Pg) (w : World) (e : Ending) (w' : World) : Prop := ∃ xc ya yn ym T u, e = .returned (.tuple #[.agg #[.int .u8 xc, .slice ya yn ym, .iface T (.agg u)], .bool true]) ∧ StV w' w.heap.size (.whl t p) (.iface 96 (.agg #[.int .u8 xc, .slice ya yn ym, .iface T (.agg u)])) ∧ Below w.heap.size w w'
def NoLoop (w : World) (e : Ending) (w' : World) : Prop := e = .returned (.tuple #[.agg #[.int .u8 0, .slice none 0 0, .nilIface], .bool false]) ∧ Below w.heap.size w w'
theorem RepH.keep {w w' : World} {B B' : Nat} (hc : ∀ b o v, B ≤ b → w.cell? ⟨b, o, none⟩ = some v → w'.cell? ⟨b, o, none⟩ = some v) (hB : B' ≤ B) {t : Tm} {x y : Value} (h : RepH w B t x y) : RepH w' B' t x y := by
  obtain ⟨kids, e, hr⟩ := h
  exact ⟨kids, e, hr.keep hc hB⟩
theorem StV.keep {w w' : World} {B B' : Nat} (hc : ∀ b o v, B ≤ b → w.cell? ⟨b, o, none⟩ = some v → w'.cell? ⟨b, o, none⟩ = some v) (hB : B' ≤ B) : ∀ {p : Pg} {v : Value}, StV w B p v → StV w' B' p v := by
  intro p
  induction p with
  | skip => exact fun h => h
  | asg x e => rintro v ⟨a, b, h, h1⟩; exact ⟨a, b, h, h1.keep hc hB⟩
  | seq p q ihp ihq => rintro v ⟨a, b, h, h1, h2⟩; exact ⟨a, b, h, ihp h1, ihq h2⟩
  | ite t p q ihp ihq => rintro v ⟨x, y, a, b, h, h0, h1, h2⟩; exact ⟨x, y, a, b, h, h0.keep hc hB, ihp h1, ihq h2⟩
  | whl t p ihp => rintro v ⟨x, y, a, h, h0, h1⟩; exact ⟨x, y, a, h, h0.keep hc hB, ihp h1⟩
  | cho p q ihp ihq => rintro v ⟨a, b, h, h1, h2⟩; exact ⟨a, b, h, ihp h1, ihq h2⟩
  | asm t => rintro v ⟨x, y, h, h0⟩; exact ⟨x, y, h, h0.keep hc hB⟩
set_option maxRecDepth 100000 in
set_option maxHeartbeats 4000000 in
theorem readLoop_yes (s b : ByteArray) {t : Tm} {p : Pg} (ht : Ok false true t) (hs : s.data.toList = t.ser) (hl : s.size ≤ 200) (hp : p.ok false) (he : b.data.toList = p.ser) (hl2 : b.size ≤ 200) (w : World) : Calls Tryz.prog 65 #[.string s, .string b] w (LoopPost t p w) := by
  have C1 := fun w => Lib.hid (readH_yes s w ht hs hl)
  have C2 := fun w => Lib.hid (prog_yes b w hp he hl2)
  clear ht hs hl hp he hl2
  have K0 := Lib.hid (Blk.new w #[.int .u8 0, .slice none 0 0, .nilIface] 96)
  have KB := Lib.hid ((Below.refl w.heap.size w).alloc (Nat.le_refl _) (.cells #[.int .u8 0, .slice none 0 0, .nilIface] 96))
  go_enter Tryz.func65, Tryz.ntmps65
  go_wp2_with fail
  generalize w.alloc (.cells #[.int .u8 0, .slice none 0 0, .nilIface] 96) = w0 at *
  have K0a : Hid (w.heap.size + 1 ≤ w0.heap.size) := K0.out.lt
  refine (C1 _).out.mono ?_
  rintro e w1 ⟨xc, ya, yn, ym, rfl, hr, hb⟩
  replace K0 := Lib.hid (K0.out.kept hb)
  have HR := Lib.hid (hr.keep (fun _ _ _ _ h => h) (show w.heap.size + 1 ≤ w0.heap.size from K0a.out))
  replace KB := Lib.hid (bnext KB.out hb)
  clear hb hr
  go_wp2_with fail
  have P0 := Lib.hid (Blk.new w1 #[.int .u8 xc, .slice ya yn ym] 90)
  have pb := (Below.refl w1.heap.size w1).alloc (Nat.le_refl _) (.cells #[.int .u8 xc, .slice ya yn ym] 90)
  replace K0 := Lib.hid (K0.out.kept pb)
  replace HR := Lib.hid (HR.out.below pb)
  replace KB := Lib.hid (bnext KB.out pb)
  clear pb
  generalize hwx : w1.alloc (.cells #[.int .u8 xc, .slice ya yn ym] 90) = wx at *
  clear hwx
  have HL : Hid (w.heap.size + 1 ≤ wx.heap.size) := K0.out.lt
  refine (C2 _).out.mono ?_
  rintro e w2 ⟨T, u, rfl, hst, hb⟩
  replace K0 := Lib.hid (K0.out.kept hb)
  replace P0 := Lib.hid (P0.out.kept hb)
  replace HR := Lib.hid (HR.out.below hb)
  have HS := Lib.hid (StV.keep (fun _ _ _ _ h => h) (show w.heap.size + 1 ≤ wx.heap.size from HL.out) hst)
  replace KB := Lib.hid (bnext KB.out hb)
  clear hb hst
  obtain ⟨q0, q1, q2⟩ := K0.out.c3
  obtain ⟨f0, f1, f2⟩ := K0.out.f3
  have p0 := P0.out.cell 0
  have p1 := P0.out.cell 1
  simp at p0 p1
  go_wp2_with fail
  have KE := Lib.hid (((KB.out.setCell (p := ⟨w.heap.size, 0, none⟩) (Nat.le_refl _) (.int .u8 xc)).setCell (p := ⟨w.heap.size, 1, none⟩) (Nat.le_refl _) (.slice ya yn ym)).setCell (p := ⟨w.heap.size, 2, none⟩) (Nat.le_refl _) (.iface T (.agg u)))
  have hck : ∀ b o v, w.heap.size + 1 ≤ b → w2.cell? ⟨b, o, none⟩ = some v → (((w2.setCell ⟨w.heap.size, 0, none⟩ (.int .u8 xc)).setCell ⟨w.heap.size, 1, none⟩ (.slice ya yn ym)).setCell ⟨w.heap.size, 2, none⟩ (.iface T (.agg u))).cell? ⟨b, o, none⟩ = some v := by
    intro b o v hb h
    rw [World.cell?_setCell_other _ _ _ _ (by intro e; injection e; omega), World.cell?_setCell_other _ _ _ _ (by intro e; injection e; omega), World.cell?_setCell_other _ _ _ _ (by intro e; injection e; omega)]
    exact h
  have HR2 := Lib.hid (HR.out.keep hck (Nat.le_succ _))
  have HS2 := Lib.hid (StV.keep hck (Nat.le_succ _) HS.out)
  clear hck
  have a0 : (((w2.setCell ⟨w.heap.size, 0, none⟩ (.int .u8 xc)).setCell ⟨w.heap.size, 1, none⟩ (.slice ya yn ym)).setCell ⟨w.heap.size, 2, none⟩ (.iface T (.agg u))).cell? ⟨w.heap.size, 0, none⟩ = some (.int .u8 xc) := by simp [go_sem, q0]
  have a1 : (((w2.setCell ⟨w.heap.size, 0, none⟩ (.int .u8 xc)).setCell ⟨w.heap.size, 1, none⟩ (.slice ya yn ym)).setCell ⟨w.heap.size, 2, none⟩ (.iface T (.agg u))).cell? ⟨w.heap.size, 1, none⟩ = some (.slice ya yn ym) := by simp [go_sem, q1]
  have a2 : (((w2.setCell ⟨w.heap.size, 0, none⟩ (.int .u8 xc)).setCell ⟨w.heap.size, 1, none⟩ (.slice ya yn ym)).setCell ⟨w.heap.size, 2, none⟩ (.iface T (.agg u))).cell? ⟨w.heap.size, 2, none⟩ = some (.iface T (.agg u)) := by simp [go_sem, q2]
  exact bodyPost_ret (v := .tuple #[.agg #[.int .u8 xc, .slice ya yn ym, .iface T (.agg u)], .bool true]) (by simp [results, Tryz.results65, go_sem, a0, a1, a2]) rfl ⟨xc, ya, yn, ym, T, u, rfl, ⟨_, _, _, rfl, HR2.out, HS2.out⟩, KE.out⟩
set_option maxRecDepth 100000 in
set_option maxHeartbeats 4000000 in
theorem readLoop_no (s b : ByteArray) (h : ¬ (IsT s ∧ IsP b)) (w : World) : Calls Tryz.prog 65 #[.string s, .string b] w (NoLoop w) := by
  have K0 := Lib.hid (Blk.new w #[.int .u8 0, .slice none 0 0, .nilIface] 96)
  have KB := Lib.hid ((Below.refl w.heap.size w).alloc (Nat.le_refl _) (.cells #[.int .u8 0, .slice none 0 0, .nilIface] 96))
  have fin : ∀ (w2 : World), Blk w2 w.heap.size #[.int .u8 0, .slice none 0 0, .nilIface] 96 → Below w.heap.size w w2 → Blk (((w2.setCell ⟨w.heap.size, 0, none⟩ (.int .u8 0)).setCell ⟨w.heap.size, 1, none⟩ (.slice none 0 0)).setCell ⟨w.heap.size, 2, none⟩ .nilIface) w.heap.size #[.int .u8 0, .slice none 0 0, .nilIface] 96 ∧ Below w.heap.size w (((w2.setCell ⟨w.heap.size, 0, none⟩ (.int .u8 0)).setCell ⟨w.heap.size, 1, none⟩ (.slice none 0 0)).setCell ⟨w.heap.size, 2, none⟩ .nilIface) := by
    intro w2 h1 h2
    exact ⟨((h1.set 0 _).set 1 _).set 2 _, ((h2.setCell (p := ⟨w.heap.size, 0, none⟩) (Nat.le_refl _) _).setCell (p := ⟨w.heap.size, 1, none⟩) (Nat.le_refl _) _).setCell (p := ⟨w.heap.size, 2, none⟩) (Nat.le_refl _) _⟩
  have FIN := Lib.hid fin
  clear fin
  by_cases ht : IsT s
  · have hp : ¬ IsP b := fun hp => h ⟨ht, hp⟩
    obtain ⟨⟨t, ht, hs⟩, hl⟩ := ht
    have C1 := fun w => Lib.hid (readH_yes s w ht hs hl)
    have C2 := fun w => Lib.hid (prog_no b w hp)
    clear ht hs hl h hp
    go_enter Tryz.func65, Tryz.ntmps65
    go_wp2_with fail
    generalize w.alloc (.cells #[.int .u8 0, .slice none 0 0, .nilIface] 96) = w0 at *
    refine (C1 _).out.mono ?_
    rintro e w1 ⟨xc, ya, yn, ym, rfl, hr, hb⟩
    replace K0 := Lib.hid (K0.out.kept hb)
    replace KB := Lib.hid (bnext KB.out hb)
    clear hb hr
    go_wp2_with fail
    have pb := (Below.refl w1.heap.size w1).alloc (Nat.le_refl _) (.cells #[.int .u8 xc, .slice ya yn ym] 90)
    replace K0 := Lib.hid (K0.out.kept pb)
    replace KB := Lib.hid (bnext KB.out pb)
    clear pb
    refine (C2 _).out.mono ?_
    rintro e w2 ⟨rfl, hb⟩
    replace K0 := Lib.hid (K0.out.kept hb)
    replace KB := Lib.hid (bnext KB.out hb)
    clear hb
    obtain ⟨q0, q1, q2⟩ := K0.out.c3
    obtain ⟨f0, f1, f2⟩ := K0.out.f3
    obtain ⟨g1, g2⟩ := FIN.out w2 K0.out KB.out
    have G2 := Lib.hid g2
    obtain ⟨a0, a1, a2⟩ := g1.c3
    clear g1 g2
    go_wp2_with fail
    exact bodyPost_ret (v := .tuple #[.agg #[.int .u8 0, .slice none 0 0, .nilIface], .bool false]) (by simp [results, Tryz.results65, go_sem, a0, a1, a2]) rfl ⟨rfl, G2.out⟩
  · have C1 := fun w => Lib.hid (readT_no s w ht)
    by_cases hp : IsP b
    · obtain ⟨⟨p, hp, he⟩, hl⟩ := hp
      have C2 := fun w => Lib.hid (prog_yes b w hp he hl)
      clear ht hp he hl h
      go_enter Tryz.func65, Tryz.ntmps65
      go_wp2_with fail
      generalize w.alloc (.cells #[.int .u8 0, .slice none 0 0, .nilIface] 96) = w0 at *
      refine (C1 _).out.mono ?_
      rintro e w1 ⟨rfl, hb⟩
      replace K0 := Lib.hid (K0.out.kept hb)
      replace KB := Lib.hid (bnext KB.out hb)
      clear hb
      go_wp2_with fail
      have pb := (Below.refl w1.heap.size w1).alloc (Nat.le_refl _) (.cells #[.int .u8 0, .slice none 0 0] 90)
      replace K0 := Lib.hid (K0.out.kept pb)
      replace KB := Lib.hid (bnext KB.out pb)
      clear pb
      refine (C2 _).out.mono ?_
      rintro e w2 ⟨T, u, rfl, hst, hb⟩
      replace K0 := Lib.hid (K0.out.kept hb)
      replace KB := Lib.hid (bnext KB.out hb)
      clear hb hst
      obtain ⟨q0, q1, q2⟩ := K0.out.c3
      obtain ⟨f0, f1, f2⟩ := K0.out.f3
      obtain ⟨g1, g2⟩ := FIN.out w2 K0.out KB.out
      have G2 := Lib.hid g2
      obtain ⟨a0, a1, a2⟩ := g1.c3
      clear g1 g2
      go_wp2_with fail
      exact bodyPost_ret (v := .tuple #[.agg #[.int .u8 0, .slice none 0 0, .nilIface], .bool false]) (by simp [results, Tryz.results65, go_sem, a0, a1, a2]) rfl ⟨rfl, G2.out⟩
    · have C2 := fun w => Lib.hid (prog_no b w hp)
      clear ht hp h
      go_enter Tryz.func65, Tryz.ntmps65
      go_wp2_with fail
      generalize w.alloc (.cells #[.int .u8 0, .slice none 0 0, .nilIface] 96) = w0 at *
      refine (C1 _).out.mono ?_
      rintro e w1 ⟨rfl, hb⟩
      replace K0 := Lib.hid (K0.out.kept hb)
      replace KB := Lib.hid (bnext KB.out hb)
      clear hb
      go_wp2_with fail
      have pb := (Below.refl w1.heap.size w1).alloc (Nat.le_refl _) (.cells #[.int .u8 0, .slice none 0 0] 90)
      replace K0 := Lib.hid (K0.out.kept pb)
      replace KB := Lib.hid (bnext KB.out pb)
      clear pb
      refine (C2 _).out.mono ?_
      rintro e w2 ⟨rfl, hb⟩
      replace K0 := Lib.hid (K0.out.kept hb)
      replace KB := Lib.hid (bnext KB.out hb)
      clear hb
      obtain ⟨q0, q1, q2⟩ := K0.out.c3
      obtain ⟨f0, f1, f2⟩ := K0.out.f3
      obtain ⟨g1, g2⟩ := FIN.out w2 K0.out KB.out
      have G2 := Lib.hid g2
      obtain ⟨a0, a1, a2⟩ := g1.c3
      clear g1 g2
      go_wp2_with fail
      exact bodyPost_ret (v := .tuple #[.agg #[.int .u8 0, .slice none 0 0, .nilIface], .bool false]) (by simp [results, Tryz.results65, go_sem, a0, a1, a2]) rfl ⟨rfl, G2.out⟩
end Go.Proofs.YtkgdhlpmlpbbkaaGreat

namespace Go.Proofs.YtkgdhlpmlpbbkaaGreat

section
variable {M : Mdl} {G : List Stp}

/-- The graph without a way on from a stop. -/
def shutG (G : List Stp) (s : Nat) : List Stp := G.set s ⟨none, []⟩
theorem shut_at {s : Nat} (h : s < G.length) : (shutG G s)[s]? = some ⟨none, []⟩ := by simp [shutG, h]
theorem shut_ne {s k : Nat} (h : k ≠ s) : (shutG G s)[k]? = G[k]? := by
  unfold shutG
  exact List.getElem?_set_ne (fun e => h e.symm)
theorem shut_nil {s i : Nat} (h : s < G.length) : nxp M (shutG G s) (s, i) = [] := by simp [nxp, shut_at h, after]
theorem shut_edge {s : Nat} {x y : Pt} (hx : x.1 ≠ s) (h : Edge M G x y) : Edge M (shutG G s) x y := by
  unfold Edge nxp at *
  rw [shut_ne hx]; exact h
/-- The first time that a run comes to a stop. -/
theorem first_at {s j : Nat} {n : Nat} {y z : Pt} (h : Way M G n y z) : z = (s, j) → ∃ v k, k ≤ n ∧ Star (Edge M (shutG G s)) y (s, v) ∧ Way M G k (s, v) (s, j) := by
  induction h with
  | nil x => rintro rfl; exact ⟨j, 0, Nat.le_refl _, .refl _, .nil _⟩
  | cons e w ih =>
    rename_i n x y z
    intro hz
    by_cases hx : x.1 = s
    · refine ⟨x.2, n + 1, Nat.le_refl _, ?_, ?_⟩
      · rw [show x = (s, x.2) from Prod.ext hx rfl]; exact .refl _
      · have h2 := Way.cons e w
        rw [hz, show x = (s, x.2) from Prod.ext hx rfl] at h2
        exact h2
    · obtain ⟨v, k, hk, h1, h2⟩ := ih hz
      exact ⟨v, k, by omega, .head (shut_edge hx e) h1, h2⟩
theorem whl_heads {t : Tm} {p : Pg} {s m a i j : Nat} (h : G[s]? = some ⟨some (.whl t p), [m, a]⟩) (h1 : Lay G p m s) (h2 : Lay (shutG G s) p m s) (ha : ∀ i, nxp M G (a, i) = []) (hne : a ≠ s) :
    Star (Edge M G) (s, i) (s, j) ↔ Star (fun u v => M.t t u = true ∧ Fin M p u v) i j := by
  have hs := getG_lt h
  refine ⟨fun hst => ?_, whl_way h h1⟩
  obtain ⟨n, hn⟩ := Way.of hst
  clear hst
  revert i
  induction n using Nat.strongRecOn with
  | ind n ih =>
  intro i hn
  generalize hz : (s, j) = z at hn
  generalize hy : (s, i) = y at hn
  cases hn with
  | nil => cases hz; cases hy; exact .refl _
  | cons e w =>
    rename_i n' y'
    subst hz
    subst hy
    unfold Edge at e
    rw [nx_whl h] at e
    by_cases ht : M.t t i = true
    · rw [if_pos ht] at e
      simp at e
      subst e
      obtain ⟨v, k, hk, h3, h4⟩ := first_at w rfl
      obtain ⟨n2, hn2⟩ := Way.of h3
      rcases way_fin (shut_nil hs) n2 p m s i h2 hn2 with ⟨_, q, nx, h5⟩ | ⟨v2, k2, _, hf, hw⟩
      · rw [show (s, v).1 = s from rfl, shut_at hs] at h5; cases h5
      · have : v2 = v := by
          cases hw with
          | nil => rfl
          | cons e' _ => unfold Edge at e'; rw [shut_nil hs] at e'; cases e'
        subst this
        exact .head ⟨ht, hf⟩ (ih k (by omega) h4)
    · rw [if_neg ht] at e
      simp at e
      subst e
      exfalso
      generalize hz : (s, j) = z at w
      generalize hy : (a, i) = y at w
      cases w with
      | nil => rw [← hz] at hy; exact hne (Prod.mk.inj hy).1
      | cons e' _ => subst hy; unfold Edge at e'; rw [ha] at e'; cases e'
end
end Go.Proofs.YtkgdhlpmlpbbkaaGreat

namespace Go.Proofs.YtkgdhlpmlpbbkaaGreat
open Go.RowKit Tm Go.Great Classical

theorem whl_flow (t : Tm) (p : Pg) : flS (.whl t p) = 1 ∧ ∃ m, (flG (.whl t p))[1]? = some ⟨some (.whl t p), [m, 0]⟩ ∧ Lay (flG (.whl t p)) p m 1 ∧ Lay (shutG (flG (.whl t p)) 1) p m 1 := by
  refine ⟨rfl, ?_⟩
  have hk := layF_ok p 1 ([⟨none, []⟩] ++ [⟨some (.whl t p), [0, 0]⟩])
  have hl := hk.len
  have hlay := hk.lay
  have e : flG (.whl t p) = (layF p 1 ([⟨none, []⟩] ++ [⟨some (.whl t p), [0, 0]⟩])).1.set 1 ⟨some (.whl t p), [(layF p 1 ([⟨none, []⟩] ++ [⟨some (.whl t p), [0, 0]⟩])).2, 0]⟩ := rfl
  generalize (layF p 1 ([⟨none, []⟩] ++ [⟨some (.whl t p), [0, 0]⟩])).1 = G1 at *
  generalize (layF p 1 ([⟨none, []⟩] ++ [⟨some (.whl t p), [0, 0]⟩])).2 = m at *
  have hl2 : 2 < G1.length := by simpa using hl
  rw [e]
  refine ⟨m, by rw [List.getElem?_set_self (by omega)], hlay _ fun k h1 h2 => ?_, hlay _ fun k h1 h2 => ?_⟩
  · have : 2 ≤ k := by simpa using h1
    rw [List.getElem?_set_ne (by omega)]
  · have : 2 ≤ k := by simpa using h1
    unfold shutG
    rw [List.getElem?_set_ne (by omega), List.getElem?_set_ne (by omega)]
/-- The states in which the test of a loop is looked at, from the states of a set. -/
noncomputable def stS (F : Nat → Bool) (B : Nat → Nat → Bool) (S : Nat → Bool) : Nat → Bool := fun j => upto 27 (fun q => S q && hdS F B q j)
theorem hdS_iff {F : Nat → Bool} {B : Nat → Nat → Bool} {i j : Nat} : hdS F B i j = true ↔ Star (HR F B) i j := by unfold hdS; exact decide_eq_true_iff
theorem heads_pure {t : Tm} {p : Pg} {m : Mp} {S F : Nat → Bool} {lo bl : Bool} (hp : p.ok false) (h : Wk (flG (.whl t p)) (flS (.whl t p)) S 27 m F lo bl) (hT : Top (flG (.whl t p))) : ∀ j, j < 27 → (m (flS (.whl t p), j)).isSome = stS (tst t) (rT p) S j := by
  intro j hj
  obtain ⟨e1, x, h1, h2, h3⟩ := whl_flow t p
  have hk := h.kn (flS (.whl t p), j)
  rw [e1] at hk ⊢
  rw [Bool.eq_iff_iff]
  unfold stS
  rw [upto_iff]
  have e2 : (m (1, j)).isSome = true ↔ m (1, j) ≠ none := by cases m (1, j) <;> simp
  rw [e2, hk]
  have hw : ∀ q, q < 27 → (Star (Edge mdl (flG (.whl t p))) (1, q) (1, j) ↔ hdS (tst t) (rT p) q j = true) := by
    intro q hq
    rw [hdS_iff, star_hr hp hq]
    exact whl_heads h1 h2 h3 (fun i => nx_end hT) (by omega)
  constructor
  · rintro ⟨q, hq, hS, hs⟩
    exact ⟨q, hq, by rw [hS, Bool.true_and]; exact (hw q hq).1 hs⟩
  · rintro ⟨q, hq, hs⟩
    rw [Bool.and_eq_true] at hs
    exact ⟨q, hq, hs.1, (hw q hq).2 hs.2⟩
theorem stS_one {F : Nat → Bool} {B : Nat → Nat → Bool} {i j : Nat} (hi : i < 27) : stS F B (fun q => q == i) j = hdS F B i j := by
  unfold stS
  rw [Bool.eq_iff_iff, upto_iff]
  constructor
  · rintro ⟨q, _, h⟩
    rw [Bool.and_eq_true] at h
    rw [← eq_of_beq h.1]; exact h.2
  · exact fun h => ⟨i, hi, by simp [h]⟩
end Go.Proofs.YtkgdhlpmlpbbkaaGreat

namespace Go.Proofs.YtkgdhlpmlpbbkaaGreat
open Go.RowKit Tm Go.Great Classical

theorem whl_all {t : Tm} {p : Pg} {b : ByteArray} (he : b.data.toList = p.ser) (hl : b.size ≤ 200) : (Pg.whl t p).all.length ≤ 900 := by
  have h1 := p.all_le
  have h2 := ser_200 he hl
  have h3 : (Pg.whl t p).all.length = p.all.length + 1 := by simp [Pg.all]
  omega
theorem whl_ok {t : Tm} {p : Pg} (ht : Ok false true t) (hp : p.ok false) : (Pg.whl t p).ok false := ⟨ht, hp⟩
end Go.Proofs.YtkgdhlpmlpbbkaaGreat

namespace Go.Proofs.YtkgdhlpmlpbbkaaGreat
open Go.RowKit Tm Go.Great Classical

def stH (F : Nat → Bool) (B : Nat → Nat → Bool) (H : Nat → Bool) : Nat → Bool := fun j => H j || postS (fun i => H i && F i) B 27 j
theorem stH_iff {F : Nat → Bool} {B : Nat → Nat → Bool} {H : Nat → Bool} {j : Nat} : stH F B H j = true ↔ H j = true ∨ ∃ i, i < 27 ∧ H i = true ∧ F i = true ∧ B i j = true := by
  unfold stH postS
  rw [Bool.or_eq_true, upto_iff]
  constructor
  · rintro (h | ⟨i, hi, h⟩)
    · exact .inl h
    · simp only [Bool.and_eq_true] at h
      exact .inr ⟨i, hi, h.1.1, h.1.2, h.2⟩
  · rintro (h | ⟨i, hi, h1, h2, h3⟩)
    · exact .inl h
    · exact .inr ⟨i, hi, by simp [h1, h2, h3]⟩
theorem stH_congr {F : Nat → Bool} {B : Nat → Nat → Bool} {H G : Nat → Bool} (h : ∀ i, i < 27 → H i = G i) : ∀ j, j < 27 → stH F B H j = stH F B G j := by
  intro j hj
  rw [Bool.eq_iff_iff, stH_iff, stH_iff, h j hj]
  constructor
  · rintro (h1 | ⟨i, hi, h1, h2⟩)
    · exact .inl h1
    · exact .inr ⟨i, hi, by rw [← h i hi]; exact h1, h2⟩
  · rintro (h1 | ⟨i, hi, h1, h2⟩)
    · exact .inl h1
    · exact .inr ⟨i, hi, by rw [h i hi]; exact h1, h2⟩
theorem stS_iff {F : Nat → Bool} {B : Nat → Nat → Bool} {S : Nat → Bool} {j : Nat} : stS F B S j = true ↔ ∃ q, q < 27 ∧ S q = true ∧ Star (HR F B) q j := by
  unfold stS
  rw [upto_iff]
  constructor
  · rintro ⟨q, hq, h⟩
    rw [Bool.and_eq_true, hdS_iff] at h
    exact ⟨q, hq, h⟩
  · rintro ⟨q, hq, h⟩
    exact ⟨q, hq, by rw [Bool.and_eq_true, hdS_iff]; exact h⟩
structure StInv (F : Nat → Bool) (B : Nat → Nat → Bool) (S H : Nat → Bool) : Prop where
  sub : ∀ j, j < 27 → S j = true → H j = true
  ins : ∀ j, j < 27 → H j = true → stS F B S j = true
theorem StInv.start (F : Nat → Bool) (B : Nat → Nat → Bool) (S : Nat → Bool) : StInv F B S S := ⟨fun _ _ h => h, fun j hj h => stS_iff.2 ⟨j, hj, h, .refl _⟩⟩
theorem StInv.step {F : Nat → Bool} {B : Nat → Nat → Bool} {S H : Nat → Bool} (h : StInv F B S H) : StInv F B S (stH F B H) where
  sub := fun j hj hs => stH_iff.2 (.inl (h.sub j hj hs))
  ins := by
    intro j hj hh
    rcases stH_iff.1 hh with h1 | ⟨i, hi, h1, h2, h3⟩
    · exact h.ins j hj h1
    · obtain ⟨q, hq, h4, h5⟩ := stS_iff.1 (h.ins i hi h1)
      exact stS_iff.2 ⟨q, hq, h4, h5.tail ⟨hi, hj, h2, h3⟩⟩
theorem StInv.done {F : Nat → Bool} {B : Nat → Nat → Bool} {S H : Nat → Bool} (h : StInv F B S H) (e : nb 27 (stH F B H) = nb 27 H) : nb 27 H = nb 27 (stS F B S) := by
  refine nb_congr fun j hj => ?_
  rw [Bool.eq_iff_iff]
  refine ⟨h.ins j hj, fun hs => ?_⟩
  obtain ⟨q, hq, h1, h2⟩ := stS_iff.1 hs
  have : ∀ u v : Nat, Star (HR F B) u v → H u = true → H v = true := by
    intro u v hst
    induction hst with
    | refl => exact id
    | head h3 _ ih =>
      intro hu
      refine ih ?_
      rw [← nb_inj e _ h3.2.1]
      exact stH_iff.2 (.inr ⟨_, h3.1, hu, h3.2.2.1, h3.2.2.2⟩)
  exact this q j h2 (h.sub q hq h1)
theorem stH_le {F : Nat → Bool} {B : Nat → Nat → Bool} {H : Nat → Bool} : nb 27 H ≤ nb 27 (stH F B H) := nb_mono fun _ _ h => stH_iff.2 (.inl h)
theorem stH_stop {F : Nat → Bool} {B : Nat → Nat → Bool} {H : Nat → Bool} (e : nb 27 H = nb 27 (stH F B H)) : nb 27 (stH F B (stH F B H)) = nb 27 (stH F B H) := nb_congr (stH_congr fun i hi => (nb_inj e i hi).symm)

theorem run_bs {b : ByteArray} {p : Pg} (hp : p.ok false) (he : b.data.toList = p.ser) (hl : b.size ≤ 200) (w : World) : Calls Tryz.prog 47 #[.string b] w (AllPost (rT p) (rL p) (rK p) w) := by
  have := run_any p hp (ser_200 he hl) w
  rwa [← bs_of he] at this
theorem tb_of_nb {F G : Nat → Bool} (h : nb 27 F = nb 27 G) : tb F = tb G := tb_congr fun i hi => nb_inj h i hi
end Go.Proofs.YtkgdhlpmlpbbkaaGreat

namespace Go.Proofs.YtkgdhlpmlpbbkaaGreat
open Go.RowKit Tm Go.Great Classical

def ixh (x y z : Int) : Nat := (x + 3 * y + 9 * z).toNat
theorem ixh_lt {x y z : Int} (h : st3 x y z = true) : ixh x y z < 27 ∧ ((ixh x y z : Nat) : Int) = x + 3 * y + 9 * z := by
  have h := st3_lt h
  unfold ixh; omega
set_option maxRecDepth 100000 in
set_option maxHeartbeats 4000000 in
theorem implHead_yes (s b : ByteArray) {t : Tm} {p : Pg} (ht : Ok false true t) (hs0 : s.data.toList = t.ser) (hl : s.size ≤ 200) (hp : p.ok false) (he : b.data.toList = p.ser) (hl2 : b.size ≤ 200) (x y z : Int) (hst : st3 x y z = true) (w : World) : Calls Tryz.prog 22 #[.string s, .string b, .agg #[.int .i64 x, .int .i64 y, .int .i64 z]] w (TextPost (hdS (tst t) (rT p) (ixh x y z)) w) := by
  have CL := fun w => Lib.hid (readLoop_yes s b ht hs0 hl hp he hl2 w)
  have CF := fun B v w hv => Lib.hid (flowOf_any (.whl t p) B v w hv (whl_ok ht hp) (whl_all he hl2))
  have CW := fun {w1 : World} {B : Nat} {sp : Value} (hF : FlowOk w1 B sp (flS (.whl t p)) (flG (.whl t p))) (w : World) (hb : Below w1.heap.size w1 w) => Lib.hid (walkFrom_any hF (fun j => j == ixh x y z) w hb)
  have hi := ixh_lt hst
  have V := fun w => Lib.hid (implStateValid x y z w)
  rw [hst] at V
  have I := fun w => Lib.hid (implIx_yes x y z w hst)
  rw [← hi.2] at I
  have W0 := fun w => Lib.hid (implWith0 (ixh x y z) w hi.1)
  have HI := Lib.hid hi.1
  have HP := Lib.hid hp
  have P0 := Lib.hid (Blk.new w #[.int .i64 x, .int .i64 y, .int .i64 z] 33)
  have KB := Lib.hid ((Below.refl w.heap.size w).alloc (Nat.le_refl _) (.cells #[.int .i64 x, .int .i64 y, .int .i64 z] 33))
  clear ht hs0 hl hp he hl2 hi hst
  go_enter Tryz.func22, Tryz.ntmps22
  go_wp2_with fail
  generalize w.alloc (.cells #[.int .i64 x, .int .i64 y, .int .i64 z] 33) = w0 at *
  refine (CL _).out.mono ?_
  rintro e w1 ⟨xc, ya, yn, ym, T, u, rfl, hst, hb⟩
  replace P0 := Lib.hid (P0.out.kept hb)
  replace KB := Lib.hid (bnext KB.out hb)
  clear hb
  have Q0 := Lib.hid (Blk.new w1 #[.int .u8 xc, .slice ya yn ym, .iface T (.agg u)] 96)
  have pb := (Below.refl w1.heap.size w1).alloc (Nat.le_refl _) (.cells #[.int .u8 xc, .slice ya yn ym, .iface T (.agg u)] 96)
  have HS := Lib.hid (StV.below pb hst)
  replace P0 := Lib.hid (P0.out.kept pb)
  replace KB := Lib.hid (bnext KB.out pb)
  obtain ⟨p0, p1, p2⟩ := P0.out.c3
  clear pb hst
  go_wp2_with fail
  clear p0 p1 p2
  generalize w1.alloc (.cells #[.int .u8 xc, .slice ya yn ym, .iface T (.agg u)] 96) = wx at *
  obtain ⟨g, hg⟩ : ∃ g, w1.heap.size = g := ⟨_, rfl⟩
  rw [hg] at Q0 ⊢
  clear hg
  refine (V _).out.mono ?_
  rintro e w2 ⟨rfl, hb⟩
  replace P0 := Lib.hid (P0.out.kept hb)
  replace Q0 := Lib.hid (Q0.out.kept hb)
  replace HS := Lib.hid (StV.below hb HS.out)
  replace KB := Lib.hid (bnext KB.out hb)
  clear hb
  obtain ⟨p0, p1, p2⟩ := P0.out.c3
  go_wp2_with fail
  clear p0 p1 p2
  refine (I _).out.mono ?_
  rintro e w3 ⟨rfl, hb⟩
  replace Q0 := Lib.hid (Q0.out.kept hb)
  replace HS := Lib.hid (StV.below hb HS.out)
  replace KB := Lib.hid (bnext KB.out hb)
  clear hb
  go_wp2_with fail
  refine (W0 _).out.mono ?_
  rintro e w' ⟨rfl, rfl⟩
  obtain ⟨q0, q1, q2⟩ := Q0.out.c3
  go_wp2_with fail
  refine (CF _ _ _ HS.out).out.mono ?_
  rintro e w4 ⟨rb, cap, rfl, hF, hb⟩
  have HF := Lib.hid hF
  replace KB := Lib.hid (bnext KB.out hb)
  clear hb hF q0 q1 q2
  go_wp2_with fail
  refine (CW HF.out _ (Below.refl _ _)).out.mono ?_
  rintro e w5 ⟨bw, bm, m, F, lo, bl, rfl, k1, k2, k3, hb⟩
  replace KB := Lib.hid (bnext KB.out hb)
  have hEq := nb_congr (fun j hj => (heads_pure HP.out k3 HF.out.top j hj).trans (stS_one (F := tst t) (B := rT p) (j := j) HI.out))
  have HH := heads_any w5 k1 k2
  rw [hEq] at HH
  replace HH := Lib.hid HH
  clear hb k1 k2 k3 hEq
  go_wp2_with fail
  refine HH.out.mono ?_
  rintro e w6 ⟨rfl, hb⟩
  replace KB := Lib.hid (bnext KB.out hb)
  clear hb
  go_wp2_with fail
  refine (implText _ _).mono ?_
  rintro e w7 ⟨rfl, hb⟩
  replace KB := Lib.hid (bnext KB.out hb)
  clear hb
  go_wp2_with fail
  go_ret2
  exact ⟨rfl, KB.out⟩
set_option maxRecDepth 100000 in
set_option maxHeartbeats 4000000 in
theorem implHead_no (s b : ByteArray) (x y z : Int) (h : ¬ ((IsT s ∧ IsP b) ∧ st3 x y z = true)) (w : World) : Calls Tryz.prog 22 #[.string s, .string b, .agg #[.int .i64 x, .int .i64 y, .int .i64 z]] w (NoPost w) := by
  have V := fun w => Lib.hid (implStateValid x y z w)
  have P0 := Lib.hid (Blk.new w #[.int .i64 x, .int .i64 y, .int .i64 z] 33)
  have KB := Lib.hid ((Below.refl w.heap.size w).alloc (Nat.le_refl _) (.cells #[.int .i64 x, .int .i64 y, .int .i64 z] 33))
  by_cases hx : IsT s ∧ IsP b
  · have hst : st3 x y z = false := by
      cases hv : st3 x y z
      · rfl
      · exact absurd ⟨hx, hv⟩ h
    rw [hst] at V
    obtain ⟨⟨⟨t, ht, hs0⟩, hl⟩, ⟨⟨p, hp, he⟩, hl2⟩⟩ := hx
    have CL := fun w => Lib.hid (readLoop_yes s b ht hs0 hl hp he hl2 w)
    clear ht hs0 hl hp he hl2 hst h
    go_enter Tryz.func22, Tryz.ntmps22
    go_wp2_with fail
    generalize w.alloc (.cells #[.int .i64 x, .int .i64 y, .int .i64 z] 33) = w0 at *
    refine (CL _).out.mono ?_
    rintro e w1 ⟨xc, ya, yn, ym, T, u, rfl, hst, hb⟩
    replace P0 := Lib.hid (P0.out.kept hb)
    replace KB := Lib.hid (bnext KB.out hb)
    clear hb hst
    have pb := (Below.refl w1.heap.size w1).alloc (Nat.le_refl _) (.cells #[.int .u8 xc, .slice ya yn ym, .iface T (.agg u)] 96)
    replace P0 := Lib.hid (P0.out.kept pb)
    replace KB := Lib.hid (bnext KB.out pb)
    clear pb
    obtain ⟨p0, p1, p2⟩ := P0.out.c3
    go_wp2_with fail
    refine (V _).out.mono ?_
    rintro e w2 ⟨rfl, hb⟩
    replace KB := Lib.hid (bnext KB.out hb)
    clear hb
    go_wp2_with fail
    go_ret2
    exact ⟨rfl, KB.out⟩
  · have CL := fun w => Lib.hid (readLoop_no s b hx w)
    clear hx h
    go_enter Tryz.func22, Tryz.ntmps22
    go_wp2_with fail
    generalize w.alloc (.cells #[.int .i64 x, .int .i64 y, .int .i64 z] 33) = w0 at *
    refine (CL _).out.mono ?_
    rintro e w1 ⟨rfl, hb⟩
    replace KB := Lib.hid (bnext KB.out hb)
    clear hb
    have pb := (Below.refl w1.heap.size w1).alloc (Nat.le_refl _) (.cells #[.int .u8 0, .slice none 0 0, .nilIface] 96)
    replace KB := Lib.hid (bnext KB.out pb)
    clear pb
    go_wp2_with fail
    go_ret2
    exact ⟨rfl, KB.out⟩
end Go.Proofs.YtkgdhlpmlpbbkaaGreat

namespace Go.Proofs.YtkgdhlpmlpbbkaaGreat
open Go.RowKit Tm Go.Great Classical

theorem cells3 {w w' : World} {b : Nat} {x y z : Value} {t : TypeId} (h : Blk w b #[x, y, z] t) (hb : Below w.heap.size w w') : Below w.heap.size w w' ∧ w'.cell? ⟨b, 0, none⟩ = some x ∧ w'.cell? ⟨b, 1, none⟩ = some y ∧ w'.cell? ⟨b, 2, none⟩ = some z := ⟨hb, (h.kept hb).c3.1, (h.kept hb).c3.2.1, (h.kept hb).c3.2.2⟩
set_option maxRecDepth 100000 in
set_option maxHeartbeats 4000000 in
theorem specHead_yes (s b : ByteArray) {t : Tm} {p : Pg} (ht : Ok false true t) (hs0 : s.data.toList = t.ser) (hl : s.size ≤ 200) (hp : p.ok false) (he : b.data.toList = p.ser) (hl2 : b.size ≤ 200) (x y z : Int) (hst : st3 x y z = true) (w : World) : Calls Tryz.prog 23 #[.string s, .string b, .agg #[.int .i64 x, .int .i64 y, .int .i64 z]] w (TextPost (hdS (tst t) (rT p) (ixh x y z)) w) := by
  have C1 := fun w => Lib.hid (specTest_yes s w ⟨t, ht, hs0⟩ hl)
  have C2 := fun w => Lib.hid (specPV_yes b w ⟨p, hp, he⟩ hl2)
  have V := fun w => Lib.hid (specStateValid x y z w)
  rw [hst] at V
  have hi := ixh_lt hst
  have I := fun w => Lib.hid (specIx0 x y z w hst)
  rw [← hi.2] at I
  have CR := fun w => Lib.hid (run_bs hp he hl2 w)
  have CT := fun w => Lib.hid (specTest s t w (ok_wide ht) hs0 (by omega))
  have CH := fun w => Lib.hid (specHeads (tst t) (rT p) (rL p) (rK p) (ixh x y z) hi.1 w)
  have CX := fun w => Lib.hid (specTextS (hdS (tst t) (rT p) (ixh x y z)) w)
  have P0 := Lib.hid (Blk.new w #[.int .i64 x, .int .i64 y, .int .i64 z] 33)
  have KB := Lib.hid ((Below.refl w.heap.size w).alloc (Nat.le_refl _) (.cells #[.int .i64 x, .int .i64 y, .int .i64 z] 33))
  clear ht hs0 hl hp he hl2 hi hst
  go_enter Tryz.func23, Tryz.ntmps23
  go_wp2_with fail
  generalize w.alloc (.cells #[.int .i64 x, .int .i64 y, .int .i64 z] 33) = w0 at *
  refine (C1 _).out.mono ?_
  rintro e w1 ⟨rfl, n0, rfl⟩
  replace P0 := Lib.hid (P0.out.kept (bdrewN (Below.refl _ _) n0))
  replace KB := Lib.hid (bdrewN KB.out n0)
  go_wp2_with fail
  refine (C2 _).out.mono ?_
  rintro e w2 ⟨rfl, n1, rfl⟩
  replace P0 := Lib.hid (P0.out.kept (bdrewN (Below.refl _ _) n1))
  replace KB := Lib.hid (bdrewN KB.out n1)
  generalize (w0.drewN n0).drewN n1 = wa at *
  obtain ⟨p0, p1, p2⟩ := P0.out.c3
  go_wp2_with fail
  clear p0 p1 p2
  refine (V _).out.mono ?_
  rintro e w3 ⟨rfl, hb⟩
  replace P0 := Lib.hid (P0.out.kept hb)
  replace KB := Lib.hid (bnext KB.out hb)
  clear hb
  go_wp2_with fail
  obtain ⟨p0, p1, p2⟩ := P0.out.c3
  have hbb := (Below.refl w3.heap.size w3).drew
  go_region_held3 (fun w' => Below w3.heap.size w3 w' ∧ w'.cell? ⟨w.heap.size, 0, none⟩ = some (.int .i64 x) ∧ w'.cell? ⟨w.heap.size, 1, none⟩ = some (.int .i64 y) ∧ w'.cell? ⟨w.heap.size, 2, none⟩ = some (.int .i64 z))
    ((first
      | exact cells3 P0.out (by assumption)
      | (go_split_ands; exact cells3 P0.out (bnext (by assumption) hq))))
    (first
      | (go_at_call 73; (with_reducible refine (CT _).out.mono ?_); rintro e w5 ⟨rfl, hq⟩)
      | (go_at_call 47; (with_reducible refine (CR _).out.mono ?_); rintro e w5 ⟨rfl, hq⟩)
      | (go_at_call 74; (with_reducible refine (I _).out.mono ?_); rintro e w5 ⟨rfl, hq⟩)
      | (go_at_call 72; (with_reducible refine (CH _).out.mono ?_); rintro e w5 ⟨rfl, hq⟩)
      | (go_at_call 45; (with_reducible refine (CX _).out.mono ?_); rintro e w5 ⟨rfl, hq⟩))
  all_goals
    go_split_ands
    have HF := Lib.hid (bnext KB.out (by assumption))
    go_wp2_with fail
    go_ret2
    exact ⟨rfl, HF.out⟩
set_option maxRecDepth 100000 in
set_option maxHeartbeats 4000000 in
theorem specHead_no (s b : ByteArray) (x y z : Int) (h : ¬ ((IsT s ∧ IsP b) ∧ st3 x y z = true)) (w : World) : Calls Tryz.prog 23 #[.string s, .string b, .agg #[.int .i64 x, .int .i64 y, .int .i64 z]] w (NoPost w) := by
  have V := fun w => Lib.hid (specStateValid x y z w)
  have P0 := Lib.hid (Blk.new w #[.int .i64 x, .int .i64 y, .int .i64 z] 33)
  have KB := Lib.hid ((Below.refl w.heap.size w).alloc (Nat.le_refl _) (.cells #[.int .i64 x, .int .i64 y, .int .i64 z] 33))
  by_cases ht : IsT s
  · have C1 := fun w => Lib.hid (specTest_yes s w ht.1 ht.2)
    by_cases hp : IsP b
    · have C2 := fun w => Lib.hid (specPV_yes b w hp.1 hp.2)
      have hst : st3 x y z = false := by
        cases hv : st3 x y z
        · rfl
        · exact absurd ⟨⟨ht, hp⟩, hv⟩ h
      rw [hst] at V
      clear ht hp hst h
      go_enter Tryz.func23, Tryz.ntmps23
      go_wp2_with fail
      generalize w.alloc (.cells #[.int .i64 x, .int .i64 y, .int .i64 z] 33) = w0 at *
      refine (C1 _).out.mono ?_
      rintro e w1 ⟨rfl, n0, rfl⟩
      replace P0 := Lib.hid (P0.out.kept (bdrewN (Below.refl _ _) n0))
      replace KB := Lib.hid (bdrewN KB.out n0)
      go_wp2_with fail
      refine (C2 _).out.mono ?_
      rintro e w2 ⟨rfl, n1, rfl⟩
      replace P0 := Lib.hid (P0.out.kept (bdrewN (Below.refl _ _) n1))
      replace KB := Lib.hid (bdrewN KB.out n1)
      generalize (w0.drewN n0).drewN n1 = wa at *
      obtain ⟨p0, p1, p2⟩ := P0.out.c3
      go_wp2_with fail
      refine (V _).out.mono ?_
      rintro e w3 ⟨rfl, hb⟩
      replace KB := Lib.hid (bnext KB.out hb)
      clear hb
      go_wp2_with fail
      go_ret2
      exact ⟨rfl, KB.out⟩
    · have C2 := fun w => Lib.hid (specPV_no b w hp)
      clear ht hp h
      go_enter Tryz.func23, Tryz.ntmps23
      go_wp2_with fail
      generalize w.alloc (.cells #[.int .i64 x, .int .i64 y, .int .i64 z] 33) = w0 at *
      refine (C1 _).out.mono ?_
      rintro e w1 ⟨rfl, n0, rfl⟩
      replace KB := Lib.hid (bdrewN KB.out n0)
      go_wp2_with fail
      refine (C2 _).out.mono ?_
      rintro e w2 ⟨rfl, n1, rfl⟩
      replace KB := Lib.hid (bdrewN KB.out n1)
      generalize (w0.drewN n0).drewN n1 = wa at *
      go_wp2_with fail
      go_ret2
      exact ⟨rfl, KB.out⟩
  · have C1 := fun w => Lib.hid (specTest_no s w ht)
    clear ht h
    go_enter Tryz.func23, Tryz.ntmps23
    go_wp2_with fail
    generalize w.alloc (.cells #[.int .i64 x, .int .i64 y, .int .i64 z] 33) = w0 at *
    refine (C1 _).out.mono ?_
    rintro e w1 ⟨rfl, n0, rfl⟩
    replace KB := Lib.hid (bdrewN KB.out n0)
    go_wp2_with fail
    go_ret2
    exact ⟨rfl, KB.out⟩
end Go.Proofs.YtkgdhlpmlpbbkaaGreat
