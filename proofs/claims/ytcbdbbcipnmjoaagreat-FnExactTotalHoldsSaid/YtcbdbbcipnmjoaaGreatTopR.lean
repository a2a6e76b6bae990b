/-
  Several small texts in one: Mo Mp Mq Mr Ms.
-/
import Derived.Test.YtcbdbbcipnmjoaaGreatTopM
import Derived.Test.YtcbdbbcipnmjoaaGreatTopW
import Derived.Test.YtcbdbbcipnmjoaaGreatTopL
namespace Go.Proofs.YtcbdbbcipnmjoaaGreat
open Go.RowKit Tm Go.Great Classical

noncomputable def rT (p : Pg) : Nat → Nat → Bool := fun i j => decide (Fin mdl p i j)
noncomputable def rL (p : Pg) : Nat → Bool := fun i => decide (Lps mdl p i)
noncomputable def rK (p : Pg) : Nat → Bool := fun i => decide (Stk mdl p i)

theorem rT_iff {p : Pg} {i j : Nat} : rT p i j = true ↔ Fin mdl p i j := by unfold rT; exact decide_eq_true_iff
theorem rL_iff {p : Pg} {i : Nat} : rL p i = true ↔ Lps mdl p i := by unfold rL; exact decide_eq_true_iff
theorem rK_iff {p : Pg} {i : Nat} : rK p i = true ↔ Stk mdl p i := by unfold rK; exact decide_eq_true_iff
theorem fin_lt : ∀ {p : Pg}, p.ok false → ∀ {i j : Nat}, i < 27 → Fin mdl p i j → j < 27 := by
  intro p
  induction p with
  | skip => intro _ i j hi h; rw [show j = i from h]; exact hi
  | asg v e => intro hp i j hi h; rw [show j = asg v e i from h]; exact asg_lt hp.2 hi
  | seq a b iha ihb => intro hp i j hi ⟨m, h1, h2⟩; exact ihb hp.2 (iha hp.1 hi h1) h2
  | ite t a b iha ihb =>
    intro hp i j hi h
    unfold Fin at h
    split at h
    · exact iha hp.2.1 hi h
    · exact ihb hp.2.2 hi h
  | whl t a iha =>
    intro hp i j hi ⟨h, _⟩
    have : ∀ u v : Nat, Star (fun u v => mdl.t t u = true ∧ Fin mdl a u v) u v → u < 27 → v < 27 := by
      intro u v hs
      induction hs with
      | refl => exact id
      | head h1 _ ih => exact fun hu => ih (iha hp.2 hu h1.2)
    exact this i j h hi
  | cho a b iha ihb =>
    intro hp i j hi h
    rcases h with h | h
    · exact iha hp.1 hi h
    · exact ihb hp.2 hi h
  | asm t => intro _ i j hi h; rw [h.2]; exact hi

theorem upto_fin {p : Pg} (hp : p.ok false) {i : Nat} (hi : i < 27) {f : Nat → Bool} : upto 27 (fun q => rT p i q && f q) = true ↔ ∃ m, Fin mdl p i m ∧ f m = true := by
  rw [upto_iff]
  simp only [rT, Bool.and_eq_true, decide_eq_true_eq]
  exact ⟨fun ⟨q, _, h⟩ => ⟨q, h⟩, fun ⟨q, h1, h2⟩ => ⟨q, fin_lt hp hi h1, h1, h2⟩⟩
theorem star_hr {t : Tm} {a : Pg} (hp : a.ok false) {i j : Nat} (hi : i < 27) : Star (HR (tst t) (rT a)) i j ↔ Star (fun u v => mdl.t t u = true ∧ Fin mdl a u v) i j := by
  constructor
  · intro h
    induction h with
    | refl => exact .refl _
    | head h1 _ ih => exact .head ⟨h1.2.2.1, by simpa [rT] using h1.2.2.2⟩ (ih h1.2.1)
  · intro h
    induction h with
    | refl => exact .refl _
    | head h1 _ ih =>
      have hv := fin_lt hp hi h1.2
      exact .head ⟨hi, hv, h1.1, by simpa [rT] using h1.2⟩ (ih hv)
theorem en_iff {t : Tm} {a : Pg} (hp : a.ok false) {j : Nat} (hj : j < 27) : enS (tst t) (rT a) j = true ↔ ∃ S : Nat → Prop, S j ∧ ∀ u, S u → mdl.t t u = true ∧ ∃ v, Fin mdl a u v ∧ S v := by
  unfold enS
  rw [decide_eq_true_eq]
  constructor
  · intro ⟨S, hS, h⟩
    exact ⟨S, h, fun u hu => ⟨(hS u hu).2.1, by
      obtain ⟨v, _, h1, h2⟩ := (hS u hu).2.2
      exact ⟨v, by simpa [rT] using h1, h2⟩⟩⟩
  · intro ⟨S, h, hS⟩
    refine ⟨fun u => u < 27 ∧ S u, ?_, hj, h⟩
    intro u ⟨hu, hs⟩
    obtain ⟨h1, v, h2, h3⟩ := hS u hs
    have hv := fin_lt hp hu h2
    exact ⟨hu, h1, v, hv, by simpa [rT] using h2, hv, h3⟩
theorem hd_iff {t : Tm} {a : Pg} (hp : a.ok false) {i j : Nat} (hi : i < 27) : hdS (tst t) (rT a) i j = true ↔ Star (fun u v => mdl.t t u = true ∧ Fin mdl a u v) i j := by
  unfold hdS
  rw [decide_eq_true_eq, star_hr hp hi]
theorem star_lt {t : Tm} {a : Pg} (hp : a.ok false) {i j : Nat} (hi : i < 27) (h : Star (fun u v => mdl.t t u = true ∧ Fin mdl a u v) i j) : j < 27 := by
  induction h with
  | refl => exact hi
  | head h1 _ ih => exact ih (fin_lt hp hi h1.2)

theorem AllPost.as {T T' : Nat → Nat → Bool} {L L' K K' : Nat → Bool} {w w' : World} {e : Ending} (h : AllPost T L K w e w') (h1 : ∀ i, i < 27 → ∀ j, j < 27 → T i j = T' i j) (h2 : ∀ i, i < 27 → L i = L' i) (h3 : ∀ i, i < 27 → K i = K' i) : AllPost T' L' K' w e w' := by
  obtain ⟨rfl, hb⟩ := h
  exact ⟨by rw [allC_congr h1 h2 h3], hb⟩
theorem beq_dec (a b : Nat) : (a == b) = decide (a = b) := by
  rw [Bool.eq_iff_iff]; simp

theorem run_any (p : Pg) : ∀ (_ : p.ok false) (_ : p.ser.length ≤ 200) (w : World), Calls Tryz.prog 10 #[.string (bs p.ser)] w (AllPost (rT p) (rL p) (rK p) w) := by
  induction p with
  | skip =>
    intro hp hn w
    refine (lr_skip hp (by omega) w).mono fun e w' h => h.as (fun i _ j _ => ?_) (fun i _ => ?_) (fun i _ => ?_)
    · rw [Bool.eq_iff_iff]; simp [rT_iff, Fin]
    · rw [Bool.eq_iff_iff]; simp [rL_iff, Lps, noS]
    · rw [Bool.eq_iff_iff]; simp [rK_iff, Stk, noS]
  | asg c e =>
    intro hp hn w
    have hj : ∃ j, VarAt c j := by
      have h : c = 120 ∨ c = 121 ∨ c = 122 := by have := hp.1; simpa [isVarB, or_assoc] using this
      rcases h with rfl | rfl | rfl
      · exact ⟨0, .inl ⟨rfl, rfl⟩⟩
      · exact ⟨1, .inr (.inl ⟨rfl, rfl⟩)⟩
      · exact ⟨2, .inr (.inr ⟨rfl, rfl⟩)⟩
    obtain ⟨j, hj⟩ := hj
    refine (lr_asg c j hj e hp (by omega) w).mono fun e w' h => h.as (fun i _ j _ => ?_) (fun i _ => ?_) (fun i _ => ?_)
    · rw [Bool.eq_iff_iff]; simp [rT_iff, Fin, mdl]
    · rw [Bool.eq_iff_iff]; simp [rL_iff, Lps, noS]
    · rw [Bool.eq_iff_iff]; simp [rK_iff, Stk, noS]
  | seq a b iha ihb =>
    intro hp hn w
    have ha := mem_len (p := Pg.seq a b) (q := a) (by simp [Pg.pks])
    have hb := mem_len (p := Pg.seq a b) (q := b) (by simp [Pg.pks])
    refine (lr_seq a b hp (by omega) w _ _ _ _ _ _ (iha hp.1 (by omega)) (ihb hp.2 (by omega))).mono fun e w' h => h.as (fun i hi j _ => ?_) (fun i hi => ?_) (fun i hi => ?_)
    · rw [Bool.eq_iff_iff]
      unfold sqT
      rw [upto_fin hp.1 hi]
      simp [rT_iff, Fin]
    · rw [Bool.eq_iff_iff]
      unfold sqS
      rw [Bool.or_eq_true, upto_fin hp.1 hi]
      simp [rL_iff, Lps]
    · rw [Bool.eq_iff_iff]
      unfold sqS
      rw [Bool.or_eq_true, upto_fin hp.1 hi]
      simp [rK_iff, Stk]
  | ite t a b iha ihb =>
    intro hp hn w
    have ha := mem_len (p := Pg.ite t a b) (q := a) (by simp [Pg.pks])
    have hb := mem_len (p := Pg.ite t a b) (q := b) (by simp [Pg.pks])
    refine (lr_ite t a b hp (by omega) w _ _ _ _ _ _ (iha hp.2.1 (by omega)) (ihb hp.2.2 (by omega))).mono fun e w' h => h.as (fun i hi j _ => ?_) (fun i hi => ?_) (fun i hi => ?_)
    · rw [Bool.eq_iff_iff]
      cases hT : tst t i <;> simp [chT, rT_iff, Fin, mdl, hT]
    · rw [Bool.eq_iff_iff]
      cases hT : tst t i <;> simp [chS, rL_iff, Lps, mdl, hT]
    · rw [Bool.eq_iff_iff]
      cases hT : tst t i <;> simp [chS, rK_iff, Stk, mdl, hT]
  | whl t a iha =>
    intro hp hn w
    have ha := mem_len (p := Pg.whl t a) (q := a) (by simp [Pg.pks])
    refine (lr_whl t a hp (by omega) w _ _ _ (iha hp.2 (by omega))).mono fun e w' h => h.as (fun i hi j _ => ?_) (fun i hi => ?_) (fun i hi => ?_)
    · rw [Bool.eq_iff_iff]
      unfold whT
      rw [Bool.and_eq_true, hd_iff hp.2 hi]
      simp [rT_iff, Fin, mdl]
    · rw [Bool.eq_iff_iff]
      unfold whL
      rw [upto_iff]
      simp only [rL_iff, Lps, Bool.and_eq_true, Bool.or_eq_true]
      constructor
      · rintro ⟨q, hq, ⟨h1, h2⟩, h3⟩
        exact ⟨q, (hd_iff hp.2 hi).1 h1, h2, h3.imp id (en_iff hp.2 hq).1⟩
      · rintro ⟨q, h1, h2, h3⟩
        have hq := star_lt hp.2 hi h1
        exact ⟨q, hq, ⟨(hd_iff hp.2 hi).2 h1, h2⟩, h3.imp id (en_iff hp.2 hq).2⟩
    · rw [Bool.eq_iff_iff]
      unfold whK
      rw [upto_iff]
      simp only [rK_iff, Stk, Bool.and_eq_true]
      constructor
      · rintro ⟨q, hq, ⟨h1, h2⟩, h3⟩
        exact ⟨q, (hd_iff hp.2 hi).1 h1, h2, h3⟩
      · rintro ⟨q, h1, h2, h3⟩
        have hq := star_lt hp.2 hi h1
        exact ⟨q, hq, ⟨(hd_iff hp.2 hi).2 h1, h2⟩, h3⟩
  | cho a b iha ihb =>
    intro hp hn w
    have ha := mem_len (p := Pg.cho a b) (q := a) (by simp [Pg.pks])
    have hb := mem_len (p := Pg.cho a b) (q := b) (by simp [Pg.pks])
    refine (lr_cho a b hp (by omega) w _ _ _ _ _ _ (iha hp.1 (by omega)) (ihb hp.2 (by omega))).mono fun e w' h => h.as (fun i hi j _ => ?_) (fun i hi => ?_) (fun i hi => ?_)
    · rw [Bool.eq_iff_iff]; simp [chT, rT_iff, Fin]
    · rw [Bool.eq_iff_iff]; simp [chS, rL_iff, Lps]
    · rw [Bool.eq_iff_iff]; simp [chS, rK_iff, Stk]
  | asm t =>
    intro hp hn w
    refine (lr_asm t hp (by omega) w).mono fun e w' h => h.as (fun i hi j _ => ?_) (fun i hi => ?_) (fun i hi => ?_)
    · rw [Bool.eq_iff_iff]
      cases hT : tst t i <;> simp [chT, rT_iff, Fin, mdl, hT, noT]
    · rw [Bool.eq_iff_iff]
      simp [chS, rL_iff, Lps, noS]
    · rw [Bool.eq_iff_iff]
      cases hT : tst t i <;> simp [chS, rK_iff, Stk, mdl, hT, noS]
end Go.Proofs.YtcbdbbcipnmjoaaGreat

namespace Go.Proofs.YtcbdbbcipnmjoaaGreat
open Go.RowKit Tm Go.Great Classical

theorem out_pure {p : Pg} {m : Mp} {F : Nat → Bool} {lo bl : Bool} {i : Nat} (hi : i < 27) (h : Wk (flG p) (flS p) (fun j => j == i) 27 m F lo bl) (hT : Top (flG p)) : (∀ j, j < 27 → F j = rT p i j) ∧ lo = rL p i ∧ bl = rK p i := by
  have kn : ∀ y, m y ≠ none ↔ Star (Edge mdl (flG p)) (flS p, i) y := by
    intro y
    rw [h.kn y]
    constructor
    · rintro ⟨q, _, e, hs⟩
      rw [← eq_of_beq e]; exact hs
    · exact fun hs => ⟨i, hi, by simp, hs⟩
  refine ⟨fun j hj => ?_, ?_, ?_⟩
  · rw [Bool.eq_iff_iff, h.fin j hj, kn, rT_iff]
    exact fin_iff hT (fl_lay p)
  · rw [Bool.eq_iff_iff, h.lp, rL_iff, ← lps_iff hT (fl_lay p)]
    constructor
    · rintro ⟨q, _, e, hs⟩
      rw [← eq_of_beq e]; exact hs
    · exact fun hs => ⟨i, hi, by simp, hs⟩
  · rw [Bool.eq_iff_iff, h.blk, rK_iff, ← stk_iff hT (fl_lay p)]
    constructor
    · rintro ⟨y, h1, h2⟩
      exact ⟨y, (kn y).1 h1, h2⟩
    · rintro ⟨y, h1, h2⟩
      exact ⟨y, (kn y).2 h1, h2⟩
/-- The outcome from a state, as a value. -/
noncomputable def outV (p : Pg) (i : Nat) : Value := .agg #[.int .u32 (nb 27 (rT p i)), .bool (rL p i), .bool (rK p i)]
theorem outcome_p {p : Pg} {w1 : World} {B : Nat} {sp : Value} (hF : FlowOk w1 B sp (flS p) (flG p)) (i : Nat) (hi : i < 27) (w : World) (hb : Below w1.heap.size w1 w) :
    Calls Tryz.prog 38 #[.agg #[sp, .int .i64 (flS p : Nat)], .int .i64 i] w fun e w' => e = .returned (outV p i) ∧ Below w.heap.size w w' := by
  refine (outcome_any hF i hi w hb).mono ?_
  rintro e w' ⟨m, F, lo, bl, rfl, hk, hw⟩
  obtain ⟨h1, h2, h3⟩ := out_pure hi hk hF.top
  refine ⟨?_, hw⟩
  rw [nb_congr h1, h2, h3]
  rfl
end Go.Proofs.YtcbdbbcipnmjoaaGreat

namespace Go.Proofs.YtcbdbbcipnmjoaaGreat
open Go.RowKit Tm Go.Great Classical

/-- What is asked of an outcome: a function of the program that answers f. -/
def Asks (fn : FuncId) (f : (Nat → Bool) → Bool → Bool → Bool) : Prop := ∀ (F : Nat → Bool) (lo bl : Bool) (w : World), Calls Tryz.prog fn #[.agg #[.int .u32 (nb 27 F), .bool lo, .bool bl]] w fun e w' => e = .returned (.bool (f F lo bl)) ∧ Below w.heap.size w w'
set_option maxRecDepth 100000 in
set_option maxHeartbeats 2000000 in
theorem asksAll : Asks 17 (fun _ lo bl => !lo && !bl) := by
  intro F lo bl w
  cases lo <;> cases bl
  all_goals
    go_enter Tryz.func17, Tryz.ntmps17
    go_wp2_with fail
    go_ret
    exact ⟨rfl, (Below.refl _ w).alloc (Nat.le_refl _) _⟩
/-- What the answer says of a state. -/
noncomputable def askS (p : Pg) (f : (Nat → Bool) → Bool → Bool → Bool) : Nat → Bool := fun i => f (rT p i) (rL p i) (rK p i)
set_option maxRecDepth 100000 in
set_option maxHeartbeats 4000000 in
theorem statesWith_any {p : Pg} {w1 : World} {B : Nat} {sp : Value} (hF : FlowOk w1 B sp (flS p) (flG p)) (fn : FuncId) (f : (Nat → Bool) → Bool → Bool → Bool) (ha : Asks fn f) (hen : ∀ (args : Array Value) (w : World), (callFunc fn args).run Tryz.prog w = .ok (.enter fn args) w) (w : World) (hb : Below w1.heap.size w1 w) :
    Calls Tryz.prog 16 #[.agg #[sp, .int .i64 (flS p : Nat)], .func (.func fn) #[] #[]] w fun e w' => e = .returned (.int .u32 (nb 27 (askS p f))) ∧ Below w.heap.size w w' := by
  have HO := fun i hi w' (h : Below w.heap.size w w') => Lib.hid (outcome_p hF i hi w' (hb.trans (h.mono hb.size)))
  have HA := fun i w' => Lib.hid (ha (rT p i) (rL p i) (rK p i) w')
  obtain ⟨rb, cap, hsp, _⟩ := hF.fl
  subst hsp
  have K0 := Lib.hid (Blk.new w #[.slice (some ⟨rb, 0, none⟩) (flG p).length cap, .int .i64 (flS p : Nat)] 41)
  have HB := Lib.hid ((Below.refl w.heap.size w).alloc (Nat.le_refl _) (.cells #[.slice (some ⟨rb, 0, none⟩) (flG p).length cap, .int .i64 (flS p : Nat)] 41))
  clear hF hb ha
  go_enter Tryz.func16, Tryz.ntmps16
  go_wp2_with fail
  generalize w.alloc (.cells #[.slice (some ⟨rb, 0, none⟩) (flG p).length cap, .int .i64 (flS p : Nat)] 41) = w2 at *
  go_loopw [5, 7] (fun v i wr => ∃ k : Nat, k ≤ 27 ∧ i = .int .i64 k ∧ v = .int .u32 (nb 27 (lowF (askS p f) k)) ∧ Hid (Blk wr w.heap.size #[.slice (some ⟨rb, 0, none⟩) (flG p).length cap, .int .i64 (flS p : Nat)] 41) ∧ Hid (Below w.heap.size w wr)) (fun _ i _ => 27 - (intOf i).toNat)
  case atStart => exact ⟨0, by omega, rfl, by rw [lowF_zero]; rfl, K0, HB⟩
  case round =>
    clear K0 HB
    obtain ⟨k, hk, rfl, rfl, RB, RW⟩ := hrel
    by_cases hlt : k < 27
    · have j0 := RB.out.cell 0
      have j1 := RB.out.cell 1
      simp at j0 j1
      have C := HO k hlt
      have D := HA k
      have E := fun w => Lib.hid (implWithB (lowF (askS p f) k) k w hlt)
      go_wp2_with fail
      refine (C _ RW.out).out.mono ?_
      rintro e w3 ⟨rfl, h3⟩
      have RB3 := Lib.hid (RB.out.kept h3)
      have RW3 := Lib.hid (bnext RW.out h3)
      clear j0 j1 h3 RB RW
      go_wp2_with fail
      refine (D _).out.mono ?_
      rintro e w4 ⟨rfl, h4⟩
      have RB4 := Lib.hid (RB3.out.kept h4)
      have RW4 := Lib.hid (bnext RW3.out h4)
      clear h4 RB3 RW3
      cases hq : f (rT p k) (rL p k) (rK p k)
      · go_wp2_with fail
        exact ⟨⟨k + 1, by omega, by go_num, by rw [lowF_nil (F := askS p f) hq], RB4, RW4⟩, by simp [intOf]; omega⟩
      · go_wp2_with fail
        refine (E _).out.mono ?_
        rintro e w' ⟨rfl, rfl⟩
        go_wp2_with fail
        exact ⟨⟨k + 1, by omega, by go_num, by rw [lowF_one (F := askS p f) hq], RB4, RW4⟩, by simp [intOf]; omega⟩
    · have hk2 : k = 27 := by omega
      subst hk2
      go_wp2_with fail
      go_ret
      exact ⟨by rw [← lowF_all]; rfl, RW.out⟩
end Go.Proofs.YtcbdbbcipnmjoaaGreat

namespace Go.Proofs.YtcbdbbcipnmjoaaGreat
open Go.RowKit Tm Go.Great Classical

def TextPost (F : Nat → Bool) (w : World) (e : Ending) (w' : World) : Prop := e = .returned (.tuple #[.string (bs (tb F)), .bool true]) ∧ Below w.heap.size w w'
def NoPost (w : World) (e : Ending) (w' : World) : Prop := e = .returned (.tuple #[.string (bs []), .bool false]) ∧ Below w.heap.size w w'
theorem bs_of {s : ByteArray} {p : Pg} (h : s.data.toList = p.ser) : s = bs p.ser := by
  apply ByteArray.ext
  apply Array.ext'
  exact h.trans (bs_list _).symm
theorem ser_200 {s : ByteArray} {p : Pg} (h : s.data.toList = p.ser) (hl : s.size ≤ 200) : p.ser.length ≤ 200 := by
  rw [← h]; simpa using hl
end Go.Proofs.YtcbdbbcipnmjoaaGreat

namespace Go.Proofs.YtcbdbbcipnmjoaaGreat
open Go.RowKit Tm Go.Great Classical

theorem field_L (t : Nat → Nat → Bool) (l k : Nat → Bool) (w : World) : (Instr.field 28 (.agg (allC t l k)) 1).run Tryz.prog w = .ok (.int .i64 (nb 27 l)) w := by
  unfold allC
  generalize nb 27 l = a
  generalize nb 27 k = b
  kernel_rfl
theorem field_K (t : Nat → Nat → Bool) (l k : Nat → Bool) (w : World) : (Instr.field 28 (.agg (allC t l k)) 2).run Tryz.prog w = .ok (.int .i64 (nb 27 k)) w := by
  unfold allC
  generalize nb 27 l = a
  generalize nb 27 k = b
  kernel_rfl
theorem sure_eq (l k : Nat → Bool) : bits .andNot .i64 134217727 (bits .or .i64 (nb 27 l : Nat) (nb 27 k : Nat)) = (nb 27 (fun i => !l i && !k i) : Nat) := by
  rw [s_or, fullNot]
  congr 2
  funext i
  cases l i <;> rfl
end Go.Proofs.YtcbdbbcipnmjoaaGreat
