/-
  The law of images is true at all bytes: no condition.
-/
import Derived.Test.YtehklmbkkidehaaRows
import Derived.Test.YtehklmbkkidehaaTopA
import Derived.Deep.RegionHeld3
import Derived.ProofKit
import Derived.OpenShut
import Derived.ShutString
import Derived.ChangeOld
namespace Go.Proofs.Ytehklmbkkidehaa
open Go.ChangeShapes Go.WideShapes Go.ChangeAt Go.RowKit
open Go.ChangeMaps (open_string shut_string)

theorem Try.own : ownKnob Try.prog.godebug = none := by kernel_rfl
theorem laidOut : laidOutB Try.prog = true := by kernel_rfl

set_option maxHeartbeats 4000000 in
theorem drawAPre {a : Option Addr} {len cap : Nat} {zs : List Int} {w : World} (h : IsRow w a len cap zs) :
    Calls Try.prog 5 #[.slice a len cap] w fun e w' => ∃ s t u : ByteArray, s.size ≤ 28 ∧ t.size ≤ 2 ∧ u.size ≤ 40 ∧ e = .returned (.tuple #[.string s, .string t, .string u]) ∧ Below w.heap.size w w' := by
  have HO := Lib.hid (open_any h)
  clear h
  go_enter Try.func5, Try.ntmps5
  go_wp2_with fail
  refine HO.out.mono ?_
  rintro e w1 ⟨rfl, hr, hb⟩
  have HW1 := Lib.hid hb
  have HC := Lib.hid (open2_any hr (by omega))
  clear hr hb
  go_wp2_with fail
  refine HC.out.mono ?_
  rintro e w2 ⟨t, q, t1, t2, hq, rfl, hr, hk⟩
  have HW2 := Lib.hid (HW1.out.trans (hk.below (Nat.le_refl _) HW1.out.size))
  have HC := Lib.hid (which_any hr (by omega))
  clear hr hk
  go_wp2_with fail
  refine HC.out.mono ?_
  rintro e w3 ⟨v, hv, rfl, hr, hk⟩
  have HW3 := Lib.hid (HW2.out.trans (hk.below (Nat.le_refl _) HW2.out.size))
  have HC := Lib.hid (dE_2 (bs [120, 121, 122]) (by decide) (by decide) hr (by omega))
  clear hr hk
  go_wp2_with fail
  refine HC.out.mono ?_
  rintro e w4 ⟨u, q', u1, u2, hq', rfl, hr, hk⟩
  have HW4 := Lib.hid (HW3.out.trans (hk.below (Nat.le_refl _) HW3.out.size))
  have HC := Lib.hid (bad_any u u1 (by omega) hr (by omega))
  clear hr hk
  go_wp2_with fail
  refine HC.out.mono ?_
  rintro e w5 ⟨x, q5, x1, x2, hq5, rfl, hr, hk⟩
  have HW5 := Lib.hid (HW4.out.trans (hk.below (Nat.le_refl _) HW4.out.size))
  clear hr hk
  go_wp2_with fail
  go_ret3
  exact ⟨t, v, x, by omega, hv, by omega, rfl, HW5.out⟩
theorem letter_of {V : ByteArray} (h : IsVar V) : ∃ (c : UInt8) (j : Nat), VarAt c j ∧ (c = 120 ∨ c = 121 ∨ c = 122) ∧ V = ⟨#[c]⟩ := by
  rcases h with rfl | rfl | rfl
  · exact ⟨120, 0, by simp [VarAt], by simp, rfl⟩
  · exact ⟨121, 1, by simp [VarAt], by simp, rfl⟩
  · exact ⟨122, 2, by simp [VarAt], by simp, rfl⟩
theorem as_round {e : ByteArray} {t : Tm} (ht : Ok false false t) (he : e.data.toList = t.ser) (hl : e.size ≤ 200) (c : UInt8) (hc : c = 120 ∨ c = 121 ∨ c = 122) (k : Nat) (hk : k < 27) :
    ∃ p q r m : Int, st3 p q r = true ∧ ixn p q r = asg c t k ∧
      (∀ w, Hid (Calls Try.prog 10 #[.string e, .agg #[.int .i64 (ax k), .int .i64 (ay k), .int .i64 (az k)]] w fun e w' => e = .returned (.int .i64 m) ∧ Below w.heap.size w w')) ∧
      (∀ w, Hid (Calls Try.prog 9 #[.agg #[.int .i64 (ax k), .int .i64 (ay k), .int .i64 (az k)], .string ⟨#[c]⟩, .int .i64 m] w fun e w' => e = .returned (.tuple #[.agg #[.int .i64 p, .int .i64 q, .int .i64 r], .bool true]) ∧ Below w.heap.size w w')) := by
  have hat := at_st3 (i := (k : Int)) (by omega) (by omega)
  have hb := val_bd (one_bd hat) ht
  have hn : val3 (val (one (ax k) (ay k) (az k)) t) = true := val3_t hb.1 (by omega)
  have P := fun w => Lib.hid (ppValue_of e (ax k) (ay k) (az k) _ true (fun w => implEvalE_yes e (ax k) (ay k) (az k) w ht he hl hat) w)
  have h3 := hat
  unfold st3 at h3
  simp only [Bool.and_eq_true] at h3
  rcases hc with rfl | rfl | rfl
  · exact ⟨_, ay k, az k, _, st3_of hn h3.1.2 h3.2, rfl, P, fun w => implSet_x _ _ _ _ w hat hn⟩
  · exact ⟨ax k, _, az k, _, st3_of h3.1.1 hn h3.2, rfl, P, fun w => implSet_y _ _ _ _ w hat hn⟩
  · exact ⟨ax k, ay k, _, _, st3_of h3.1.1 h3.1.2 hn, rfl, P, fun w => implSet_z _ _ _ _ w hat hn⟩
theorem keepE {w0 w' : World} {g i j k : Nat} {a b c : Value} (h : w0.cell? ⟨g, i, none⟩ = some a ∧ w0.cell? ⟨g, j, none⟩ = some b ∧ w0.cell? ⟨g, k, none⟩ = some c) (hb : Below w0.heap.size w0 w') :
    Below w0.heap.size w0 w' ∧ w'.cell? ⟨g, i, none⟩ = some a ∧ w'.cell? ⟨g, j, none⟩ = some b ∧ w'.cell? ⟨g, k, none⟩ = some c :=
  ⟨hb, ckeep hb h.1, ckeep hb h.2.1, ckeep hb h.2.2⟩

set_option maxHeartbeats 4000000 in
theorem drawAPost {a : Option Addr} {len cap : Nat} {zs : List Int} {w : World} (h : IsRow w a len cap zs) :
    Calls Try.prog 13 #[.slice a len cap] w fun e w' => ∃ s t u : ByteArray, s.size ≤ 28 ∧ t.size ≤ 2 ∧ u.size ≤ 40 ∧ e = .returned (.tuple #[.string s, .string t, .string u]) ∧ Below w.heap.size w w' := by
  have HO := Lib.hid (drawAPre h)
  clear h
  go_enter Try.func13, Try.ntmps13
  go_wp2_with fail
  refine HO.out.mono ?_
  rintro e w1 ⟨s, t, u, s1, t1, u1, rfl, hb⟩
  have HW1 := Lib.hid hb
  clear hb
  go_wp2_with fail
  go_ret3
  exact ⟨s, t, u, s1, t1, u1, rfl, HW1.out⟩
theorem cnt_put (n : Nat) (G : Nat → Bool) (b : Bool) (a : Nat) : cnt n (fun j => G j || (b && a == j)) ≤ cnt n G + (if b = true ∧ a < n then 1 else 0) := by
  induction n with
  | zero => simp [cnt]
  | succ n ih =>
    have h1 : (if (G n || (b && a == n)) = true then 1 else 0) ≤ (if G n = true then 1 else 0) + (if b = true ∧ a = n then (1 : Nat) else 0) := by
      cases hG : G n <;> cases b <;> by_cases e : a = n <;> simp [e]
    have h2 : (if b = true ∧ a < n then 1 else 0) + (if b = true ∧ a = n then 1 else 0) ≤ (if b = true ∧ a < n + 1 then (1 : Nat) else 0) := by
      by_cases hb : b = true
      · by_cases e : a = n
        · simp [hb, e]
        · by_cases h : a < n
          · have h' : a < n + 1 := by omega
            simp [hb, e, h, h']
          · simp [hb, e, h]
      · simp [hb]
    show cnt n (fun j => G j || (b && a == j)) + (if (G n || (b && a == n)) = true then 1 else 0) ≤ cnt n G + (if G n = true then 1 else 0) + (if b = true ∧ a < n + 1 then (1 : Nat) else 0)
    omega
theorem cnt_img (F : Nat → Bool) (st : Nat → Nat) (k : Nat) : cnt 27 (imgF F st k) ≤ cnt k F := by
  induction k with
  | zero => rw [cnt_same (G := fun _ => false) (fun i _ => by simp [imgF])]; exact Nat.le_of_eq (cnt_nil.2 fun _ _ => rfl)
  | succ k ih =>
    rw [cnt_same (G := fun j => imgF F st k j || (F k && st k == j)) (fun j _ => imgF_succ F st k j)]
    have h1 := cnt_put 27 (imgF F st k) (F k) (st k)
    have h3 : (if F k = true ∧ st k < 27 then 1 else 0) ≤ (if F k = true then (1 : Nat) else 0) := by by_cases h : F k = true <;> by_cases h2 : st k < 27 <;> simp [h, h2]
    show _ ≤ cnt k F + (if F k = true then (1 : Nat) else 0)
    omega
theorem img_iff {F : Nat → Bool} {st : Nat → Nat} {k j : Nat} : imgF F st k j = true ↔ ∃ i, i < k ∧ F i = true ∧ st i = j := by
  simp [imgF, List.any_eq_true]
theorem adj {F G : Nat → Bool} {st : Nat → Nat} (hst : ∀ i, i < 27 → st i < 27) : wi 27 (imgF F st 27) G = wi 27 F (fun i => G (st i)) := by
  rw [Bool.eq_iff_iff, wi_iff, wi_iff]
  constructor
  · intro h i hi hF
    exact h (st i) (hst i hi) (img_iff.2 ⟨i, hi, hF, rfl⟩)
  · intro h j _ hj
    obtain ⟨i, hi, hF, rfl⟩ := img_iff.1 hj
    exact h i hi hF
theorem asQ_facts {p : ByteArray} (c : UInt8) {t : Tm} (ht : Ok false false t) : ∃ (x : ByteArray) (A B : Nat), Set27 x ∧ bs (tb (imgF (hs p.data.toList) (asg c t) 27)) = x ∧ cnt 27 (hs x.data.toList) = A ∧ cnt 27 (hs p.data.toList) = B ∧ A ≤ B ∧ B ≤ 27 ∧
    (∀ k, k < 27 → hs p.data.toList k = true → hs x.data.toList (asg c t k) = true) ∧
    ∀ q : ByteArray, ∃ (z : ByteArray) (b : Bool), Set27 z ∧ bs (tb (fun i => hs q.data.toList (asg c t i))) = z ∧ wi 27 (hs x.data.toList) (hs q.data.toList) = b ∧ wi 27 (hs p.data.toList) (hs z.data.toList) = b := by
  refine ⟨_, _, _, set27_tb _, rfl, rfl, rfl, ?_, cnt_le 27 _, ?_, fun q => ⟨_, _, set27_tb _, rfl, rfl, ?_⟩⟩
  · rw [cnt_same (F := hs (bs (tb (imgF (hs p.data.toList) (asg c t) 27))).data.toList) (G := imgF (hs p.data.toList) (asg c t) 27) (fun i hi => hs_bs _ i hi)]
    exact cnt_img _ _ 27
  · intro k hk h
    rw [hs_bs _ _ (asg_lt ht hk)]
    exact img_iff.2 ⟨k, hk, h, rfl⟩
  · rw [wi_congr (F' := hs p.data.toList) (G' := fun i => hs q.data.toList (asg c t i)) (fun _ _ => rfl) (fun i hi => hs_bs _ i hi), ← adj (fun i hi => asg_lt ht hi)]
    exact (wi_congr (fun i hi => hs_bs _ i hi) (fun _ _ => rfl)).symm

set_option maxRecDepth 100000 in
set_option maxHeartbeats 16000000 in
theorem walkAssignPost {a0 : Option Addr} {len0 cap0 : Nat} {z0 : List Int} {a1 : Option Addr} {len1 cap1 : Nat} {z1 : List Int} (w : World) (h0 : IsRow w a0 len0 cap0 z0) (h1 : IsRow w a1 len1 cap1 z1) :
    Calls Try.prog 4 #[.slice a0 len0 cap0, .slice a1 len1 cap1] w fun e w' => e = .returned (.bool true) ∧ Below w.heap.size w w' := by
  have D := Lib.hid (drawAPost h0)
  have HR1 := Lib.hid h1
  clear h0 h1
  by_cases hl : (1048576 : Int) < len0
  · go_enter Try.func4, Try.ntmps4
    go_wp2_with fail
    go_ret
    exact ⟨rfl, Below.refl _ _⟩
  · by_cases hl1 : (1048576 : Int) < len1
    · go_enter Try.func4, Try.ntmps4
      go_wp2_with fail
      go_ret
      exact ⟨rfl, Below.refl _ _⟩
    · go_enter Try.func4, Try.ntmps4
      go_wp2_with fail
      refine D.out.mono ?_
      rintro e w1 ⟨s, v, u, s1, v1, u1, rfl, hb⟩
      have HB1 := Lib.hid hb
      clear hb D
      by_cases hv : Set27 s ∧ IsVar v ∧ Valid false false u.data.toList ∧ u.size ≤ 200
      · obtain ⟨hp, hv2, ⟨t, ht, he⟩, hl0⟩ := hv
        obtain ⟨c, j, hj, hc, rfl⟩ := letter_of hv2
        have C1 := fun w => Lib.hid (implApost_yes s ⟨#[c]⟩ u w c hp rfl hc ht he hl0)
        have C2 := fun w => Lib.hid (specApost_yes s ⟨#[c]⟩ u w c j hp rfl hj ht he hl0)
        obtain ⟨x, A, B, hx, e1, e2, e3, hAB, hB, hin, hq0⟩ := asQ_facts (p := s) c ht
        have D1 := fun w => Lib.hid (implCountP_yes x w hx)
        have D2 := fun w => Lib.hid (implCountP_yes s w hp)
        rw [e1] at C1 C2
        rw [e2] at D1
        rw [e3] at D2
        have HT := Lib.hid ht
        have HE0 := Lib.hid he
        have HEL := Lib.hid hl0
        have HC := Lib.hid hc
        have HP := Lib.hid hp
        have HX := Lib.hid hx
        have HV := Lib.hid hin
        have HQ := Lib.hid hq0
        have hle : (A : Int) ≤ (B : Int) := by omega
        clear hp ht he hl0 hj hc hx e1 e2 e3 hin hq0 s1 v1 u1 hAB hB
        go_wp2_with fail
        refine (C1 _).out.mono ?_
        rintro e w2 ⟨rfl, hb⟩
        have HB2 := Lib.hid (bnext HB1.out hb)
        clear hb
        go_wp2_with fail
        refine (C2 _).out.mono ?_
        rintro e w3 ⟨rfl, hb⟩
        have HB3 := Lib.hid (bnext HB2.out hb)
        clear hb
        have DQ := Lib.hid (drawAPre (HR1.out.kept HB3.out))
        go_wp2_with fail
        refine DQ.out.mono ?_
        rintro e w4 ⟨q, vq, uq, q1, vq1, uq1, rfl, hb⟩
        have HB4 := Lib.hid (bnext HB3.out hb)
        clear hb DQ HR1 C1 C2
        by_cases hq : Set27 q
        · obtain ⟨z, b, hz, f1, f2, f3⟩ := HQ.out q
          have C3 := fun w => Lib.hid (implApre_yes q ⟨#[c]⟩ u w c hq rfl HC.out HT.out HE0.out HEL.out)
          have C4 := fun w => Lib.hid (implPWithin_yes x q w HX.out hq)
          have C5 := fun w => Lib.hid (implPWithin_yes s z w HP.out hz)
          rw [f1] at C3
          rw [f2] at C4
          rw [f3] at C5
          have eb : (b != b) = false := by cases b <;> rfl
          clear hq hz f1 f2 f3 HQ q1 vq1 uq1 hv2
          go_wp2_with fail
          refine (C3 _).out.mono ?_
          rintro e w5 ⟨rfl, hb⟩
          have HB5 := Lib.hid (bnext HB4.out hb)
          clear hb
          go_wp2_with fail
          refine (C4 _).out.mono ?_
          rintro e w' ⟨rfl, rfl⟩
          go_wp2_with fail
          refine (C5 _).out.mono ?_
          rintro e w' ⟨rfl, rfl⟩
          go_wp2_with fail
          refine (states_any _).mono ?_
          rintro e w6 ⟨g, cap, hcap, hg, rfl, hs, hb⟩
          have HB6 := Lib.hid (bnext HB5.out hb)
          have HS6 := Lib.hid hs
          clear hb hs
          go_wp2_with fail
          go_loopw [18] (fun i wr => ∃ k : Nat, k ≤ 27 ∧ i = .int .i64 k ∧ Hid (Below w.heap.size w wr) ∧ Hid (Sts wr g)) (fun i _ => 27 - (intOf i).toNat)
          case atStart => exact ⟨0, by omega, rfl, HB6, HS6⟩
          case round =>
            obtain ⟨k, hk, rfl, HB, HS⟩ := hrel
            by_cases hlt : k < 27
            · have hk0 : (0 : Int) ≤ (k : Int) := by omega
              have hk1 : (k : Int) < 27 := by omega
              obtain ⟨p, q, r, m, hst, hix, PV, SV⟩ := as_round HT.out HE0.out HEL.out c HC.out k hlt
              have X1 := fun w => Lib.hid (has_at s HP.out k hlt w)
              have X2 := fun w => Lib.hid (implHasS_yes x p q r w HX.out hst)
              have hin := HV.out k hlt
              rw [hix] at X2
              generalize hs s.data.toList k = b at *
              generalize hs x.data.toList (asg c t k) = d at *
              clear hst hix
              go_wp2_with fail
              have hbb : Below wr.heap.size wr wr.drew := (Below.refl wr.heap.size wr).drew
              have HE := Lib.hid (HS.out k hlt)
              have hS0 := keepE HE.out (Below.refl wr.heap.size wr)
              have hS := keepE HE.out hbb
              have hlg := World.block_lt_of_cell? wr _ HE.out.1
              first | (go_region_held3 (fun w' => Below wr.heap.size wr w' ∧ w'.cell? ⟨g, k * 3, none⟩ = some (.int .i64 (ax k)) ∧ w'.cell? ⟨g, k * 3 + 1, none⟩ = some (.int .i64 (ay k)) ∧ w'.cell? ⟨g, k * 3 + 2, none⟩ = some (.int .i64 (az k)))
                ((first
                    | assumption
                    | exact keepE HE.out (by assumption)
                    | (go_split_ands; exact keepE HE.out (bnext (by assumption) hq))
                    | (go_split_ands; exact keepE HE.out (bput (by assumption) _))
                    | (go_split_ands; exact keepE HE.out (bswap (by assumption) hz))
                    | (go_split_ands; exact keepE HE.out (Below.setCell (Below.setCell (Below.setCell (by assumption) (by simp; omega) _) (by simp; omega) _) (by simp; omega) _))
                    | (go_split_ands; exact keepE HE.out (Below.setCell (Below.setCell (Below.setCell (by assumption) (by simp) _) (by simp) _) (by simp) _))))
                (first
                    | (go_at_call 10; (with_reducible refine (PV _).out.mono ?_); rintro e u1 ⟨rfl, hq⟩; have hz : wr.heap.size ≤ u1.heap.size := (bnext (by go_split_ands; assumption) hq).size; obtain ⟨hcq, hfq⟩ := bcell hq; have hs := hq.size; try simp at hs; try replace hs := Nat.lt_of_succ_le hs; try (have hlt1 : wr.heap.size < u1.heap.size := by omega); first | (have hbx := (Blk.new _ #[.int .i64 0, .int .i64 0, .int .i64 0] 30).kept hq) | (have hbx := (Blk.new _ #[.int .i64 0, .int .i64 0, .int .i64 0] 30).drew.kept hq) | skip)
                    | (go_at_call 9; (with_reducible refine (SV _).out.mono ?_); rintro e u2 ⟨rfl, hq⟩; have hz : wr.heap.size ≤ u2.heap.size := (bnext (by go_split_ands; assumption) hq).size; obtain ⟨hcq, hfq⟩ := bcell hq; have hs := hq.size; try simp at hs; try replace hs := Nat.lt_of_succ_le hs; try (have hlt2 : wr.heap.size < u2.heap.size := by omega); first | (have hbx := (Blk.new _ #[.int .i64 0, .int .i64 0, .int .i64 0] 30).kept hq) | (have hbx := (Blk.new _ #[.int .i64 0, .int .i64 0, .int .i64 0] 30).drew.kept hq) | (have hbx := hbx.kept hq) | skip))) | fail
              all_goals
                go_split_ands
                have HF := Lib.hid (show Below wr.heap.size wr _ by assumption)
                first
                  | (have HBX := Lib.hid (show Blk _ wr.heap.size #[.int .i64 p, .int .i64 q, .int .i64 r] 30 from (((Blk.kept hbx hq).set 0 (.int .i64 p)).set 1 (.int .i64 q)).set 2 (.int .i64 r)))
                  | (have HBX := Lib.hid (show Blk _ _ #[.int .i64 p, .int .i64 q, .int .i64 r] 30 from ((hbx.set 0 (.int .i64 p)).set 1 (.int .i64 q)).set 2 (.int .i64 r)))
                  | (have HBX := Lib.hid (Blk.new u2 #[.int .i64 p, .int .i64 q, .int .i64 r] 30))
                obtain ⟨e0, e1, e2⟩ := (keepE HE.out HF.out).2
                go_wp2_with fail
                refine (X1 _).out.mono ?_
                rintro e u5 ⟨rfl, hq5⟩
                have HG := Lib.hid (bnext HF.out hq5)
                obtain ⟨b0, b1, b2⟩ := (HBX.out.kept hq5).c3
                cases b
                · go_wp2_with fail
                  go_round
                  case rel => exact ⟨k + 1, by omega, by go_num, bnext HB.out HG.out, HS.out.kept HG.out⟩
                  case measure => simp [intOf]; omega
                · obtain rfl := hin (by trivial)
                  go_wp2_with fail
                  refine (X2 _).out.mono ?_
                  rintro e u6 ⟨rfl, hq6⟩
                  have HH := Lib.hid (bnext HG.out hq6)
                  go_wp2_with fail
                  go_round
                  case rel => exact ⟨k + 1, by omega, by go_num, bnext HB.out HH.out, HS.out.kept HH.out⟩
                  case measure => simp [intOf]; omega
            · have hk2 : k = 27 := by omega
              subst hk2
              clear HS
              have HB0 := HB
              go_wp2_with fail
              refine (D1 _).out.mono ?_
              rintro e w1 ⟨rfl, hb⟩
              have HB1 := Lib.hid (bnext HB0.out hb)
              clear hb
              go_wp2_with fail
              refine (D2 _).out.mono ?_
              rintro e w2 ⟨rfl, hb⟩
              have HB2 := Lib.hid (bnext HB1.out hb)
              clear hb
              go_wp2_with fail
              go_ret
              exact ⟨rfl, HB2.out⟩
        · have C3 := fun w => Lib.hid (implApre_of q ⟨#[c]⟩ u w (fun w => implReadA_no q ⟨#[c]⟩ u w (by show 1 ≤ maxLen; decide) (fun h => hq h.1)))
          clear hq HQ q1 vq1 uq1 hv2
          go_wp2_with fail
          refine (C3 _).out.mono ?_
          rintro e w5 ⟨rfl, hb⟩
          have HB5 := Lib.hid (bnext HB4.out hb)
          clear hb
          go_wp2_with fail
          refine (states_any _).mono ?_
          rintro e w6 ⟨g, cap, hcap, hg, rfl, hs, hb⟩
          have HB6 := Lib.hid (bnext HB5.out hb)
          have HS6 := Lib.hid hs
          clear hb hs
          go_wp2_with fail
          go_loopw [18] (fun i wr => ∃ k : Nat, k ≤ 27 ∧ i = .int .i64 k ∧ Hid (Below w.heap.size w wr) ∧ Hid (Sts wr g)) (fun i _ => 27 - (intOf i).toNat)
          case atStart => exact ⟨0, by omega, rfl, HB6, HS6⟩
          case round =>
            obtain ⟨k, hk, rfl, HB, HS⟩ := hrel
            by_cases hlt : k < 27
            · have hk0 : (0 : Int) ≤ (k : Int) := by omega
              have hk1 : (k : Int) < 27 := by omega
              obtain ⟨p, q, r, m, hst, hix, PV, SV⟩ := as_round HT.out HE0.out HEL.out c HC.out k hlt
              have X1 := fun w => Lib.hid (has_at s HP.out k hlt w)
              have X2 := fun w => Lib.hid (implHasS_yes x p q r w HX.out hst)
              have hin := HV.out k hlt
              rw [hix] at X2
              generalize hs s.data.toList k = b at *
              generalize hs x.data.toList (asg c t k) = d at *
              clear hst hix
              go_wp2_with fail
              have hbb : Below wr.heap.size wr wr.drew := (Below.refl wr.heap.size wr).drew
              have HE := Lib.hid (HS.out k hlt)
              have hS0 := keepE HE.out (Below.refl wr.heap.size wr)
              have hS := keepE HE.out hbb
              have hlg := World.block_lt_of_cell? wr _ HE.out.1
              first | (go_region_held3 (fun w' => Below wr.heap.size wr w' ∧ w'.cell? ⟨g, k * 3, none⟩ = some (.int .i64 (ax k)) ∧ w'.cell? ⟨g, k * 3 + 1, none⟩ = some (.int .i64 (ay k)) ∧ w'.cell? ⟨g, k * 3 + 2, none⟩ = some (.int .i64 (az k)))
                ((first
                    | assumption
                    | exact keepE HE.out (by assumption)
                    | (go_split_ands; exact keepE HE.out (bnext (by assumption) hq))
                    | (go_split_ands; exact keepE HE.out (bput (by assumption) _))
                    | (go_split_ands; exact keepE HE.out (bswap (by assumption) hz))
                    | (go_split_ands; exact keepE HE.out (Below.setCell (Below.setCell (Below.setCell (by assumption) (by simp; omega) _) (by simp; omega) _) (by simp; omega) _))
                    | (go_split_ands; exact keepE HE.out (Below.setCell (Below.setCell (Below.setCell (by assumption) (by simp) _) (by simp) _) (by simp) _))))
                (first
                    | (go_at_call 10; (with_reducible refine (PV _).out.mono ?_); rintro e u1 ⟨rfl, hq⟩; have hz : wr.heap.size ≤ u1.heap.size := (bnext (by go_split_ands; assumption) hq).size; obtain ⟨hcq, hfq⟩ := bcell hq; have hs := hq.size; try simp at hs; try replace hs := Nat.lt_of_succ_le hs; try (have hlt1 : wr.heap.size < u1.heap.size := by omega); first | (have hbx := (Blk.new _ #[.int .i64 0, .int .i64 0, .int .i64 0] 30).kept hq) | (have hbx := (Blk.new _ #[.int .i64 0, .int .i64 0, .int .i64 0] 30).drew.kept hq) | skip)
                    | (go_at_call 9; (with_reducible refine (SV _).out.mono ?_); rintro e u2 ⟨rfl, hq⟩; have hz : wr.heap.size ≤ u2.heap.size := (bnext (by go_split_ands; assumption) hq).size; obtain ⟨hcq, hfq⟩ := bcell hq; have hs := hq.size; try simp at hs; try replace hs := Nat.lt_of_succ_le hs; try (have hlt2 : wr.heap.size < u2.heap.size := by omega); first | (have hbx := (Blk.new _ #[.int .i64 0, .int .i64 0, .int .i64 0] 30).kept hq) | (have hbx := (Blk.new _ #[.int .i64 0, .int .i64 0, .int .i64 0] 30).drew.kept hq) | (have hbx := hbx.kept hq) | skip))) | fail
              all_goals
                go_split_ands
                have HF := Lib.hid (show Below wr.heap.size wr _ by assumption)
                first
                  | (have HBX := Lib.hid (show Blk _ wr.heap.size #[.int .i64 p, .int .i64 q, .int .i64 r] 30 from (((Blk.kept hbx hq).set 0 (.int .i64 p)).set 1 (.int .i64 q)).set 2 (.int .i64 r)))
                  | (have HBX := Lib.hid (show Blk _ _ #[.int .i64 p, .int .i64 q, .int .i64 r] 30 from ((hbx.set 0 (.int .i64 p)).set 1 (.int .i64 q)).set 2 (.int .i64 r)))
                  | (have HBX := Lib.hid (Blk.new u2 #[.int .i64 p, .int .i64 q, .int .i64 r] 30))
                obtain ⟨e0, e1, e2⟩ := (keepE HE.out HF.out).2
                go_wp2_with fail
                refine (X1 _).out.mono ?_
                rintro e u5 ⟨rfl, hq5⟩
                have HG := Lib.hid (bnext HF.out hq5)
                obtain ⟨b0, b1, b2⟩ := (HBX.out.kept hq5).c3
                cases b
                · go_wp2_with fail
                  go_round
                  case rel => exact ⟨k + 1, by omega, by go_num, bnext HB.out HG.out, HS.out.kept HG.out⟩
                  case measure => simp [intOf]; omega
                · obtain rfl := hin (by trivial)
                  go_wp2_with fail
                  refine (X2 _).out.mono ?_
                  rintro e u6 ⟨rfl, hq6⟩
                  have HH := Lib.hid (bnext HG.out hq6)
                  go_wp2_with fail
                  go_round
                  case rel => exact ⟨k + 1, by omega, by go_num, bnext HB.out HH.out, HS.out.kept HH.out⟩
                  case measure => simp [intOf]; omega
            · have hk2 : k = 27 := by omega
              subst hk2
              clear HS
              have HB0 := HB
              go_wp2_with fail
              refine (D1 _).out.mono ?_
              rintro e w1 ⟨rfl, hb⟩
              have HB1 := Lib.hid (bnext HB0.out hb)
              clear hb
              go_wp2_with fail
              refine (D2 _).out.mono ?_
              rintro e w2 ⟨rfl, hb⟩
              have HB2 := Lib.hid (bnext HB1.out hb)
              clear hb
              go_wp2_with fail
              go_ret
              exact ⟨rfl, HB2.out⟩
      · have C1 := fun w => Lib.hid (implApost_of s v u w (fun w => implReadA_no s v u w (Nat.le_trans v1 (by decide)) hv))
        have C2 := fun w => Lib.hid (specApost_no s v u w (Nat.le_trans s1 (by decide)) (Nat.le_trans v1 (by decide)) hv)
        clear hv s1 v1 u1
        go_wp2_with fail
        refine (C1 _).out.mono ?_
        rintro e w2 ⟨rfl, hb⟩
        have HB2 := Lib.hid (bnext HB1.out hb)
        clear hb
        go_wp2_with fail
        refine (C2 _).out.mono ?_
        rintro e w3 ⟨rfl, hb⟩
        have HB3 := Lib.hid (bnext HB2.out hb)
        clear hb
        go_wp2_with fail
        go_ret
        exact ⟨rfl, HB3.out⟩

set_option linter.unusedVariables false in
set_option maxRecDepth 100000 in
theorem liftedAssignPost (os : Os) (started : os.Started) (H : Type) (enc : TypeId × Value → H) :
    ReturnsInHanded {} Try.checked os 4 .any (Rows.fnAssignPostSpec.pre6 enc Try.prog Try.f4 Rows.fnAssignPostRow.domain false) (Rows.fnAssignPostSpec.post enc Try.prog Try.f4 false true false false) := by
  refine returnsInHanded_of_change (C := Try.checked) Try.own started (by kernel_rfl) Try.func4
    (ChangeSpec.witness6 (enc := enc) (C := Try.checked) false ⟨#[], #[.slice none 0 0, .slice none 0 0], []⟩ 8 (by kernel_rfl) (by kernel_rfl) (by kernel_rfl) (by kernel_rfl)) ?_
  intro W base args ds gs before hval0 hW hcnd _
  have hval : ∀ (j : Nat) t v, Try.f4.params[j]? = some t → args[j]? = some v → Value.okWide Try.prog W .any base t v := hval0
  have hW' := hW
  obtain ⟨p, q, hA0, hV, rfl, hfz, hnd⟩ := hW
  have hA : DataW.TrodAll enc Try.prog W 0 (fun _ => true) true Try.f4.params.toList args.toList ds p := hA0
  rw [Try.params4] at hA hval
  obtain ⟨v0, vs0, d0, ds0, p0, q0, hargs, rfl, rfl, h0, r0⟩ := trodAll_cons hA
  obtain ⟨v1, vs1, d1, ds1, p1, q1, rfl, rfl, rfl, h1, r1⟩ := trodAll_cons r0
  obtain ⟨rfl, rfl, rfl⟩ := trodAll_nil r1
  obtain rfl : args = #[v0, v1] := by cases args; simp_all
  obtain ⟨rfl, rfl⟩ := trodVars_none hV
  obtain ⟨a0, len0, cap0, rfl⟩ := okWide_slice Try.underlying22 (hval 0 22 v0 rfl rfl)
  have k0 := h0
  have lt0 : ∀ x ∈ p0, x.block < W.heap.size := by obtain ⟨m, hm⟩ := k0; exact DataW.trod_lt m _ _ _ hm
  obtain ⟨z0, w0⟩ : ∃ zs, IsRow W a0 len0 cap0 zs := by
    obtain ⟨fuel, hf⟩ := h0
    rcases open_ints Try.underlying22 Try.underlying5 (by kernel_rfl) hf with ⟨hcs, _⟩ | ⟨x, l, c, zs, hcs, _, hl, hm, hz, _, hcell, hwz⟩
    · simp [Value.cells] at hcs
      obtain ⟨rfl, rfl, rfl⟩ := hcs
      exact ⟨[], .inl ⟨rfl, rfl, rfl, rfl⟩⟩
    · simp [Value.cells] at hcs
      obtain ⟨rfl, rfl, rfl⟩ := hcs
      exact ⟨zs, .inr ⟨_, rfl, hl, hm, by simpa using hz, hcell, hwz⟩⟩
  obtain ⟨a1, len1, cap1, rfl⟩ := okWide_slice Try.underlying22 (hval 1 22 v1 rfl rfl)
  have k1 := h1
  have lt1 : ∀ x ∈ p1, x.block < W.heap.size := by obtain ⟨m, hm⟩ := k1; exact DataW.trod_lt m _ _ _ hm
  obtain ⟨z1, w1⟩ : ∃ zs, IsRow W a1 len1 cap1 zs := by
    obtain ⟨fuel, hf⟩ := h1
    rcases open_ints Try.underlying22 Try.underlying5 (by kernel_rfl) hf with ⟨hcs, _⟩ | ⟨x, l, c, zs, hcs, _, hl, hm, hz, _, hcell, hwz⟩
    · simp [Value.cells] at hcs
      obtain ⟨rfl, rfl, rfl⟩ := hcs
      exact ⟨[], .inl ⟨rfl, rfl, rfl, rfl⟩⟩
    · simp [Value.cells] at hcs
      obtain ⟨rfl, rfl, rfl⟩ := hcs
      exact ⟨zs, .inr ⟨_, rfl, hl, hm, by simpa using hz, hcell, hwz⟩⟩
  clear hA0 hval0
  refine (walkAssignPost W w0 w1).mono fun e W' ⟨he, bel⟩ => ?_
  subst he
  exact ⟨_, rfl, _, _, _, [], _, [], hW', trodAll_mk1 (shut_bool Try.underlying4 _), (trodAll_cons_mk (Below.trod laidOut (by kernel_rfl) (of_decide_eq_true (by kernel_rfl)) k0 bel lt0) (trodAll_cons_mk (Below.trod laidOut (by kernel_rfl) (of_decide_eq_true (by kernel_rfl)) k1 bel lt1) trodAll_mk0)), rfl, bel.frame _, fun h => by cases h⟩

theorem assignPost_holds : Rows.FnAssignPostSaid :=
  OpenClaim.holds_of_wide 4 Try.f4 rfl rfl rfl rfl rfl rfl rfl ⟨rfl, rfl, rfl, rfl, rfl⟩ rfl rfl rfl rfl rfl (by kernel_rfl) Try.func4 (by kernel_rfl)
    (of_decide_eq_true (by kernel_rfl)) (by unfold Func.isWrapper; first | (rw [if_pos (by decide +kernel)]; kernel_rfl) | (rw [if_neg (by decide +kernel)]; exact ⟨rfl, rfl⟩))
    (fun os started H enc _ => liftedAssignPost os started H enc)

#print axioms assignPost_holds
end Go.Proofs.Ytehklmbkkidehaa
