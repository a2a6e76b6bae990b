/-
  The law of the weakest sets is true at all bytes: no condition.
-/
import Derived.Test.YthmghadepimcnaaGreatRows
import Derived.Test.YthmghadepimcnaaGreatTopE
import Derived.Deep.RegionHeld3
import Derived.Test.YthmghadepimcnaaGreatTopC
import Derived.ProofKit
import Derived.OpenShut
import Derived.ShutString
import Derived.ChangeOld
namespace Go.Proofs.YthmghadepimcnaaGreat
open Go.ChangeShapes Go.WideShapes Go.ChangeAt Go.RowKit
open Go.ChangeMaps (open_string shut_string)

theorem Tryz.own : ownKnob Tryz.prog.godebug = none := by kernel_rfl
theorem laidOut : laidOutB Tryz.prog = true := by kernel_rfl

theorem keepE {w0 w' : World} {g i j k : Nat} {a b c : Value} (h : w0.cell? ⟨g, i, none⟩ = some a ∧ w0.cell? ⟨g, j, none⟩ = some b ∧ w0.cell? ⟨g, k, none⟩ = some c) (hb : Below w0.heap.size w0 w') :
    Below w0.heap.size w0 w' ∧ w'.cell? ⟨g, i, none⟩ = some a ∧ w'.cell? ⟨g, j, none⟩ = some b ∧ w'.cell? ⟨g, k, none⟩ = some c :=
  ⟨hb, ckeep hb h.1, ckeep hb h.2.1, ckeep hb h.2.2⟩
theorem free_facts {p : Pg} (hp : p.ok false) {q : ByteArray} : ∃ (X E : ByteArray) (Hd : Nat → ByteArray), Set27 X ∧ Set27 E ∧ bs (tb (wF p (hs q.data.toList))) = X ∧ bs (tb (poS p (hs X.data.toList))) = E ∧ wi 27 (hs E.data.toList) (hs q.data.toList) = true ∧
    ∀ k, k < 27 → Set27 (Hd k) ∧ bs (tb (rT p k)) = Hd k ∧ wi 27 (hs (Hd k).data.toList) (hs q.data.toList) = hs X.data.toList k := by
  refine ⟨_, _, fun k => bs (tb (rT p k)), set27_tb _, set27_tb _, rfl, rfl, ?_, fun k hk => ⟨set27_tb _, rfl, ?_⟩⟩
  · rw [wi_congr (F' := poS p (wF p (hs q.data.toList))) (G' := hs q.data.toList) (fun j hj => by rw [hs_bs _ j hj]; exact poS_congr (fun i hi => hs_bs _ i hi) j) (fun _ _ => rfl), ← adj hp, wi_refl]
  · rw [hs_bs _ k hk, free_one hp _ hk]
    exact wi_congr (fun j hj => hs_bs _ j hj) (fun _ _ => rfl)
theorem free_facts2 {p : Pg} (hp : p.ok false) {q r X : ByteArray} (e : bs (tb (wF p (hs q.data.toList))) = X) : ∃ (Y : ByteArray) (b : Bool), Set27 Y ∧ bs (tb (poS p (hs r.data.toList))) = Y ∧ wi 27 (hs r.data.toList) (hs X.data.toList) = b ∧ wi 27 (hs Y.data.toList) (hs q.data.toList) = b := by
  subst e
  refine ⟨_, _, set27_tb _, rfl, rfl, ?_⟩
  rw [wi_congr (F' := poS p (hs r.data.toList)) (G' := hs q.data.toList) (fun j hj => hs_bs _ j hj) (fun _ _ => rfl), ← adj hp]
  exact wi_congr (fun _ _ => rfl) (fun j hj => (hs_bs _ j hj).symm)

set_option maxRecDepth 100000 in
set_option maxHeartbeats 16000000 in
theorem walkWeakestFree {a0 : Option Addr} {len0 cap0 : Nat} {z0 : List Int} {a1 : Option Addr} {len1 cap1 : Nat} {z1 : List Int} (w : World) (h0 : IsRow w a0 len0 cap0 z0) (h1 : IsRow w a1 len1 cap1 z1) :
    Calls Tryz.prog 11 #[.slice a0 len0 cap0, .slice a1 len1 cap1] w fun e w' => e = .returned (.bool true) ∧ Below w.heap.size w w' := by
  have D := Lib.hid (dWeakFree h0)
  have HR1 := Lib.hid h1
  clear h0 h1
  by_cases hl : (1048576 : Int) < len0
  · go_enter Tryz.func11, Tryz.ntmps11
    go_wp2_with fail
    go_ret
    exact ⟨rfl, Below.refl _ _⟩
  · by_cases hl1 : (1048576 : Int) < len1
    · go_enter Tryz.func11, Tryz.ntmps11
      go_wp2_with fail
      go_ret
      exact ⟨rfl, Below.refl _ _⟩
    · go_enter Tryz.func11, Tryz.ntmps11
      go_wp2_with fail
      refine D.out.mono ?_
      rintro e w1 ⟨t, q, t1, q1, rfl, hb⟩
      have HB1 := Lib.hid hb
      clear hb D
      by_cases hv : IsP t ∧ Set27 q
      · obtain ⟨⟨⟨p, hp, he⟩, hl⟩, hq⟩ := hv
        obtain ⟨X, E, Hd, hX, hE, e1, e2, e3, hf⟩ := free_facts hp (q := q)
        have HF := Lib.hid hf
        have HQ := Lib.hid hq
        have HX := Lib.hid hX
        have HP := Lib.hid hp
        have HE := Lib.hid he
        have HL := Lib.hid hl
        have HE1 := Lib.hid e1
        have C1 := fun w => Lib.hid (implFree_yes t q hp he hl hq w)
        have C2 := fun w => Lib.hid (specFree_yes t q hp he hl hq (Nat.le_trans q1 (by decide)) w)
        have CH := Lib.hid (fun k (hk : k < 27) w => Lib.hid (finals_at t hp he hl k hk w))
        have C5 := fun w => Lib.hid (implPostOf_yes t X hp he hl hX w)
        have C6 := fun w => Lib.hid (implPWithin_yes E q w hE hq)
        unfold TextPost at C1 C2 C5
        rw [e1] at C1 C2
        rw [e2] at C5
        rw [e3] at C6
        have PE := fun w => Lib.hid (ppPost_of t X E true C5 w)
        clear hp he hl hq hX hE e1 e2 e3 C5 hf t1 q1
        go_wp2_with fail
        refine (C1 _).out.mono ?_
        rintro e w2 ⟨rfl, hb⟩
        have HB2 := Lib.hid (bnext HB1.out hb)
        clear hb
        go_wp2_with fail
        refine (C2 _).out.mono ?_
        rintro e w3 ⟨rfl, hb⟩
        have HB3 := Lib.hid (bnext HB2.out hb)
        clear hb
        have D2 := Lib.hid (dPostOf (HR1.out.kept HB3.out))
        go_wp2_with fail
        refine D2.out.mono ?_
        rintro e w4 ⟨_, o, _, o1, rfl, hb⟩
        have HB4 := Lib.hid (bnext HB3.out hb)
        clear hb D2 HR1
        clear C1 C2
        by_cases ho : Set27 o
        · obtain ⟨Y, b, hY, f1, f2, f3⟩ := free_facts2 HP.out (r := o) HE1.out
          have V3 := fun w => Lib.hid (implPredValid_yes o w ho)
          have C3 := fun w => Lib.hid (implPWithin_yes o X w ho HX.out)
          have CY := fun w => Lib.hid (implPostOf_yes t o HP.out HE.out HL.out ho w)
          have C4 := fun w => Lib.hid (implPWithin_yes Y q w hY HQ.out)
          unfold TextPost at CY
          rw [f1] at CY
          rw [f2] at C3
          rw [f3] at C4
          have PY := fun w => Lib.hid (ppPost_of t o Y true CY w)
          clear ho hY f1 f2 f3 CY o1
          cases b
          · go_wp2_with fail
            refine (V3 _).out.mono ?_
            rintro e w' ⟨rfl, rfl⟩
            go_wp2_with fail
            refine (C3 _).out.mono ?_
            rintro e w' ⟨rfl, rfl⟩
            go_wp2_with fail
            refine (PY _).out.mono ?_
            rintro e w5 ⟨rfl, hb⟩
            have HB5 := Lib.hid (bnext HB4.out hb)
            clear hb
            go_wp2_with fail
            refine (C4 _).out.mono ?_
            rintro e w' ⟨rfl, rfl⟩
            go_wp2_with fail
            refine (states_any _).mono ?_
            rintro e w6 ⟨g, cap, hcap, hg, rfl, hs, hb⟩
            have HB6 := Lib.hid (bnext HB5.out hb)
            have HS6 := Lib.hid hs
            clear hb hs
            clear HB1 HB2 HB3 HB4 HB5
            go_wp2_with fail
            go_loopw [14] (fun  i wr => ∃ k : Nat, k ≤ 27 ∧ i = .int .i64 k ∧ Hid (Below w.heap.size w wr) ∧ Hid (Sts wr g)) (fun  i _ => 27 - (intOf i).toNat)
            case atStart => exact ⟨0, by omega, rfl, HB6, HS6⟩
            case round =>
              clear HB6 HS6
              obtain ⟨k, hk, rfl, HB, HS⟩ := hrel
              by_cases hlt : k < 27
              · have hk0 : (0 : Int) ≤ (k : Int) := by omega
                have hk1 : (k : Int) < 27 := by omega
                obtain ⟨a1, a2, a3⟩ := HF.out k hlt
                have H1 := fun w => Lib.hid (has_at X HX.out k hlt w)
                have H2 := CH.out k hlt
                have H3 := fun w => Lib.hid ((implPWithin_yes (Hd k) q w a1 HQ.out).mono (R' := fun e w' => e = .returned (.bool (wi 27 (hs (Hd k).data.toList) (hs q.data.toList))) ∧ Below w.heap.size w w') fun _ _ ⟨h1, h2⟩ => ⟨h1, h2 ▸ Below.refl _ _⟩)
                rw [a2] at H2
                rw [a3] at H3
                clear a1 a2 a3
                generalize hs X.data.toList k = x at *
                cases x
                · go_wp2_with fail
                  have hbb : Below wr.heap.size wr wr.drew := (Below.refl wr.heap.size wr).drew
                  have HE := Lib.hid (HS.out k hlt)
                  have hS0 := keepE HE.out (Below.refl wr.heap.size wr)
                  have hS := keepE HE.out hbb
                  go_region_held3 (fun w' => Below wr.heap.size wr w' ∧ w'.cell? ⟨g, k * 3, none⟩ = some (.int .i64 (ax k)) ∧ w'.cell? ⟨g, k * 3 + 1, none⟩ = some (.int .i64 (ay k)) ∧ w'.cell? ⟨g, k * 3 + 2, none⟩ = some (.int .i64 (az k)))
                    ((first
                        | assumption
                        | exact keepE HE.out (by assumption)
                        | (go_split_ands; exact keepE HE.out (bnext (by assumption) hq))))
                    (first
                        | (go_at_call 45; (with_reducible refine (H1 _).out.mono ?_); rintro e u1 ⟨rfl, hq⟩)
                        | (go_at_call 57; (with_reducible refine (H2 _).out.mono ?_); rintro e u2 ⟨rfl, hq⟩)
                        | (go_at_call 26; (with_reducible refine (H3 _).out.mono ?_); rintro e u3 ⟨rfl, hq⟩))
                  all_goals
                    go_split_ands
                    have HG := Lib.hid (show Below wr.heap.size wr _ by assumption)
                    go_wp2_with fail
                    go_round
                    case rel => exact ⟨k + 1, by omega, by go_num, bnext HB.out HG.out, HS.out.kept HG.out⟩
                    case measure => simp [intOf]; omega
                · go_wp2_with fail
                  have hbb : Below wr.heap.size wr wr.drew := (Below.refl wr.heap.size wr).drew
                  have HE := Lib.hid (HS.out k hlt)
                  have hS0 := keepE HE.out (Below.refl wr.heap.size wr)
                  have hS := keepE HE.out hbb
                  go_region_held3 (fun w' => Below wr.heap.size wr w' ∧ w'.cell? ⟨g, k * 3, none⟩ = some (.int .i64 (ax k)) ∧ w'.cell? ⟨g, k * 3 + 1, none⟩ = some (.int .i64 (ay k)) ∧ w'.cell? ⟨g, k * 3 + 2, none⟩ = some (.int .i64 (az k)))
                    ((first
                        | assumption
                        | exact keepE HE.out (by assumption)
                        | (go_split_ands; exact keepE HE.out (bnext (by assumption) hq))))
                    (first
                        | (go_at_call 45; (with_reducible refine (H1 _).out.mono ?_); rintro e u1 ⟨rfl, hq⟩)
                        | (go_at_call 57; (with_reducible refine (H2 _).out.mono ?_); rintro e u2 ⟨rfl, hq⟩)
                        | (go_at_call 26; (with_reducible refine (H3 _).out.mono ?_); rintro e u3 ⟨rfl, hq⟩))
                  all_goals
                    go_split_ands
                    have HG := Lib.hid (show Below wr.heap.size wr _ by assumption)
                    go_wp2_with fail
                    go_round
                    case rel => exact ⟨k + 1, by omega, by go_num, bnext HB.out HG.out, HS.out.kept HG.out⟩
                    case measure => simp [intOf]; omega
              · obtain rfl : k = 27 := by omega
                go_wp2_with fail
                refine (PE _).out.mono ?_
                rintro e u1 ⟨rfl, hb⟩
                have HY1 := Lib.hid (bnext HB.out hb)
                clear hb
                go_wp2_with fail
                refine (C6 _).out.mono ?_
                rintro e w' ⟨rfl, rfl⟩
                go_wp2_with fail
                go_ret
                exact ⟨rfl, HY1.out⟩
          · go_wp2_with fail
            refine (V3 _).out.mono ?_
            rintro e w' ⟨rfl, rfl⟩
            go_wp2_with fail
            refine (C3 _).out.mono ?_
            rintro e w' ⟨rfl, rfl⟩
            go_wp2_with fail
            refine (PY _).out.mono ?_
            rintro e w5 ⟨rfl, hb⟩
            have HB5 := Lib.hid (bnext HB4.out hb)
            clear hb
            go_wp2_with fail
            refine (C4 _).out.mono ?_
            rintro e w' ⟨rfl, rfl⟩
            go_wp2_with fail
            refine (states_any _).mono ?_
            rintro e w6 ⟨g, cap, hcap, hg, rfl, hs, hb⟩
            have HB6 := Lib.hid (bnext HB5.out hb)
            have HS6 := Lib.hid hs
            clear hb hs
            clear HB1 HB2 HB3 HB4 HB5
            go_wp2_with fail
            go_loopw [14] (fun  i wr => ∃ k : Nat, k ≤ 27 ∧ i = .int .i64 k ∧ Hid (Below w.heap.size w wr) ∧ Hid (Sts wr g)) (fun  i _ => 27 - (intOf i).toNat)
            case atStart => exact ⟨0, by omega, rfl, HB6, HS6⟩
            case round =>
              clear HB6 HS6
              obtain ⟨k, hk, rfl, HB, HS⟩ := hrel
              by_cases hlt : k < 27
              · have hk0 : (0 : Int) ≤ (k : Int) := by omega
                have hk1 : (k : Int) < 27 := by omega
                obtain ⟨a1, a2, a3⟩ := HF.out k hlt
                have H1 := fun w => Lib.hid (has_at X HX.out k hlt w)
                have H2 := CH.out k hlt
                have H3 := fun w => Lib.hid ((implPWithin_yes (Hd k) q w a1 HQ.out).mono (R' := fun e w' => e = .returned (.bool (wi 27 (hs (Hd k).data.toList) (hs q.data.toList))) ∧ Below w.heap.size w w') fun _ _ ⟨h1, h2⟩ => ⟨h1, h2 ▸ Below.refl _ _⟩)
                rw [a2] at H2
                rw [a3] at H3
                clear a1 a2 a3
                generalize hs X.data.toList k = x at *
                cases x
                · go_wp2_with fail
                  have hbb : Below wr.heap.size wr wr.drew := (Below.refl wr.heap.size wr).drew
                  have HE := Lib.hid (HS.out k hlt)
                  have hS0 := keepE HE.out (Below.refl wr.heap.size wr)
                  have hS := keepE HE.out hbb
                  go_region_held3 (fun w' => Below wr.heap.size wr w' ∧ w'.cell? ⟨g, k * 3, none⟩ = some (.int .i64 (ax k)) ∧ w'.cell? ⟨g, k * 3 + 1, none⟩ = some (.int .i64 (ay k)) ∧ w'.cell? ⟨g, k * 3 + 2, none⟩ = some (.int .i64 (az k)))
                    ((first
                        | assumption
                        | exact keepE HE.out (by assumption)
                        | (go_split_ands; exact keepE HE.out (bnext (by assumption) hq))))
                    (first
                        | (go_at_call 45; (with_reducible refine (H1 _).out.mono ?_); rintro e u1 ⟨rfl, hq⟩)
                        | (go_at_call 57; (with_reducible refine (H2 _).out.mono ?_); rintro e u2 ⟨rfl, hq⟩)
                        | (go_at_call 26; (with_reducible refine (H3 _).out.mono ?_); rintro e u3 ⟨rfl, hq⟩))
                  all_goals
                    go_split_ands
                    have HG := Lib.hid (show Below wr.heap.size wr _ by assumption)
                    go_wp2_with fail
                    go_round
                    case rel => exact ⟨k + 1, by omega, by go_num, bnext HB.out HG.out, HS.out.kept HG.out⟩
                    case measure => simp [intOf]; omega
                · go_wp2_with fail
                  have hbb : Below wr.heap.size wr wr.drew := (Below.refl wr.heap.size wr).drew
                  have HE := Lib.hid (HS.out k hlt)
                  have hS0 := keepE HE.out (Below.refl wr.heap.size wr)
                  have hS := keepE HE.out hbb
                  go_region_held3 (fun w' => Below wr.heap.size wr w' ∧ w'.cell? ⟨g, k * 3, none⟩ = some (.int .i64 (ax k)) ∧ w'.cell? ⟨g, k * 3 + 1, none⟩ = some (.int .i64 (ay k)) ∧ w'.cell? ⟨g, k * 3 + 2, none⟩ = some (.int .i64 (az k)))
                    ((first
                        | assumption
                        | exact keepE HE.out (by assumption)
                        | (go_split_ands; exact keepE HE.out (bnext (by assumption) hq))))
                    (first
                        | (go_at_call 45; (with_reducible refine (H1 _).out.mono ?_); rintro e u1 ⟨rfl, hq⟩)
                        | (go_at_call 57; (with_reducible refine (H2 _).out.mono ?_); rintro e u2 ⟨rfl, hq⟩)
                        | (go_at_call 26; (with_reducible refine (H3 _).out.mono ?_); rintro e u3 ⟨rfl, hq⟩))
                  all_goals
                    go_split_ands
                    have HG := Lib.hid (show Below wr.heap.size wr _ by assumption)
                    go_wp2_with fail
                    go_round
                    case rel => exact ⟨k + 1, by omega, by go_num, bnext HB.out HG.out, HS.out.kept HG.out⟩
                    case measure => simp [intOf]; omega
              · obtain rfl : k = 27 := by omega
                go_wp2_with fail
                refine (PE _).out.mono ?_
                rintro e u1 ⟨rfl, hb⟩
                have HY1 := Lib.hid (bnext HB.out hb)
                clear hb
                go_wp2_with fail
                refine (C6 _).out.mono ?_
                rintro e w' ⟨rfl, rfl⟩
                go_wp2_with fail
                go_ret
                exact ⟨rfl, HY1.out⟩
        · have V3 := fun w => Lib.hid (implPredValid_no o w ho)
          clear ho o1
          go_wp2_with fail
          refine (V3 _).out.mono ?_
          rintro e w' ⟨rfl, rfl⟩
          go_wp2_with fail
          refine (states_any _).mono ?_
          rintro e w5 ⟨g, cap, hcap, hg, rfl, hs, hb⟩
          have HB5 := Lib.hid (bnext HB4.out hb)
          have HS5 := Lib.hid hs
          clear hb hs
          clear HB1 HB2 HB3 HB4
          go_wp2_with fail
          go_loopw [14] (fun  i wr => ∃ k : Nat, k ≤ 27 ∧ i = .int .i64 k ∧ Hid (Below w.heap.size w wr) ∧ Hid (Sts wr g)) (fun  i _ => 27 - (intOf i).toNat)
          case atStart => exact ⟨0, by omega, rfl, HB5, HS5⟩
          case round =>
            clear HB5 HS5
            obtain ⟨k, hk, rfl, HB, HS⟩ := hrel
            by_cases hlt : k < 27
            · have hk0 : (0 : Int) ≤ (k : Int) := by omega
              have hk1 : (k : Int) < 27 := by omega
              obtain ⟨a1, a2, a3⟩ := HF.out k hlt
              have H1 := fun w => Lib.hid (has_at X HX.out k hlt w)
              have H2 := CH.out k hlt
              have H3 := fun w => Lib.hid ((implPWithin_yes (Hd k) q w a1 HQ.out).mono (R' := fun e w' => e = .returned (.bool (wi 27 (hs (Hd k).data.toList) (hs q.data.toList))) ∧ Below w.heap.size w w') fun _ _ ⟨h1, h2⟩ => ⟨h1, h2 ▸ Below.refl _ _⟩)
              rw [a2] at H2
              rw [a3] at H3
              clear a1 a2 a3
              generalize hs X.data.toList k = x at *
              cases x
              · go_wp2_with fail
                have hbb : Below wr.heap.size wr wr.drew := (Below.refl wr.heap.size wr).drew
                have HE := Lib.hid (HS.out k hlt)
                have hS0 := keepE HE.out (Below.refl wr.heap.size wr)
                have hS := keepE HE.out hbb
                go_region_held3 (fun w' => Below wr.heap.size wr w' ∧ w'.cell? ⟨g, k * 3, none⟩ = some (.int .i64 (ax k)) ∧ w'.cell? ⟨g, k * 3 + 1, none⟩ = some (.int .i64 (ay k)) ∧ w'.cell? ⟨g, k * 3 + 2, none⟩ = some (.int .i64 (az k)))
                  ((first
                      | assumption
                      | exact keepE HE.out (by assumption)
                      | (go_split_ands; exact keepE HE.out (bnext (by assumption) hq))))
                  (first
                      | (go_at_call 45; (with_reducible refine (H1 _).out.mono ?_); rintro e u1 ⟨rfl, hq⟩)
                      | (go_at_call 57; (with_reducible refine (H2 _).out.mono ?_); rintro e u2 ⟨rfl, hq⟩)
                      | (go_at_call 26; (with_reducible refine (H3 _).out.mono ?_); rintro e u3 ⟨rfl, hq⟩))
                all_goals
                  go_split_ands
                  have HG := Lib.hid (show Below wr.heap.size wr _ by assumption)
                  go_wp2_with fail
                  go_round
                  case rel => exact ⟨k + 1, by omega, by go_num, bnext HB.out HG.out, HS.out.kept HG.out⟩
                  case measure => simp [intOf]; omega
              · go_wp2_with fail
                have hbb : Below wr.heap.size wr wr.drew := (Below.refl wr.heap.size wr).drew
                have HE := Lib.hid (HS.out k hlt)
                have hS0 := keepE HE.out (Below.refl wr.heap.size wr)
                have hS := keepE HE.out hbb
                go_region_held3 (fun w' => Below wr.heap.size wr w' ∧ w'.cell? ⟨g, k * 3, none⟩ = some (.int .i64 (ax k)) ∧ w'.cell? ⟨g, k * 3 + 1, none⟩ = some (.int .i64 (ay k)) ∧ w'.cell? ⟨g, k * 3 + 2, none⟩ = some (.int .i64 (az k)))
                  ((first
                      | assumption
                      | exact keepE HE.out (by assumption)
                      | (go_split_ands; exact keepE HE.out (bnext (by assumption) hq))))
                  (first
                      | (go_at_call 45; (with_reducible refine (H1 _).out.mono ?_); rintro e u1 ⟨rfl, hq⟩)
                      | (go_at_call 57; (with_reducible refine (H2 _).out.mono ?_); rintro e u2 ⟨rfl, hq⟩)
                      | (go_at_call 26; (with_reducible refine (H3 _).out.mono ?_); rintro e u3 ⟨rfl, hq⟩))
                all_goals
                  go_split_ands
                  have HG := Lib.hid (show Below wr.heap.size wr _ by assumption)
                  go_wp2_with fail
                  go_round
                  case rel => exact ⟨k + 1, by omega, by go_num, bnext HB.out HG.out, HS.out.kept HG.out⟩
                  case measure => simp [intOf]; omega
            · obtain rfl : k = 27 := by omega
              go_wp2_with fail
              refine (PE _).out.mono ?_
              rintro e u1 ⟨rfl, hb⟩
              have HY1 := Lib.hid (bnext HB.out hb)
              clear hb
              go_wp2_with fail
              refine (C6 _).out.mono ?_
              rintro e w' ⟨rfl, rfl⟩
              go_wp2_with fail
              go_ret
              exact ⟨rfl, HY1.out⟩
      · have C1 := fun w => Lib.hid (implFree_no t q hv w)
        have C2 := fun w => Lib.hid (specFree_no t q (Nat.le_trans q1 (by decide)) hv w)
        unfold NoPost at C1 C2
        clear hv t1 q1
        go_wp2_with fail
        refine (C1 _).out.mono ?_
        rintro e w2 ⟨rfl, hb⟩
        have HB2 := Lib.hid (bnext HB1.out hb)
        clear hb
        go_wp2_with fail
        refine (C2 _).out.mono ?_
        rintro e w3 ⟨rfl, hb⟩
        have HB3 := Lib.hid (bnext HB2.out hb)
        clear hb
        go_wp2_with fail
        go_ret
        exact ⟨rfl, HB3.out⟩

set_option linter.unusedVariables false in
set_option maxRecDepth 100000 in
theorem liftedWeakestFree (os : Os) (started : os.Started) (H : Type) (enc : TypeId × Value → H) :
    ReturnsInHanded {} Tryz.checked os 11 .any (Rows.fnWeakestFreeSpec.pre6 enc Tryz.prog Tryz.f11 Rows.fnWeakestFreeRow.domain false) (Rows.fnWeakestFreeSpec.post enc Tryz.prog Tryz.f11 false true false false) := by
  refine returnsInHanded_of_change (C := Tryz.checked) Tryz.own started (by kernel_rfl) Tryz.func11
    (ChangeSpec.witness6 (enc := enc) (C := Tryz.checked) false ⟨#[], #[.slice none 0 0, .slice none 0 0], []⟩ 8 (by kernel_rfl) (by kernel_rfl) (by kernel_rfl) (by kernel_rfl)) ?_
  intro W base args ds gs before hval0 hW hcnd _
  have hval : ∀ (j : Nat) t v, Tryz.f11.params[j]? = some t → args[j]? = some v → Value.okWide Tryz.prog W .any base t v := hval0
  have hW' := hW
  obtain ⟨p, q, hA0, hV, rfl, hfz, hnd⟩ := hW
  have hA : DataW.TrodAll enc Tryz.prog W 0 (fun _ => true) true Tryz.f11.params.toList args.toList ds p := hA0
  rw [Tryz.params11] at hA hval
  obtain ⟨v0, vs0, d0, ds0, p0, q0, hargs, rfl, rfl, h0, r0⟩ := trodAll_cons hA
  obtain ⟨v1, vs1, d1, ds1, p1, q1, rfl, rfl, rfl, h1, r1⟩ := trodAll_cons r0
  obtain ⟨rfl, rfl, rfl⟩ := trodAll_nil r1
  obtain rfl : args = #[v0, v1] := by cases args; simp_all
  obtain ⟨rfl, rfl⟩ := trodVars_none hV
  obtain ⟨a0, len0, cap0, rfl⟩ := okWide_slice Tryz.underlying22 (hval 0 22 v0 rfl rfl)
  have k0 := h0
  have lt0 : ∀ x ∈ p0, x.block < W.heap.size := by obtain ⟨m, hm⟩ := k0; exact DataW.trod_lt m _ _ _ hm
  obtain ⟨z0, w0⟩ : ∃ zs, IsRow W a0 len0 cap0 zs := by
    obtain ⟨fuel, hf⟩ := h0
    rcases open_ints Tryz.underlying22 Tryz.underlying5 (by kernel_rfl) hf with ⟨hcs, _⟩ | ⟨x, l, c, zs, hcs, _, hl, hm, hz, _, hcell, hwz⟩
    · simp [Value.cells] at hcs
      obtain ⟨rfl, rfl, rfl⟩ := hcs
      exact ⟨[], .inl ⟨rfl, rfl, rfl, rfl⟩⟩
    · simp [Value.cells] at hcs
      obtain ⟨rfl, rfl, rfl⟩ := hcs
      exact ⟨zs, .inr ⟨_, rfl, hl, hm, by simpa using hz, hcell, hwz⟩⟩
  obtain ⟨a1, len1, cap1, rfl⟩ := okWide_slice Tryz.underlying22 (hval 1 22 v1 rfl rfl)
  have k1 := h1
  have lt1 : ∀ x ∈ p1, x.block < W.heap.size := by obtain ⟨m, hm⟩ := k1; exact DataW.trod_lt m _ _ _ hm
  obtain ⟨z1, w1⟩ : ∃ zs, IsRow W a1 len1 cap1 zs := by
    obtain ⟨fuel, hf⟩ := h1
    rcases open_ints Tryz.underlying22 Tryz.underlying5 (by kernel_rfl) hf with ⟨hcs, _⟩ | ⟨x, l, c, zs, hcs, _, hl, hm, hz, _, hcell, hwz⟩
    · simp [Value.cells] at hcs
      obtain ⟨rfl, rfl, rfl⟩ := hcs
      exact ⟨[], .inl ⟨rfl, rfl, rfl, rfl⟩⟩
    · simp [Value.cells] at hcs
      obtain ⟨rfl, rfl, rfl⟩ := hcs
      exact ⟨zs, .inr ⟨_, rfl, hl, hm, by simpa using hz, hcell, hwz⟩⟩
  clear hA0 hval0
  refine (walkWeakestFree W w0 w1).mono fun e W' ⟨he, bel⟩ => ?_
  subst he
  exact ⟨_, rfl, _, _, _, [], _, [], hW', trodAll_mk1 (shut_bool Tryz.underlying4 _), (trodAll_cons_mk (Below.trod laidOut (by kernel_rfl) (of_decide_eq_true (by kernel_rfl)) k0 bel lt0) (trodAll_cons_mk (Below.trod laidOut (by kernel_rfl) (of_decide_eq_true (by kernel_rfl)) k1 bel lt1) trodAll_mk0)), rfl, bel.frame _, fun h => by cases h⟩

theorem weakestFree_holds : Rows.FnWeakestFreeSaid :=
  OpenClaim.holds_of_wide 11 Tryz.f11 rfl rfl rfl rfl rfl rfl rfl ⟨rfl, rfl, rfl, rfl, rfl⟩ rfl rfl rfl rfl rfl (by kernel_rfl) Tryz.func11 (by kernel_rfl)
    (of_decide_eq_true (by kernel_rfl)) (by unfold Func.isWrapper; first | (rw [if_pos (by decide +kernel)]; kernel_rfl) | (rw [if_neg (by decide +kernel)]; exact ⟨rfl, rfl⟩))
    (fun os started H enc _ => liftedWeakestFree os started H enc)

#print axioms weakestFree_holds
end Go.Proofs.YthmghadepimcnaaGreat
