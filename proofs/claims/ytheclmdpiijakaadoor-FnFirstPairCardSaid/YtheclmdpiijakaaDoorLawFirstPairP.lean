/-
  The law of the first pair of a relation is true at all bytes: no condition. The card.
-/
import Derived.Test.YtheclmdpiijakaaDoorCards
import Derived.Test.YtheclmdpiijakaaDoorTie
import Derived.Test.YtheclmdpiijakaaDoorDrf
import Derived.Test.YtheclmdpiijakaaDoorPpS
import Derived.Test.YtheclmdpiijakaaDoorFpP
import Derived.Test.YtheclmdpiijakaaDoorTabL
import Derived.Deep.RegionHeld3
import Derived.ProofKit
import Derived.ChangeOld
import Derived.Deep.DeepHandedRow
import Derived.Lib.SmallJoins
import Derived.ChangeSame
import Derived.JoinedOf
import Derived.JoinedAt
import Derived.RowKit3
import Derived.ShutString
import Derived.OpenShut
import Derived.LaidMore
import Derived.Lay
import Derived.SevenTiedAt
import Derived.Stop.Joined
namespace Go.Proofs.YtheclmdpiijakaaDoor
open Go.ChangeShapes Go.WideShapes Go.ChangeAt Go.RowKit Go.Joins
open Go.WideMaps Go.WideElems
open Go.ChangeMaps (open_string shut_string)
theorem pf_or (A : Nat → Nat → Bool) : (∃ i j, PFirst A i j) ∨ ∀ k, k < 27 → ∀ m, m < 27 → A k m = false := by
  have h : ∀ n, n ≤ 27 → (∃ i j, PFirst A i j) ∨ ∀ k, k < n → ∀ m, m < 27 → A k m = false := by
    intro n
    induction n with
    | zero => intro _; exact .inr (fun k hk => by omega)
    | succ n ih =>
      intro hn
      rcases ih (by omega) with h | h
      · exact .inl h
      · rcases first_or (A n) with ⟨j, hj⟩ | he
        · exact .inl ⟨n, j, by omega, hj, h⟩
        · refine .inr fun k hk m hm => ?_
          by_cases e : k = n
          · subst e; exact he m hm
          · exact h k (by omega) m hm
  exact h 27 (Nat.le_refl _)


set_option maxRecDepth 100000 in
set_option maxHeartbeats 16000000 in
theorem walkFirstPair {a0 : Option Addr} {len0 cap0 : Nat} {z0 : List Int} (w : World) (h0 : IsRow w a0 len0 cap0 z0) (hT : Tab32 w) :
    Calls Tryd.prog 5 #[.slice a0 len0 cap0] w fun e w' => e = .returned (.bool true) ∧ Below w.heap.size w w' := by
  have D := Lib.hid (dFirstPair h0)
  clear h0
  by_cases hl : (1048576 : Int) < len0
  · go_enter Tryd.func5, Tryd.ntmps5
    go_wp2_with fail
    go_ret
    exact ⟨rfl, Below.refl _ _⟩
  · go_enter Tryd.func5, Tryd.ntmps5
    go_wp2_with fail
    refine D.out.mono ?_
    rintro e w1 ⟨t, ht, rfl, hb⟩
    have HB1 := Lib.hid hb
    clear hb D
    have HT1 := Lib.hid (hT.below HB1.out)
    clear hT
    by_cases hv : Rel729 t
    · rcases pf_or (relS t.data.toList) with ⟨P, Q, hk⟩ | hk
      · obtain ⟨hP, ⟨hQ, hF, _⟩, _⟩ := id hk
        have C1 := fun w hT => Lib.hid (implFP_of t _ true _ _ _ _ _ _ _ w hT (fun w => readRel_yes t hv w) (fun w hT => rel_first_yes _ P Q hk w hT))
        have C2 := fun w => Lib.hid (specFP_yes t P Q w hv hk (Nat.le_trans ht (by decide)))
        have IP := fun w => Lib.hid (ix_of P hP w)
        have IQ := fun w => Lib.hid (ix_of Q hQ w)
        have HPQ := fun w => Lib.hid (hasr_at t hv P Q hP hQ w)
        rw [hF] at HPQ
        have HLOW : Hid (∀ i, i < 27 → ∀ k, k < 27 → relS t.data.toList i k = true → ¬ 27 * (i : Int) + k < 27 * (P : Int) + Q) := fun i hi k hk' he hlt => by
          obtain ⟨_, ⟨_, _, h2⟩, h3⟩ := hk
          by_cases e : i < P
          · rw [h3 i e k hk'] at he; cases he
          · have e2 : i = P := by omega
            subst e2
            have := h2 k (by omega)
            rw [he] at this; cases this
        have hpos : 0 < cntX (relS t.data.toList) 27 27 := by
          rcases Nat.eq_zero_or_pos (cntX (relS t.data.toList) 27 27) with h | h
          · rw [← cntX_R] at h
            have := (cntR_nil 27 (Nat.le_refl _)).1 h P hP Q hQ
            rw [hF] at this; cases this
          · exact h
        have V1 := fun w => Lib.hid (implRelValid_yes t hv w)
        have N1 := fun w => Lib.hid (implCountRel_yes t hv w)
        have HE := fun i j hi hj w => Lib.hid (hasr_at t hv i j hi hj w)
        simp only [cntX_R] at N1
        unfold BoolIs at V1
        unfold IntIs at N1
        clear hk hv ht hF
        generalize relS t.data.toList = T at *
        go_wp2_with fail
        refine (C1 _ HT1.out).out.mono ?_
        rintro e w2 ⟨rfl, hb⟩
        obtain ⟨u1, u2, ub, uz⟩ := two_blk w2 #[.int .i64 (ax P), .int .i64 (ay P), .int .i64 (az P)] #[.int .i64 (ax Q), .int .i64 (ay Q), .int .i64 (az Q)] 32 32
        have HB2 := Lib.hid (bnext (bnext HB1.out hb) ub)
        have U1 := Lib.hid u1
        have U2 := Lib.hid u2
        clear hb u1 u2 ub uz
        go_wp2_with fail
        generalize (w2.alloc (.cells #[.int .i64 (ax P), .int .i64 (ay P), .int .i64 (az P)] 32)).alloc (.cells #[.int .i64 (ax Q), .int .i64 (ay Q), .int .i64 (az Q)] 32) = w3 at *
        refine (C2 _).out.mono ?_
        rintro e w4 ⟨rfl, hb⟩
        obtain ⟨v1, v2, vb, vz⟩ := two_blk w4 #[.int .i64 (ax P), .int .i64 (ay P), .int .i64 (az P)] #[.int .i64 (ax Q), .int .i64 (ay Q), .int .i64 (az Q)] 32 32
        have HB4 := Lib.hid (bnext (bnext HB2.out hb) vb)
        have X1 := (U1.out.kept hb).kept vb
        have X2 := (U2.out.kept hb).kept vb
        obtain ⟨q0, q1, q2⟩ := X1.c3
        obtain ⟨q3, q4, q5⟩ := X2.c3
        obtain ⟨r0, r1, r2⟩ := v1.c3
        obtain ⟨r3, r4, r5⟩ := v2.c3
        have Y1 := Lib.hid X1
        have Y2 := Lib.hid X2
        have Y3 := Lib.hid v1
        have Y4 := Lib.hid v2
        clear hb X1 X2 v1 v2 vb vz U1 U2
        go_wp2_with fail
        generalize (w4.alloc (.cells #[.int .i64 (ax P), .int .i64 (ay P), .int .i64 (az P)] 32)).alloc (.cells #[.int .i64 (ax Q), .int .i64 (ay Q), .int .i64 (az Q)] 32) = w5 at *
        refine (V1 _).out.mono ?_
        rintro e w6 ⟨rfl, hb⟩
        have HB6 := Lib.hid (bnext HB4.out hb)
        have Z1 := Lib.hid (Y1.out.kept hb)
        have Z2 := Lib.hid (Y2.out.kept hb)
        clear hb q0 q1 q2 q3 q4 q5 r0 r1 r2 r3 r4 r5 Y1 Y2 Y3 Y4 C1 C2 V1
        go_wp2_with fail
        refine (states_any _).mono ?_
        rintro e w7 ⟨g, cap, hcap, hg, rfl, hs, hb⟩
        have HB7 := Lib.hid (bnext HB6.out hb)
        have HS7 := Lib.hid hs
        have HU7 := Lib.hid (Z1.out.kept hb)
        have HV7 := Lib.hid (Z2.out.kept hb)
        clear hb hs Z1 Z2
        go_wp2_with fail
        go_loopw [11, 12, 13] (fun nv iv _ wr => ∃ i : Nat, i ≤ 27 ∧ iv = .int .i64 i ∧ nv = .int .i64 (cntX T 27 i : Nat) ∧ Hid (Below w.heap.size w wr) ∧ Hid (Sts wr g) ∧ Hid (Blk wr w2.heap.size #[.int .i64 (ax P), .int .i64 (ay P), .int .i64 (az P)] 32) ∧ Hid (Blk wr (w2.heap.size + 1) #[.int .i64 (ax Q), .int .i64 (ay Q), .int .i64 (az Q)] 32)) (fun _ iv _ _ => 27 - (intOf iv).toNat)
        case atStart => exact ⟨0, by omega, rfl, rfl, HB7, HS7, HU7, HV7⟩
        case round =>
          obtain ⟨i, hi, rfl, rfl, HBi, HSi, HUi, HVi⟩ := hrel
          by_cases hlt : i < 27
          · have hi0 : (0 : Int) ≤ (i : Int) := by omega
            have hi1 : (i : Int) < 27 := by omega
            go_wp2_with fail
            obtain ⟨wo, rfl⟩ : ∃ wo : World, wo = wr := ⟨_, rfl⟩
            go_loopw [11, 13] (fun nv kv wr => ∃ k : Nat, k ≤ 27 ∧ kv = .int .i64 k ∧ nv = .int .i64 (cntX T 27 i + cnt k (T i) : Nat) ∧ Hid (Below w.heap.size w wr) ∧ Hid (Sts wr g) ∧ Hid (Blk wr w2.heap.size #[.int .i64 (ax P), .int .i64 (ay P), .int .i64 (az P)] 32) ∧ Hid (Blk wr (w2.heap.size + 1) #[.int .i64 (ax Q), .int .i64 (ay Q), .int .i64 (az Q)] 32)) (fun _ kv _ => 27 - (intOf kv).toNat)
            case atStart => exact ⟨0, by omega, rfl, rfl, HBi, HSi, HUi, HVi⟩
            case round =>
              clear HBi HSi HUi HVi
              obtain ⟨k, hk, rfl, rfl, HBk, HSk, HUk, HVk⟩ := hrel
              by_cases hlt2 : k < 27
              · have H1 := HE i k hlt hlt2
                have hk0 : (0 : Int) ≤ (k : Int) := by omega
                have hk1 : (k : Int) < 27 := by omega
                have HL := fun e => Lib.hid (HLOW.out i hlt k hlt2 e)
                have hup : cntX T 27 i + cnt (k + 1) (T i) = cntX T 27 i + cnt k (T i) + (if T i k then 1 else 0) := by
                  have : cnt (k + 1) (T i) = cnt k (T i) + (if T i k then 1 else 0) := rfl
                  omega
                have hle : cntX T 27 i + cnt k (T i) ≤ 729 + 27 := by have := cntX_le T i; have := cnt_le k (T i); omega
                clear HE HPQ N1 HLOW
                generalize cntX T 27 i + cnt k (T i) = c at *
                cases hT : T i k
                · rw [hT] at H1 hup
                  have hup' : cntX T 27 i + cnt (k + 1) (T i) = c := by rw [hup]; rfl
                  replace hup := Lib.hid hup'
                  clear HL hT hup' IP IQ
                  obtain ⟨c0, c1, c2⟩ := HSk.out k hlt2
                  obtain ⟨d0, d1, d2⟩ := HSk.out i hlt
                  go_wp2_with fail
                  have RG : ∀ w', Below wr.heap.size wr w' → Below wr.heap.size wr w' ∧ w'.cell? ⟨g, k * 3, none⟩ = some (.int .i64 (ax k)) ∧ w'.cell? ⟨g, k * 3 + 1, none⟩ = some (.int .i64 (ay k)) ∧ w'.cell? ⟨g, k * 3 + 2, none⟩ = some (.int .i64 (az k)) ∧ w'.cell? ⟨g, i * 3, none⟩ = some (.int .i64 (ax i)) ∧ w'.cell? ⟨g, i * 3 + 1, none⟩ = some (.int .i64 (ay i)) ∧ w'.cell? ⟨g, i * 3 + 2, none⟩ = some (.int .i64 (az i)) := fun w' h => ⟨h, ckeep h c0, ckeep h c1, ckeep h c2, ckeep h d0, ckeep h d1, ckeep h d2⟩
                  have RG' := Lib.hid RG
                  have hbb := (Below.refl wr.heap.size wr).drew
                  clear RG c0 c1 c2 d0 d1 d2
                  go_region_held3 (fun w' => Below wr.heap.size wr w' ∧ w'.cell? ⟨g, k * 3, none⟩ = some (.int .i64 (ax k)) ∧ w'.cell? ⟨g, k * 3 + 1, none⟩ = some (.int .i64 (ay k)) ∧ w'.cell? ⟨g, k * 3 + 2, none⟩ = some (.int .i64 (az k)) ∧ w'.cell? ⟨g, i * 3, none⟩ = some (.int .i64 (ax i)) ∧ w'.cell? ⟨g, i * 3 + 1, none⟩ = some (.int .i64 (ay i)) ∧ w'.cell? ⟨g, i * 3 + 2, none⟩ = some (.int .i64 (az i))) ((first | assumption | exact RG'.out _ (by assumption) | (go_split_ands; exact RG'.out _ (by assumption)) | (go_split_ands; exact RG'.out _ (bnext (by assumption) hq)))) (first | ((with_reducible refine (H1 _).out.mono ?_); rintro e w8 ⟨rfl, hq⟩))
                  all_goals
                    go_split_ands
                    rename_i hbw _ _ _ _ _ _
                    replace HSk := Lib.hid (HSk.out.kept hbw)
                    replace HUk := Lib.hid (HUk.out.kept hbw)
                    replace HVk := Lib.hid (HVk.out.kept hbw)
                    replace HBk := Lib.hid (bnext HBk.out hbw)
                    clear hbb hbw RG'
                    go_wp2_with fail
                    exact ⟨⟨k + 1, by omega, by go_num, by rw [hup.out], HBk, HSk, HUk, HVk⟩, by simp [intOf]; omega⟩
                · rw [hT] at H1 hup
                  have hnl := HL hT
                  have hup' : cntX T 27 i + cnt (k + 1) (T i) = c + 1 := by rw [hup]; rfl
                  have ec : IntKind.i64.wrap ((c : Int) + 1) = ((c + 1 : Nat) : Int) := (IntWalk.i64_in _ (by omega)).trans (by omega)
                  have e1 : IntKind.i64.wrap (27 * (i : Int)) = 27 * (i : Int) := IntWalk.i64_in _ (by omega)
                  have e2 : IntKind.i64.wrap (27 * (i : Int) + (k : Int)) = 27 * (i : Int) + k := IntWalk.i64_in _ (by omega)
                  have e3 : IntKind.i64.wrap (27 * (P : Int)) = 27 * (P : Int) := IntWalk.i64_in _ (by omega)
                  have e4 : IntKind.i64.wrap (27 * (P : Int) + (Q : Int)) = 27 * (P : Int) + Q := IntWalk.i64_in _ (by omega)
                  replace hup := Lib.hid hup'
                  replace hnl := hnl.out
                  clear HL hT hup' hle
                  obtain ⟨c0, c1, c2⟩ := HSk.out k hlt2
                  obtain ⟨d0, d1, d2⟩ := HSk.out i hlt
                  go_wp2_with fail
                  have RG : ∀ w', Below wr.heap.size wr w' → Below wr.heap.size wr w' ∧ w'.cell? ⟨g, k * 3, none⟩ = some (.int .i64 (ax k)) ∧ w'.cell? ⟨g, k * 3 + 1, none⟩ = some (.int .i64 (ay k)) ∧ w'.cell? ⟨g, k * 3 + 2, none⟩ = some (.int .i64 (az k)) ∧ w'.cell? ⟨g, i * 3, none⟩ = some (.int .i64 (ax i)) ∧ w'.cell? ⟨g, i * 3 + 1, none⟩ = some (.int .i64 (ay i)) ∧ w'.cell? ⟨g, i * 3 + 2, none⟩ = some (.int .i64 (az i)) := fun w' h => ⟨h, ckeep h c0, ckeep h c1, ckeep h c2, ckeep h d0, ckeep h d1, ckeep h d2⟩
                  have RG' := Lib.hid RG
                  have hbb := (Below.refl wr.heap.size wr).drew
                  clear RG c0 c1 c2 d0 d1 d2
                  go_region_held3 (fun w' => Below wr.heap.size wr w' ∧ w'.cell? ⟨g, k * 3, none⟩ = some (.int .i64 (ax k)) ∧ w'.cell? ⟨g, k * 3 + 1, none⟩ = some (.int .i64 (ay k)) ∧ w'.cell? ⟨g, k * 3 + 2, none⟩ = some (.int .i64 (az k)) ∧ w'.cell? ⟨g, i * 3, none⟩ = some (.int .i64 (ax i)) ∧ w'.cell? ⟨g, i * 3 + 1, none⟩ = some (.int .i64 (ay i)) ∧ w'.cell? ⟨g, i * 3 + 2, none⟩ = some (.int .i64 (az i))) ((first | assumption | exact RG'.out _ (by assumption) | (go_split_ands; exact RG'.out _ (by assumption)) | (go_split_ands; exact RG'.out _ (bnext (by assumption) hq)))) (first | ((with_reducible refine (H1 _).out.mono ?_); rintro e w8 ⟨rfl, hq⟩))
                  all_goals
                    go_split_ands
                    rename_i hbw _ _ _ _ _ _
                    replace HSk := Lib.hid (HSk.out.kept hbw)
                    replace HUk := Lib.hid (HUk.out.kept hbw)
                    replace HVk := Lib.hid (HVk.out.kept hbw)
                    replace HBk := Lib.hid (bnext HBk.out hbw)
                    clear hbb hbw RG'
                    obtain ⟨q0, q1, q2⟩ := HUk.out.c3
                    obtain ⟨q3, q4, q5⟩ := HVk.out.c3
                    go_wp2_with fail
                    have RG : ∀ w', Below w8.heap.size w8 w' → Below w8.heap.size w8 w' ∧ w'.cell? ⟨w2.heap.size, 0, none⟩ = some (.int .i64 (ax P)) ∧ w'.cell? ⟨w2.heap.size, 1, none⟩ = some (.int .i64 (ay P)) ∧ w'.cell? ⟨w2.heap.size, 2, none⟩ = some (.int .i64 (az P)) ∧ w'.cell? ⟨w2.heap.size + 1, 0, none⟩ = some (.int .i64 (ax Q)) ∧ w'.cell? ⟨w2.heap.size + 1, 1, none⟩ = some (.int .i64 (ay Q)) ∧ w'.cell? ⟨w2.heap.size + 1, 2, none⟩ = some (.int .i64 (az Q)) := fun w' h => ⟨h, ckeep h q0, ckeep h q1, ckeep h q2, ckeep h q3, ckeep h q4, ckeep h q5⟩
                    have RG' := Lib.hid RG
                    have hbb := (Below.refl w8.heap.size w8).drew
                    clear RG q0 q1 q2 q3 q4 q5
                    go_region_held3 (fun w' => Below w8.heap.size w8 w' ∧ w'.cell? ⟨w2.heap.size, 0, none⟩ = some (.int .i64 (ax P)) ∧ w'.cell? ⟨w2.heap.size, 1, none⟩ = some (.int .i64 (ay P)) ∧ w'.cell? ⟨w2.heap.size, 2, none⟩ = some (.int .i64 (az P)) ∧ w'.cell? ⟨w2.heap.size + 1, 0, none⟩ = some (.int .i64 (ax Q)) ∧ w'.cell? ⟨w2.heap.size + 1, 1, none⟩ = some (.int .i64 (ay Q)) ∧ w'.cell? ⟨w2.heap.size + 1, 2, none⟩ = some (.int .i64 (az Q))) ((first | assumption | exact RG'.out _ (by assumption) | (go_split_ands; exact RG'.out _ (by assumption)) | (go_split_ands; exact RG'.out _ (bnext (by assumption) hq)))) (first | ((with_reducible refine (IP _).out.mono ?_); rintro e w9 ⟨rfl, hq⟩) | ((with_reducible refine (IQ _).out.mono ?_); rintro e w9 ⟨rfl, hq⟩))
                    all_goals
                      go_split_ands
                      rename_i hbw _ _ _ _ _ _
                      replace HSk := Lib.hid (HSk.out.kept hbw)
                      replace HUk := Lib.hid (HUk.out.kept hbw)
                      replace HVk := Lib.hid (HVk.out.kept hbw)
                      replace HBk := Lib.hid (bnext HBk.out hbw)
                      clear hbb hbw RG'
                      go_wp2_with fail
                      exact ⟨⟨k + 1, by omega, by go_num, (by rw [hup.out]; first | rfl | simp), HBk, HSk, HUk, HVk⟩, by simp [intOf]; omega⟩
              · have hk2 : k = 27 := by omega
                subst hk2
                go_wp2_with fail
                exact ⟨⟨i + 1, by omega, by go_num, rfl, HBk, HSk, HUk, HVk⟩, by simp [intOf]; omega⟩
          · have hi2 : i = 27 := by omega
            subst hi2
            clear HSi HE
            have hge := cntX_le T 27
            clear HLOW IP IQ
            generalize cntX T 27 27 = c at *
            have hpos' : (0 : Int) < (c : Int) := by omega
            go_wp2_with fail
            refine (N1 _).out.mono ?_
            rintro e w8 ⟨rfl, hb⟩
            obtain ⟨q0, q1, q2⟩ := (HUi.out.kept hb).c3
            obtain ⟨q3, q4, q5⟩ := (HVi.out.kept hb).c3
            have HB8 := Lib.hid (bnext HBi.out hb)
            clear hb
            go_wp2_with fail
            refine (HPQ _).out.mono ?_
            rintro e w9 ⟨rfl, hb⟩
            have HB9 := Lib.hid (bnext HB8.out hb)
            clear hb q0 q1 q2 q3 q4 q5
            go_wp2_with fail
            go_ret
            exact ⟨rfl, HB9.out⟩
      · have C1 := fun w hT => Lib.hid (implFP_of t _ true _ _ _ _ _ _ _ w hT (fun w => readRel_yes t hv w) (fun w hT => rel_first_none _ hk w hT))
        have C2 := fun w => Lib.hid (specFP_none t w hv hk)
        have HN := Lib.hid hk
        have hzero : cntX (relS t.data.toList) 27 27 = 0 := by
          rw [← cntX_R]
          exact (cntR_nil 27 (Nat.le_refl _)).2 hk
        have V1 := fun w => Lib.hid (implRelValid_yes t hv w)
        have N1 := fun w => Lib.hid (implCountRel_yes t hv w)
        have HE := fun i j hi hj w => Lib.hid (hasr_at t hv i j hi hj w)
        simp only [cntX_R] at N1
        unfold BoolIs at V1
        unfold IntIs at N1
        rw [hzero] at N1
        clear hk hv ht hzero
        generalize relS t.data.toList = T at *
        go_wp2_with fail
        refine (C1 _ HT1.out).out.mono ?_
        rintro e w2 ⟨rfl, hb⟩
        obtain ⟨u1, u2, ub, uz⟩ := two_blk w2 #[.int .i64 0, .int .i64 0, .int .i64 0] #[.int .i64 0, .int .i64 0, .int .i64 0] 32 32
        have HB2 := Lib.hid (bnext (bnext HB1.out hb) ub)
        have U1 := Lib.hid u1
        have U2 := Lib.hid u2
        clear hb u1 u2 ub uz
        go_wp2_with fail
        generalize (w2.alloc (.cells #[.int .i64 0, .int .i64 0, .int .i64 0] 32)).alloc (.cells #[.int .i64 0, .int .i64 0, .int .i64 0] 32) = w3 at *
        refine (C2 _).out.mono ?_
        rintro e w4 ⟨rfl, hb⟩
        obtain ⟨v1, v2, vb, vz⟩ := two_blk w4 #[.int .i64 0, .int .i64 0, .int .i64 0] #[.int .i64 0, .int .i64 0, .int .i64 0] 32 32
        have HB4 := Lib.hid (bnext (bnext HB2.out hb) vb)
        have X1 := (U1.out.kept hb).kept vb
        have X2 := (U2.out.kept hb).kept vb
        obtain ⟨q0, q1, q2⟩ := X1.c3
        obtain ⟨q3, q4, q5⟩ := X2.c3
        obtain ⟨r0, r1, r2⟩ := v1.c3
        obtain ⟨r3, r4, r5⟩ := v2.c3
        have Y1 := Lib.hid X1
        have Y2 := Lib.hid X2
        have Y3 := Lib.hid v1
        have Y4 := Lib.hid v2
        clear hb X1 X2 v1 v2 vb vz U1 U2
        go_wp2_with fail
        generalize (w4.alloc (.cells #[.int .i64 0, .int .i64 0, .int .i64 0] 32)).alloc (.cells #[.int .i64 0, .int .i64 0, .int .i64 0] 32) = w5 at *
        refine (V1 _).out.mono ?_
        rintro e w6 ⟨rfl, hb⟩
        have HB6 := Lib.hid (bnext HB4.out hb)
        have Z1 := Lib.hid (Y1.out.kept hb)
        have Z2 := Lib.hid (Y2.out.kept hb)
        clear hb q0 q1 q2 q3 q4 q5 r0 r1 r2 r3 r4 r5 Y1 Y2 Y3 Y4 C1 C2 V1
        go_wp2_with fail
        refine (states_any _).mono ?_
        rintro e w7 ⟨g, cap, hcap, hg, rfl, hs, hb⟩
        have HB7 := Lib.hid (bnext HB6.out hb)
        have HS7 := Lib.hid hs
        have HU7 := Lib.hid (Z1.out.kept hb)
        have HV7 := Lib.hid (Z2.out.kept hb)
        clear hb hs Z1 Z2
        go_wp2_with fail
        go_loopw [11, 12, 13] (fun nv iv _ wr => ∃ i : Nat, i ≤ 27 ∧ iv = .int .i64 i ∧ nv = .int .i64 0 ∧ Hid (Below w.heap.size w wr) ∧ Hid (Sts wr g) ∧ Hid (Blk wr w2.heap.size #[.int .i64 0, .int .i64 0, .int .i64 0] 32) ∧ Hid (Blk wr (w2.heap.size + 1) #[.int .i64 0, .int .i64 0, .int .i64 0] 32)) (fun _ iv _ _ => 27 - (intOf iv).toNat)
        case atStart => exact ⟨0, by omega, rfl, rfl, HB7, HS7, HU7, HV7⟩
        case round =>
          obtain ⟨i, hi, rfl, rfl, HBi, HSi, HUi, HVi⟩ := hrel
          by_cases hlt : i < 27
          · have hi0 : (0 : Int) ≤ (i : Int) := by omega
            have hi1 : (i : Int) < 27 := by omega
            go_wp2_with fail
            obtain ⟨wo, rfl⟩ : ∃ wo : World, wo = wr := ⟨_, rfl⟩
            go_loopw [11, 13] (fun nv kv wr => ∃ k : Nat, k ≤ 27 ∧ kv = .int .i64 k ∧ nv = .int .i64 0 ∧ Hid (Below w.heap.size w wr) ∧ Hid (Sts wr g) ∧ Hid (Blk wr w2.heap.size #[.int .i64 0, .int .i64 0, .int .i64 0] 32) ∧ Hid (Blk wr (w2.heap.size + 1) #[.int .i64 0, .int .i64 0, .int .i64 0] 32)) (fun _ kv _ => 27 - (intOf kv).toNat)
            case atStart => exact ⟨0, by omega, rfl, rfl, HBi, HSi, HUi, HVi⟩
            case round =>
              clear HBi HSi HUi HVi
              obtain ⟨k, hk, rfl, rfl, HBk, HSk, HUk, HVk⟩ := hrel
              by_cases hlt2 : k < 27
              · have H1 := HE i k hlt hlt2
                have hk0 : (0 : Int) ≤ (k : Int) := by omega
                have hk1 : (k : Int) < 27 := by omega
                rw [HN.out i hlt k hlt2] at H1
                clear HE N1 HN
                obtain ⟨c0, c1, c2⟩ := HSk.out k hlt2
                obtain ⟨d0, d1, d2⟩ := HSk.out i hlt
                go_wp2_with fail
                have RG : ∀ w', Below wr.heap.size wr w' → Below wr.heap.size wr w' ∧ w'.cell? ⟨g, k * 3, none⟩ = some (.int .i64 (ax k)) ∧ w'.cell? ⟨g, k * 3 + 1, none⟩ = some (.int .i64 (ay k)) ∧ w'.cell? ⟨g, k * 3 + 2, none⟩ = some (.int .i64 (az k)) ∧ w'.cell? ⟨g, i * 3, none⟩ = some (.int .i64 (ax i)) ∧ w'.cell? ⟨g, i * 3 + 1, none⟩ = some (.int .i64 (ay i)) ∧ w'.cell? ⟨g, i * 3 + 2, none⟩ = some (.int .i64 (az i)) := fun w' h => ⟨h, ckeep h c0, ckeep h c1, ckeep h c2, ckeep h d0, ckeep h d1, ckeep h d2⟩
                have RG' := Lib.hid RG
                have hbb := (Below.refl wr.heap.size wr).drew
                clear RG c0 c1 c2 d0 d1 d2
                go_region_held3 (fun w' => Below wr.heap.size wr w' ∧ w'.cell? ⟨g, k * 3, none⟩ = some (.int .i64 (ax k)) ∧ w'.cell? ⟨g, k * 3 + 1, none⟩ = some (.int .i64 (ay k)) ∧ w'.cell? ⟨g, k * 3 + 2, none⟩ = some (.int .i64 (az k)) ∧ w'.cell? ⟨g, i * 3, none⟩ = some (.int .i64 (ax i)) ∧ w'.cell? ⟨g, i * 3 + 1, none⟩ = some (.int .i64 (ay i)) ∧ w'.cell? ⟨g, i * 3 + 2, none⟩ = some (.int .i64 (az i))) ((first | assumption | exact RG'.out _ (by assumption) | (go_split_ands; exact RG'.out _ (by assumption)) | (go_split_ands; exact RG'.out _ (bnext (by assumption) hq)))) (first | ((with_reducible refine (H1 _).out.mono ?_); rintro e w8 ⟨rfl, hq⟩))
                all_goals
                  go_split_ands
                  rename_i hbw _ _ _ _ _ _
                  replace HSk := Lib.hid (HSk.out.kept hbw)
                  replace HUk := Lib.hid (HUk.out.kept hbw)
                  replace HVk := Lib.hid (HVk.out.kept hbw)
                  replace HBk := Lib.hid (bnext HBk.out hbw)
                  clear hbb hbw RG'
                  go_wp2_with fail
                  exact ⟨⟨k + 1, by omega, by go_num, rfl, HBk, HSk, HUk, HVk⟩, by simp [intOf]; omega⟩
              · have hk2 : k = 27 := by omega
                subst hk2
                go_wp2_with fail
                exact ⟨⟨i + 1, by omega, by go_num, rfl, HBk, HSk, HUk, HVk⟩, by simp [intOf]; omega⟩
          · have hi2 : i = 27 := by omega
            subst hi2
            clear HSi HE
            go_wp2_with fail
            refine (N1 _).out.mono ?_
            rintro e w8 ⟨rfl, hb⟩
            have HB8 := Lib.hid (bnext HBi.out hb)
            clear hb
            go_wp2_with fail
            go_ret
            exact ⟨rfl, HB8.out⟩
    · have C1 := fun w hT => Lib.hid (implFP_of t _ false _ _ _ _ _ _ _ w hT (fun w => readRel_no t hv w) (fun w hT => rel_first_none _ (fun _ _ _ _ => rfl) w hT))
      have C2 := fun w => Lib.hid (specFP_no t w hv (Nat.le_trans ht (by decide)))
      have V1 := fun w => Lib.hid (implRelValid_no t hv w)
      unfold BoolIs at V1
      clear hv ht
      go_wp2_with fail
      refine (C1 _ HT1.out).out.mono ?_
      rintro e w2 ⟨rfl, hb⟩
      obtain ⟨u1, u2, ub, uz⟩ := two_blk w2 #[.int .i64 0, .int .i64 0, .int .i64 0] #[.int .i64 0, .int .i64 0, .int .i64 0] 32 32
      have HB2 := Lib.hid (bnext (bnext HB1.out hb) ub)
      have U1 := Lib.hid u1
      have U2 := Lib.hid u2
      clear hb u1 u2 ub uz
      go_wp2_with fail
      generalize (w2.alloc (.cells #[.int .i64 0, .int .i64 0, .int .i64 0] 32)).alloc (.cells #[.int .i64 0, .int .i64 0, .int .i64 0] 32) = w3 at *
      refine (C2 _).out.mono ?_
      rintro e w4 ⟨rfl, hb⟩
      obtain ⟨v1, v2, vb, vz⟩ := two_blk w4 #[.int .i64 0, .int .i64 0, .int .i64 0] #[.int .i64 0, .int .i64 0, .int .i64 0] 32 32
      have HB4 := Lib.hid (bnext (bnext HB2.out hb) vb)
      have X1 := (U1.out.kept hb).kept vb
      have X2 := (U2.out.kept hb).kept vb
      obtain ⟨q0, q1, q2⟩ := X1.c3
      obtain ⟨q3, q4, q5⟩ := X2.c3
      obtain ⟨r0, r1, r2⟩ := v1.c3
      obtain ⟨r3, r4, r5⟩ := v2.c3
      have Y1 := Lib.hid X1
      have Y2 := Lib.hid X2
      have Y3 := Lib.hid v1
      have Y4 := Lib.hid v2
      clear hb X1 X2 v1 v2 vb vz U1 U2
      go_wp2_with fail
      generalize (w4.alloc (.cells #[.int .i64 0, .int .i64 0, .int .i64 0] 32)).alloc (.cells #[.int .i64 0, .int .i64 0, .int .i64 0] 32) = w5 at *
      refine (V1 _).out.mono ?_
      rintro e w6 ⟨rfl, hb⟩
      have HB6 := Lib.hid (bnext HB4.out hb)
      clear q0 q1 q2 q3 q4 q5 r0 r1 r2 r3 r4 r5
      obtain ⟨q0, q1, q2⟩ := (Y1.out.kept hb).c3
      obtain ⟨q3, q4, q5⟩ := (Y2.out.kept hb).c3
      obtain ⟨r0, r1, r2⟩ := (Y3.out.kept hb).c3
      obtain ⟨r3, r4, r5⟩ := (Y4.out.kept hb).c3
      clear hb Y1 Y2 Y3 Y4
      go_wp2_with fail
      go_ret
      exact ⟨rfl, HB6.out⟩

theorem tabs_of {W : World} (hL : laidMetH Tryd.prog Rows.fnFirstPairRow.laid W) : Tab32 W := by
  rw [MakeChecks.laidMetH_plain _ _ _ (by kernel_rfl)] at hL
  exact tab_of_laid hL

theorem Tryd.own : ownKnob Tryd.prog.godebug = none := by kernel_rfl
theorem laidOut : laidOutB Tryd.prog = true := by kernel_rfl

set_option linter.unusedVariables false in
set_option maxRecDepth 100000 in
set_option maxHeartbeats 2000000 in
theorem lifted (os : Os) (started : os.Started) (H : Type) (enc : TypeId × Value → H) :
    ReturnsInHanded {} Tryd.checked os 5 .any (fun w args => (Rows.fnFirstPairSpec.pre enc Tryd.prog Tryd.f5 Rows.fnFirstPairRow.domain false w args ∧ laidMetH Tryd.prog Rows.fnFirstPairRow.laid w) ∧ sizedMet enc Tryd.prog Tryd.f5 (OpenSpec.ofChange Rows.fnFirstPairSpec) false w args)
      (Rows.fnFirstPairSpec.post enc Tryd.prog Tryd.f5 false true false false) := by
  refine returnsInHanded_of_change_and (C := Tryd.checked) (X := fun w _ => laidMetH Tryd.prog Rows.fnFirstPairRow.laid w) (fun _ _ _ hh h => h.of_heap hh) Tryd.own started (by kernel_rfl) Tryd.func5
    (ChangeSpec.witness_shaped (enc := enc) (C := Tryd.checked) (os := os) (X := fun w _ => laidMetH Tryd.prog Rows.fnFirstPairRow.laid w) false (World.laidAll Tryd.prog os Rows.fnFirstPairRow.laid) #[.slice none 0 0] 8 (World.laidAll_os _ _ _)
      (World.shaped_of_ZipB (by kernel_rfl) (by kernel_rfl)) (by kernel_rfl) (by kernel_rfl) (by kernel_rfl)
      (by rw [MakeChecks.laidMetH_plain _ _ _ (by kernel_rfl)]; exact laidMet_laidAll _ (by kernel_rfl) (by kernel_rfl))) ?_
  intro W base args ds gs before hval0 hW _ _ hL _
  have hval : ∀ (j : Nat) t v, Tryd.f5.params[j]? = some t → args[j]? = some v → Value.okWide Tryd.prog W .any base t v := hval0
  have hW' := hW
  obtain ⟨p, q, hA0, hV, rfl, _, _⟩ := hW
  have hA : DataW.TrodAll enc Tryd.prog W 0 (fun _ => true) true Tryd.f5.params.toList args.toList ds p := hA0
  rw [Tryd.params5] at hA hval
  obtain ⟨v0, vs0, d0, ds0, p0, q0, hargs, rfl, rfl, h0, r0⟩ := trodAll_cons hA
  obtain ⟨rfl, rfl, rfl⟩ := trodAll_nil r0
  obtain rfl : args = #[v0] := by cases args; simp_all
  obtain ⟨rfl, rfl⟩ := trodVars_none hV
  obtain ⟨a0, len0, cap0, rfl⟩ := okWide_slice Tryd.underlying22 (hval 0 22 v0 rfl rfl)
  have k0 := h0
  have lt0 : ∀ x ∈ p0, x.block < W.heap.size := by obtain ⟨m, hm⟩ := k0; exact DataW.trod_lt m _ _ _ hm
  obtain ⟨z0, w0⟩ : ∃ zs, IsRow W a0 len0 cap0 zs := by
    obtain ⟨fuel, hf⟩ := h0
    rcases open_ints Tryd.underlying22 Tryd.underlying5 (by kernel_rfl) hf with ⟨hcs, _⟩ | ⟨x, l, c, zs, hcs, _, hl, hm, hz, _, hcell, hwz⟩
    · simp [Value.cells] at hcs
      obtain ⟨rfl, rfl, rfl⟩ := hcs
      exact ⟨[], .inl ⟨rfl, rfl, rfl, rfl⟩⟩
    · simp [Value.cells] at hcs
      obtain ⟨rfl, rfl, rfl⟩ := hcs
      exact ⟨zs, .inr ⟨_, rfl, hl, hm, by simpa using hz, hcell, hwz⟩⟩
  clear hA0 hval0
  refine (walkFirstPair W w0 (tabs_of hL)).mono fun e W' ⟨he, bel⟩ => ?_
  subst he
  exact ⟨_, rfl, _, _, _, [], _, [], hW', trodAll_mk1 (shut_bool Tryd.underlying4 _), (trodAll_cons_mk (Below.trod laidOut (by kernel_rfl) (of_decide_eq_true (by kernel_rfl)) k0 bel lt0) trodAll_mk0), rfl, bel.frame _, fun h => by cases h⟩

-- each of the three walks over the program by itself: together they are too much for the kernel's memory
theorem jf1 : (Rows.fnFirstPairRow.inPlace == Tryd.prog.inPlace 5) = true := by kernel_rfl
theorem jf2 : (Rows.fnFirstPairRow.unfollowed == Tryd.prog.unfollowed 5) = true := by kernel_rfl
theorem jf3 : (Rows.fnFirstPairRow.recurses == Tryd.prog.recurses 5) = true := by kernel_rfl
theorem closed : joinedFacts Tryd.prog 5 Tryd.f5 Rows.fnFirstPairSpec Rows.fnFirstPairRow = true := by
  unfold joinedFacts
  rw [jf1, jf2, jf3]
  kernel_rfl

theorem said : Rows.FnFirstPairSaid :=
  OpenClaim.holds_of_wide 5 Tryd.f5 rfl rfl rfl rfl rfl rfl rfl ⟨rfl, rfl, rfl, rfl, rfl⟩ rfl rfl rfl rfl rfl (by kernel_rfl) Tryd.func5 closed
    (of_decide_eq_true (by kernel_rfl)) (by unfold Func.isWrapper; first | (rw [if_pos (by decide +kernel)]; kernel_rfl) | (rw [if_neg (by decide +kernel)]; exact ⟨rfl, rfl⟩))
    (fun os started H enc _ => by rw [OpenClaim.pre_eq_preRow]; exact lifted os started H enc)

theorem plain (f : FuncId) (fn : Func) (hf : Tryd.pinned.checked.prog.funcNamed Rows.fnFirstPairRow.func = some f) (hfn : Tryd.pinned.checked.prog.funcs[f]? = some fn) :
    true = Tryd.pinned.checked.prog.looks [] ∧ ∀ (j : Nat) t, fn.params[j]? = some t → Tryd.pinned.checked.prog.wantsStandIn t = false := by
  obtain rfl : f = 5 := Option.some.inj ((show Tryd.prog.funcNamed Rows.fnFirstPairRow.func = some 5 by kernel_rfl).symm.trans hf) |>.symm
  obtain rfl : fn = Tryd.f5 := (Option.some.inj (Tryd.func5.symm.trans hfn)).symm
  refine ⟨by kernel_rfl, fun j t ht => ?_⟩
  rw [Tryd.params5] at ht
  obtain rfl : t = 22 := by
    have := Array.mem_of_getElem? ht
    simpa using this
  exact (show Tryd.prog.wantsStandIn 22 = false by kernel_rfl)

theorem firstPair_card : Rows.FnFirstPairCardSaid :=
  Claim7.holds_tied_plain_at .later [] _ _ _ _ said (fun _ h => by cases h) (by kernel_rfl) (fun _ h => by cases h) fnFirstPair_row_tie rfl ⟨rfl, rfl⟩ (by kernel_rfl) rfl plain (by kernel_rfl)

#print axioms firstPair_card
end Go.Proofs.YtheclmdpiijakaaDoor
