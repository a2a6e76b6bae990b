/-
  The law of composed relations is true at all bytes: no condition.
-/
import Derived.Test.YtheclmdpiijakaaRows
import Derived.Test.YtheclmdpiijakaaTopX
import Derived.Deep.RegionHeld3
import Derived.Test.YtheclmdpiijakaaPpS
import Derived.ProofKit
import Derived.OpenShut
import Derived.ShutString
import Derived.ChangeOld
namespace Go.Proofs.Ytheclmdpiijakaa
open Go.ChangeShapes Go.WideShapes Go.ChangeAt Go.RowKit
open Go.ChangeMaps (open_string shut_string)

theorem Try.own : ownKnob Try.prog.godebug = none := by kernel_rfl
theorem laidOut : laidOutB Try.prog = true := by kernel_rfl

set_option maxRecDepth 100000 in
set_option maxHeartbeats 64000000 in
theorem walkCompose {a0 : Option Addr} {len0 cap0 : Nat} {z0 : List Int} {a1 : Option Addr} {len1 cap1 : Nat} {z1 : List Int} (w : World) (h0 : IsRow w a0 len0 cap0 z0) (h1 : IsRow w a1 len1 cap1 z1) :
    Calls Try.prog 3 #[.slice a0 len0 cap0, .slice a1 len1 cap1] w fun e w' => e = .returned (.bool true) ∧ Below w.heap.size w w' := by
  have D := Lib.hid (dComposeRel h0)
  have HR1 := Lib.hid h1
  clear h0 h1
  by_cases hl : (1048576 : Int) < len0
  · go_enter Try.func3, Try.ntmps3
    go_wp2_with fail
    go_ret
    exact ⟨rfl, Below.refl _ _⟩
  · by_cases hl1 : (1048576 : Int) < len1
    · go_enter Try.func3, Try.ntmps3
      go_wp2_with fail
      go_ret
      exact ⟨rfl, Below.refl _ _⟩
    · go_enter Try.func3, Try.ntmps3
      go_wp2_with fail
      refine D.out.mono ?_
      rintro e w1 ⟨s, t, s1, t1, rfl, hb⟩
      have HB1 := Lib.hid hb
      clear hb D
      by_cases hv : Rel729 s ∧ Rel729 t
      · obtain ⟨R, rfl⟩ : ∃ R, s = bs (relT R) := ⟨_, rel_bs hv.1⟩
        obtain ⟨Q, rfl⟩ : ∃ Q, t = bs (relT Q) := ⟨_, rel_bs hv.2⟩
        have C1 := iComp R Q
        have C2 := sComp R Q
        unfold Gives at C1 C2
        clear hv s1 t1
        go_wp2_with fail
        refine (C1 _).out.mono ?_
        rintro e w2 ⟨rfl, hb⟩
        have HB2 := Lib.hid (bnext HB1.out hb)
        clear hb
        go_wp2_with fail
        refine (C2 _).out.mono ?_
        rintro e w3 ⟨rfl, hb⟩
        have HB3 := Lib.hid (bnext HB2.out hb)
        clear hb
        have DM := Lib.hid (dNotRel (HR1.out.kept6 HB3.out))
        clear HR1
        go_wp2_with fail
        refine DM.out.mono ?_
        rintro e w4 ⟨u, hu, rfl, hb⟩
        have HB4 := Lib.hid (bnext HB3.out hb)
        clear hb DM
        by_cases hg : Rel729 u
        · obtain ⟨U, rfl⟩ : ∃ U, u = bs (relT U) := ⟨_, rel_bs hg⟩
          have V := iValid U
          have P1 := ppThen_of (iComp (compR R Q) U)
          have P2 := ppThen_of (iComp Q U)
          have P3 := ppThen_of (iComp R (compR Q U))
          rw [← comp_assoc] at P3
          have P4 := ppOrRel_of (iOr Q U)
          have P5 := ppThen_of (iComp R (fun i j => Q i j || U i j))
          rw [comp_or] at P5
          have P6 := ppThen_of (iComp R U)
          have P7 := ppOrRel_of (iOr (compR R Q) (compR R U))
          have HR := fun i j hi hj w => Lib.hid (hasp_at R i j hi hj w)
          have HQ := fun i j hi hj w => Lib.hid (hasp_at Q i j hi hj w)
          have HX := fun i j hi hj w => Lib.hid (hasp_at (compR R Q) i j hi hj w)
          unfold Gives at V P1 P2 P3 P4 P5 P6 P7
          clear hg hu C1 C2
          generalize bs (relT (compR (compR R Q) U)) = X1 at *
          generalize bs (relT (compR Q U)) = X2 at *
          generalize bs (relT (fun i j => Q i j || U i j)) = X3 at *
          generalize bs (relT (fun i j => compR R Q i j || compR R U i j)) = X4 at *
          generalize bs (relT (compR R U)) = X5 at *
          generalize bs (relT (compR R Q)) = X6 at *
          generalize bs (relT R) = X7 at *
          generalize bs (relT Q) = X8 at *
          generalize bs (relT U) = X9 at *
          go_wp2_with fail
          refine (V _).out.mono ?_
          rintro e w5 ⟨rfl, hb⟩
          have HB5 := Lib.hid (bnext HB4.out hb)
          clear hb
          go_wp2_with fail
          refine (states_any _).mono ?_
          rintro e w6 ⟨g, cap, hcap, hg, rfl, hs, hb⟩
          have HB6 := Lib.hid (bnext HB5.out hb)
          have HS6 := Lib.hid hs
          clear hb hs V
          go_wp2_with fail
          go_loopw [13, 14, 15, 16, 17] (fun iv _ _ _ _ wr => ∃ i : Nat, i ≤ 27 ∧ iv = .int .i64 i ∧ Hid (Below w.heap.size w wr) ∧ Hid (Sts wr g)) (fun iv _ _ _ _ _ => 27 - (intOf iv).toNat)
          case atStart => exact ⟨0, by omega, rfl, HB6, HS6⟩
          case round =>
            clear HB6 HS6
            obtain ⟨i, hi, rfl, HBi, HSi⟩ := hrel
            by_cases hlt : i < 27
            · clear P1 P2 P3 P4 P5 P6 P7
              obtain ⟨j, hj, hje⟩ : ∃ j : Nat, j < 27 ∧ j = (i * 7 + len1) % 27 := ⟨_, Nat.mod_lt _ (by omega), rfl⟩
              have e1 : IntKind.i64.wrap ((i : Int) * 7) = (i : Int) * 7 := IntWalk.i64_in _ (by omega)
              have e2 : IntKind.i64.wrap ((i : Int) * 7 + (len1 : Int)) = (i : Int) * 7 + (len1 : Int) := IntWalk.i64_in _ (by omega)
              have e3 : ((i : Int) * 7 + (len1 : Int)) % 27 = (j : Int) := by omega
              have e4 : ((i : Int) * 7 + (len1 : Int)).tmod 27 = (j : Int) := by rw [Int.tmod_eq_emod_of_nonneg (by omega)]; exact e3
              have hi0 : (0 : Int) ≤ (i : Int) := by omega
              have hi1 : (i : Int) < 27 := by omega
              have hj0 : (0 : Int) ≤ (j : Int) := by omega
              have hj1 : (j : Int) < 27 := by omega
              obtain ⟨c0, c1, c2⟩ := HSi.out i hlt
              obtain ⟨d0, d1, d2⟩ := (HSi.out.kept ((Below.refl wr.heap.size wr).alloc (Nat.le_refl _) (.cells #[.int .i64 (ax i), .int .i64 (ay i), .int .i64 (az i)] 32))) j hj
              obtain ⟨u1, u2, ub, uz⟩ := two_blk wr #[.int .i64 (ax i), .int .i64 (ay i), .int .i64 (az i)] #[.int .i64 (ax j), .int .i64 (ay j), .int .i64 (az j)] 32 32
              have U1 := Lib.hid u1
              have U2 := Lib.hid u2
              have HBj := Lib.hid (bnext HBi.out ub)
              have HSj := Lib.hid (HSi.out.kept ub)
              have H3 := HX i j hlt hj
              clear u1 u2 ub uz hje
              go_wp2_with fail
              clear c0 c1 c2 d0 d1 d2 e1 e2 e3 e4
              generalize (wr.alloc (.cells #[.int .i64 (ax i), .int .i64 (ay i), .int .i64 (az i)] 32)).alloc (.cells #[.int .i64 (ax j), .int .i64 (ay j), .int .i64 (az j)] 32) = wv at *
              obtain ⟨b1, hb1⟩ : ∃ b, wr.heap.size = b := ⟨_, rfl⟩
              rw [hb1] at U1 U2 ⊢
              obtain ⟨b2, hb2⟩ : ∃ b, b1 + 1 = b := ⟨_, rfl⟩
              rw [hb2] at U2 ⊢
              clear hb1 hb2 HBi HSi
              obtain ⟨wo, rfl⟩ : ∃ wo : World, wo = wv := ⟨_, rfl⟩
              go_loopw [16, 17] (fun sv kv wr => ∃ k : Nat, k ≤ 27 ∧ kv = .int .i64 k ∧ sv = .bool (upto k fun q => R i q && Q q j) ∧ Hid (Below w.heap.size w wr) ∧ Hid (Sts wr g) ∧ Hid (Blk wr b1 #[.int .i64 (ax i), .int .i64 (ay i), .int .i64 (az i)] 32) ∧ Hid (Blk wr b2 #[.int .i64 (ax j), .int .i64 (ay j), .int .i64 (az j)] 32)) (fun _ kv _ => 27 - (intOf kv).toNat)
              case atStart => exact ⟨0, by omega, rfl, rfl, HBj, HSj, U1, U2⟩
              case round =>
                clear HBj HSj U1 U2
                obtain ⟨k, hk, rfl, rfl, HBk, HSk, V1, V2⟩ := hrel
                by_cases hlt2 : k < 27
                · have H1 := HR i k hlt hlt2
                  have H2 := HQ k j hlt2 hj
                  have hup := upto_succ k (fun q => R i q && Q q j)
                  have hk0 : (0 : Int) ≤ (k : Int) := by omega
                  have hk1 : (k : Int) < 27 := by omega
                  obtain ⟨c0, c1, c2⟩ := HSk.out k hlt2
                  obtain ⟨p0, p1, p2⟩ := V1.out.c3
                  obtain ⟨s0, s1, s2⟩ := V2.out.c3
                  clear HR HQ HX H3
                  generalize upto k (fun q => R i q && Q q j) = y at *
                  try simp only at hup
                  generalize R i k = a at *
                  generalize Q k j = b at *
                  have hup := Lib.hid hup
                  go_wp2_with fail
                  cases y
                  · cases a
                    · have hbb := (Below.refl wr.heap.size wr).drew
                      have RG : ∀ w', Below wr.heap.size wr w' → (fun w' => Below wr.heap.size wr w' ∧ w'.cell? ⟨b1, 0, none⟩ = some (.int .i64 (ax i)) ∧ w'.cell? ⟨b1, 1, none⟩ = some (.int .i64 (ay i)) ∧ w'.cell? ⟨b1, 2, none⟩ = some (.int .i64 (az i)) ∧ w'.cell? ⟨b2, 0, none⟩ = some (.int .i64 (ax j)) ∧ w'.cell? ⟨b2, 1, none⟩ = some (.int .i64 (ay j)) ∧ w'.cell? ⟨b2, 2, none⟩ = some (.int .i64 (az j)) ∧ w'.cell? ⟨g, k * 3, none⟩ = some (.int .i64 (ax k)) ∧ w'.cell? ⟨g, k * 3 + 1, none⟩ = some (.int .i64 (ay k)) ∧ w'.cell? ⟨g, k * 3 + 2, none⟩ = some (.int .i64 (az k))) w' := fun w' h => ⟨h, ckeep h p0, ckeep h p1, ckeep h p2, ckeep h s0, ckeep h s1, ckeep h s2, ckeep h c0, ckeep h c1, ckeep h c2⟩
                      have RG' := Lib.hid RG
                      clear RG p0 p1 p2 s0 s1 s2 c0 c1 c2
                      refine wp_region_held_drew (S := fun w' => Below wr.heap.size wr w' ∧ w'.cell? ⟨b1, 0, none⟩ = some (.int .i64 (ax i)) ∧ w'.cell? ⟨b1, 1, none⟩ = some (.int .i64 (ay i)) ∧ w'.cell? ⟨b1, 2, none⟩ = some (.int .i64 (az i)) ∧ w'.cell? ⟨b2, 0, none⟩ = some (.int .i64 (ax j)) ∧ w'.cell? ⟨b2, 1, none⟩ = some (.int .i64 (ay j)) ∧ w'.cell? ⟨b2, 2, none⟩ = some (.int .i64 (az j)) ∧ w'.cell? ⟨g, k * 3, none⟩ = some (.int .i64 (ax k)) ∧ w'.cell? ⟨g, k * 3 + 1, none⟩ = some (.int .i64 (ay k)) ∧ w'.cell? ⟨g, k * 3 + 2, none⟩ = some (.int .i64 (az k))) (by kernel_rfl) (RG'.out _ hbb) (fun hHeld => ?_)
                      refine wpAnyH_take (i := 0) (oi := { dst := some 94, op := _, type := _, pos := _, after := _, guard := _ }) (v := ?_) rfl (by kernel_rfl) (by kernel_rfl) (by kernel_rfl) (fun _ _ _ h => h) (Or.inl ⟨by kernel_rfl, ?_⟩) hHeld ?_
                      rotate_left
                      · intro w hSw
                        (try dsimp only at hSw)
                        go_simp
                        first | done | with_reducible rfl
                      try simp only [Act.put, List.setIfInBounds_toArray, List.set_cons_zero, List.set_cons_succ]
                      refine wpAnyH_take (i := 1) (oi := { dst := some 95, op := _, type := _, pos := _, after := _, guard := _ }) (v := ?_) rfl (by kernel_rfl) (by kernel_rfl) (by kernel_rfl) (fun _ _ _ h => h) (Or.inl ⟨by kernel_rfl, ?_⟩) hHeld ?_
                      rotate_left
                      · intro w hSw
                        (try dsimp only at hSw)
                        go_simp
                        first | done | with_reducible rfl
                      try simp only [Act.put, List.setIfInBounds_toArray, List.set_cons_zero, List.set_cons_succ]
                      refine wpAnyH_take (i := 2) (oi := { dst := some 96, op := _, type := _, pos := _, after := _, guard := _ }) (v := ?_) rfl (by kernel_rfl) (by kernel_rfl) (by kernel_rfl) (fun _ _ _ h => h) (Or.inl ⟨by kernel_rfl, ?_⟩) hHeld ?_
                      rotate_left
                      · intro w hSw
                        (try dsimp only at hSw)
                        go_simp
                        first | done | with_reducible rfl
                      try simp only [Act.put, List.setIfInBounds_toArray, List.set_cons_zero, List.set_cons_succ]
                      refine wpAnyH_take (i := 3) (oi := { dst := some 97, op := _, type := _, pos := _, after := _, guard := _ }) (v := ?_) rfl (by kernel_rfl) (by kernel_rfl) (by kernel_rfl) (fun _ _ _ h => h) (Or.inl ⟨by kernel_rfl, ?_⟩) hHeld ?_
                      rotate_left
                      · intro w hSw
                        (try dsimp only at hSw)
                        go_simp
                        first | done | with_reducible rfl
                      try simp only [Act.put, List.setIfInBounds_toArray, List.set_cons_zero, List.set_cons_succ]
                      refine wpAnyH_take (i := 4) (oi := { dst := some 98, op := _, type := _, pos := _, after := _, guard := _ }) (v := ?_) rfl (by kernel_rfl) (by kernel_rfl) (by kernel_rfl) (fun _ _ _ h => h) (Or.inl ⟨by kernel_rfl, ?_⟩) hHeld ?_
                      rotate_left
                      · intro w hSw
                        (try dsimp only at hSw)
                        go_simp
                        first | done | with_reducible rfl
                      try simp only [Act.put, List.setIfInBounds_toArray, List.set_cons_zero, List.set_cons_succ]
                      refine wpAnyH_take (i := 5) (oi := { dst := some 99, op := _, type := _, pos := _, after := _, guard := _ }) (v := ?_) rfl (by kernel_rfl) (by kernel_rfl) (by kernel_rfl) (fun _ _ _ h => h) (Or.inl ⟨by kernel_rfl, ?_⟩) hHeld ?_
                      rotate_left
                      · intro w hSw
                        (try dsimp only at hSw)
                        go_simp
                        first | done | with_reducible rfl
                      try simp only [Act.put, List.setIfInBounds_toArray, List.set_cons_zero, List.set_cons_succ]
                      refine wpAnyH_ready (rs := [6]) (by kernel_rfl) (by simp) ?_
                      refine AllReadyH.cons (o := { dst := some 100, op := _, type := _, pos := _, after := _, guard := _ }) rfl (fun K hK => ?_) AllReadyH.nil
                      go_simp
                      refine hK.out _ _ hHeld (fun hHeld => ?_)
                      clear hK K
                      try simp only [Act.put, List.setIfInBounds_toArray, List.set_cons_zero, List.set_cons_succ]
                      refine wpAnyH_take (i := 7) (oi := { dst := some 101, op := _, type := _, pos := _, after := _, guard := _ }) (v := ?_) rfl (by kernel_rfl) (by kernel_rfl) (by kernel_rfl) (fun _ _ _ h => h) (Or.inl ⟨by kernel_rfl, ?_⟩) hHeld ?_
                      rotate_left
                      · intro w hSw
                        (try dsimp only at hSw)
                        go_simp
                        first | done | with_reducible rfl
                      try simp only [Act.put, List.setIfInBounds_toArray, List.set_cons_zero, List.set_cons_succ]
                      refine wpAnyH_ready (rs := [8]) (by kernel_rfl) (by simp) ?_
                      refine AllReadyH.cons rfl (fun K hK => ?_) AllReadyH.nil
                      go_simp
                      (with_reducible refine (H1 _).out.mono ?_)
                      rintro e w9 ⟨rfl, hq⟩
                      go_wp2_with fail
                      refine hK.out _ _ (RG'.out _ (bnext hHeld.1 hq)) (fun hHeld => ?_)
                      clear hK K
                      try simp only [Act.put, List.setIfInBounds_toArray, List.set_cons_zero, List.set_cons_succ]
                      refine wpAnyH_take (i := 9) (oi := { dst := some 103, op := _, type := _, pos := _, after := _, guard := _ }) (v := ?_) rfl (by kernel_rfl) (by kernel_rfl) (by kernel_rfl) (fun _ _ _ h => h) (Or.inl ⟨by kernel_rfl, ?_⟩) hHeld ?_
                      rotate_left
                      · intro w hSw
                        (try dsimp only at hSw)
                        go_simp
                        first | done | with_reducible rfl
                      try simp only [Act.put, List.setIfInBounds_toArray, List.set_cons_zero, List.set_cons_succ]
                      refine wpAnyH_take (i := 10) (oi := { dst := some 104, op := _, type := _, pos := _, after := _, guard := _ }) rfl (by kernel_rfl) (by kernel_rfl) (by kernel_rfl) (fun _ _ _ h => h) (Or.inr ⟨by kernel_rfl, rfl⟩) hHeld ?_
                      try simp only [Act.put, List.setIfInBounds_toArray, List.set_cons_zero, List.set_cons_succ]
                      refine wpAnyH_take (i := 11) (oi := { dst := some 105, op := _, type := _, pos := _, after := _, guard := _ }) rfl (by kernel_rfl) (by kernel_rfl) (by kernel_rfl) (fun _ _ _ h => h) (Or.inr ⟨by kernel_rfl, rfl⟩) hHeld ?_
                      try simp only [Act.put, List.setIfInBounds_toArray, List.set_cons_zero, List.set_cons_succ]
                      refine wpAnyH_take (i := 12) (oi := { dst := some 106, op := _, type := _, pos := _, after := _, guard := _ }) rfl (by kernel_rfl) (by kernel_rfl) (by kernel_rfl) (fun _ _ _ h => h) (Or.inr ⟨by kernel_rfl, rfl⟩) hHeld ?_
                      try simp only [Act.put, List.setIfInBounds_toArray, List.set_cons_zero, List.set_cons_succ]
                      refine wpAnyH_take (i := 15) (oi := { dst := some 109, op := _, type := _, pos := _, after := _, guard := _ }) rfl (by kernel_rfl) (by kernel_rfl) (by kernel_rfl) (fun _ _ _ h => h) (Or.inr ⟨by kernel_rfl, rfl⟩) hHeld ?_
                      try simp only [Act.put, List.setIfInBounds_toArray, List.set_cons_zero, List.set_cons_succ]
                      refine wpAnyH_ready (rs := [13]) (by kernel_rfl) (by simp) ?_
                      refine AllReadyH.cons (o := { dst := some 107, op := _, type := _, pos := _, after := _, guard := _ }) rfl (fun K hK => ?_) AllReadyH.nil
                      refine Eq.mpr (if_neg (Bool.eq_false_iff.mp (by kernel_rfl))) ?_
                      refine hK.out _ _ hHeld (fun hHeld => ?_)
                      clear hK K
                      try simp only [Act.put, List.setIfInBounds_toArray, List.set_cons_zero, List.set_cons_succ]
                      refine wpAnyH_take (i := 14) (oi := { dst := some 108, op := _, type := _, pos := _, after := _, guard := _ }) rfl (by kernel_rfl) (by kernel_rfl) (by kernel_rfl) (fun _ _ _ h => h) (Or.inr ⟨by kernel_rfl, rfl⟩) hHeld ?_
                      try simp only [Act.put, List.setIfInBounds_toArray, List.set_cons_zero, List.set_cons_succ]
                      refine wpAnyH_ready (rs := [16]) (by kernel_rfl) (by simp) ?_
                      refine AllReadyH.cons (o := { dst := some 110, op := _, type := _, pos := _, after := _, guard := _ }) rfl (fun K hK => ?_) AllReadyH.nil
                      refine Eq.mpr (if_neg (Bool.eq_false_iff.mp (by kernel_rfl))) ?_
                      refine hK.out _ _ hHeld (fun hHeld => ?_)
                      clear hK K
                      try simp only [Act.put, List.setIfInBounds_toArray, List.set_cons_zero, List.set_cons_succ]
                      refine wpAnyH_take (i := 17) (oi := { dst := some 111, op := _, type := _, pos := _, after := _, guard := _ }) (v := ?_) rfl (by kernel_rfl) (by kernel_rfl) (by kernel_rfl) (fun _ _ _ h => h) (Or.inl ⟨by kernel_rfl, ?_⟩) hHeld ?_
                      rotate_left
                      · intro w hSw
                        (try dsimp only at hSw)
                        go_simp
                        first | done | with_reducible rfl
                      try simp only [Act.put, List.setIfInBounds_toArray, List.set_cons_zero, List.set_cons_succ]
                      refine wpAnyH_take (i := 18) (oi := { dst := some 112, op := _, type := _, pos := _, after := _, guard := _ }) (v := ?_) rfl (by kernel_rfl) (by kernel_rfl) (by kernel_rfl) (fun _ _ _ h => h) (Or.inl ⟨by kernel_rfl, ?_⟩) hHeld ?_
                      rotate_left
                      · intro w hSw
                        (try dsimp only at hSw)
                        go_simp
                        first | done | with_reducible rfl
                      try simp only [Act.put, List.setIfInBounds_toArray, List.set_cons_zero, List.set_cons_succ]
                      refine wpAnyH_take (i := 19) (oi := { dst := some 16, op := _, type := _, pos := _, after := _, guard := _ }) (v := ?_) rfl (by kernel_rfl) (by kernel_rfl) (by kernel_rfl) (fun _ _ _ h => h) (Or.inl ⟨by kernel_rfl, ?_⟩) hHeld ?_
                      rotate_left
                      · intro w hSw
                        (try dsimp only at hSw)
                        go_simp
                        first | done | with_reducible rfl
                      try simp only [Act.put, List.setIfInBounds_toArray, List.set_cons_zero, List.set_cons_succ]
                      refine wpAnyH_done (by kernel_rfl) ?_ _
                      obtain ⟨hbw, _, _, _, _, _, _, _, _, _⟩ := hHeld
                      replace HBk := Lib.hid (bnext HBk.out hbw)
                      replace HSk := Lib.hid (HSk.out.kept hbw)
                      replace V1 := Lib.hid (V1.out.kept hbw)
                      replace V2 := Lib.hid (V2.out.kept hbw)
                      clear RG' hbb hbw
                      go_wp2_with fail
                      exact ⟨⟨k + 1, by omega, by go_num, (by rw [hup.out]; rfl), HBk, HSk, V1, V2⟩, by simp [intOf]; omega⟩
                    · cases b
                      all_goals
                        have hbb := (Below.refl wr.heap.size wr).drew
                        have RG : ∀ w', Below wr.heap.size wr w' → (fun w' => Below wr.heap.size wr w' ∧ w'.cell? ⟨b1, 0, none⟩ = some (.int .i64 (ax i)) ∧ w'.cell? ⟨b1, 1, none⟩ = some (.int .i64 (ay i)) ∧ w'.cell? ⟨b1, 2, none⟩ = some (.int .i64 (az i)) ∧ w'.cell? ⟨b2, 0, none⟩ = some (.int .i64 (ax j)) ∧ w'.cell? ⟨b2, 1, none⟩ = some (.int .i64 (ay j)) ∧ w'.cell? ⟨b2, 2, none⟩ = some (.int .i64 (az j)) ∧ w'.cell? ⟨g, k * 3, none⟩ = some (.int .i64 (ax k)) ∧ w'.cell? ⟨g, k * 3 + 1, none⟩ = some (.int .i64 (ay k)) ∧ w'.cell? ⟨g, k * 3 + 2, none⟩ = some (.int .i64 (az k))) w' := fun w' h => ⟨h, ckeep h p0, ckeep h p1, ckeep h p2, ckeep h s0, ckeep h s1, ckeep h s2, ckeep h c0, ckeep h c1, ckeep h c2⟩
                        have RG' := Lib.hid RG
                        clear RG p0 p1 p2 s0 s1 s2 c0 c1 c2
                        refine wp_region_held_drew (S := fun w' => Below wr.heap.size wr w' ∧ w'.cell? ⟨b1, 0, none⟩ = some (.int .i64 (ax i)) ∧ w'.cell? ⟨b1, 1, none⟩ = some (.int .i64 (ay i)) ∧ w'.cell? ⟨b1, 2, none⟩ = some (.int .i64 (az i)) ∧ w'.cell? ⟨b2, 0, none⟩ = some (.int .i64 (ax j)) ∧ w'.cell? ⟨b2, 1, none⟩ = some (.int .i64 (ay j)) ∧ w'.cell? ⟨b2, 2, none⟩ = some (.int .i64 (az j)) ∧ w'.cell? ⟨g, k * 3, none⟩ = some (.int .i64 (ax k)) ∧ w'.cell? ⟨g, k * 3 + 1, none⟩ = some (.int .i64 (ay k)) ∧ w'.cell? ⟨g, k * 3 + 2, none⟩ = some (.int .i64 (az k))) (by kernel_rfl) (RG'.out _ hbb) (fun hHeld => ?_)
                        refine wpAnyH_take (i := 0) (oi := { dst := some 94, op := _, type := _, pos := _, after := _, guard := _ }) (v := ?_) rfl (by kernel_rfl) (by kernel_rfl) (by kernel_rfl) (fun _ _ _ h => h) (Or.inl ⟨by kernel_rfl, ?_⟩) hHeld ?_
                        rotate_left
                        · intro w hSw
                          (try dsimp only at hSw)
                          go_simp
                          first | done | with_reducible rfl
                        try simp only [Act.put, List.setIfInBounds_toArray, List.set_cons_zero, List.set_cons_succ]
                        refine wpAnyH_take (i := 1) (oi := { dst := some 95, op := _, type := _, pos := _, after := _, guard := _ }) (v := ?_) rfl (by kernel_rfl) (by kernel_rfl) (by kernel_rfl) (fun _ _ _ h => h) (Or.inl ⟨by kernel_rfl, ?_⟩) hHeld ?_
                        rotate_left
                        · intro w hSw
                          (try dsimp only at hSw)
                          go_simp
                          first | done | with_reducible rfl
                        try simp only [Act.put, List.setIfInBounds_toArray, List.set_cons_zero, List.set_cons_succ]
                        refine wpAnyH_take (i := 2) (oi := { dst := some 96, op := _, type := _, pos := _, after := _, guard := _ }) (v := ?_) rfl (by kernel_rfl) (by kernel_rfl) (by kernel_rfl) (fun _ _ _ h => h) (Or.inl ⟨by kernel_rfl, ?_⟩) hHeld ?_
                        rotate_left
                        · intro w hSw
                          (try dsimp only at hSw)
                          go_simp
                          first | done | with_reducible rfl
                        try simp only [Act.put, List.setIfInBounds_toArray, List.set_cons_zero, List.set_cons_succ]
                        refine wpAnyH_take (i := 3) (oi := { dst := some 97, op := _, type := _, pos := _, after := _, guard := _ }) (v := ?_) rfl (by kernel_rfl) (by kernel_rfl) (by kernel_rfl) (fun _ _ _ h => h) (Or.inl ⟨by kernel_rfl, ?_⟩) hHeld ?_
                        rotate_left
                        · intro w hSw
                          (try dsimp only at hSw)
                          go_simp
                          first | done | with_reducible rfl
                        try simp only [Act.put, List.setIfInBounds_toArray, List.set_cons_zero, List.set_cons_succ]
                        refine wpAnyH_take (i := 4) (oi := { dst := some 98, op := _, type := _, pos := _, after := _, guard := _ }) (v := ?_) rfl (by kernel_rfl) (by kernel_rfl) (by kernel_rfl) (fun _ _ _ h => h) (Or.inl ⟨by kernel_rfl, ?_⟩) hHeld ?_
                        rotate_left
                        · intro w hSw
                          (try dsimp only at hSw)
                          go_simp
                          first | done | with_reducible rfl
                        try simp only [Act.put, List.setIfInBounds_toArray, List.set_cons_zero, List.set_cons_succ]
                        refine wpAnyH_take (i := 5) (oi := { dst := some 99, op := _, type := _, pos := _, after := _, guard := _ }) (v := ?_) rfl (by kernel_rfl) (by kernel_rfl) (by kernel_rfl) (fun _ _ _ h => h) (Or.inl ⟨by kernel_rfl, ?_⟩) hHeld ?_
                        rotate_left
                        · intro w hSw
                          (try dsimp only at hSw)
                          go_simp
                          first | done | with_reducible rfl
                        try simp only [Act.put, List.setIfInBounds_toArray, List.set_cons_zero, List.set_cons_succ]
                        refine wpAnyH_ready (rs := [6]) (by kernel_rfl) (by simp) ?_
                        refine AllReadyH.cons (o := { dst := some 100, op := _, type := _, pos := _, after := _, guard := _ }) rfl (fun K hK => ?_) AllReadyH.nil
                        go_simp
                        refine hK.out _ _ hHeld (fun hHeld => ?_)
                        clear hK K
                        try simp only [Act.put, List.setIfInBounds_toArray, List.set_cons_zero, List.set_cons_succ]
                        refine wpAnyH_take (i := 7) (oi := { dst := some 101, op := _, type := _, pos := _, after := _, guard := _ }) (v := ?_) rfl (by kernel_rfl) (by kernel_rfl) (by kernel_rfl) (fun _ _ _ h => h) (Or.inl ⟨by kernel_rfl, ?_⟩) hHeld ?_
                        rotate_left
                        · intro w hSw
                          (try dsimp only at hSw)
                          go_simp
                          first | done | with_reducible rfl
                        try simp only [Act.put, List.setIfInBounds_toArray, List.set_cons_zero, List.set_cons_succ]
                        refine wpAnyH_ready (rs := [8]) (by kernel_rfl) (by simp) ?_
                        refine AllReadyH.cons rfl (fun K hK => ?_) AllReadyH.nil
                        go_simp
                        (with_reducible refine (H1 _).out.mono ?_)
                        rintro e w9 ⟨rfl, hq⟩
                        go_wp2_with fail
                        refine hK.out _ _ (RG'.out _ (bnext hHeld.1 hq)) (fun hHeld => ?_)
                        clear hK K
                        try simp only [Act.put, List.setIfInBounds_toArray, List.set_cons_zero, List.set_cons_succ]
                        refine wpAnyH_take (i := 9) (oi := { dst := some 103, op := _, type := _, pos := _, after := _, guard := _ }) (v := ?_) rfl (by kernel_rfl) (by kernel_rfl) (by kernel_rfl) (fun _ _ _ h => h) (Or.inl ⟨by kernel_rfl, ?_⟩) hHeld ?_
                        rotate_left
                        · intro w hSw
                          (try dsimp only at hSw)
                          go_simp
                          first | done | with_reducible rfl
                        try simp only [Act.put, List.setIfInBounds_toArray, List.set_cons_zero, List.set_cons_succ]
                        refine wpAnyH_take (i := 10) (oi := { dst := some 104, op := _, type := _, pos := _, after := _, guard := _ }) (v := ?_) rfl (by kernel_rfl) (by kernel_rfl) (by kernel_rfl) (fun _ _ _ h => h) (Or.inl ⟨by kernel_rfl, ?_⟩) hHeld ?_
                        rotate_left
                        · intro w hSw
                          (try dsimp only at hSw)
                          go_simp
                          first | done | with_reducible rfl
                        try simp only [Act.put, List.setIfInBounds_toArray, List.set_cons_zero, List.set_cons_succ]
                        refine wpAnyH_take (i := 11) (oi := { dst := some 105, op := _, type := _, pos := _, after := _, guard := _ }) (v := ?_) rfl (by kernel_rfl) (by kernel_rfl) (by kernel_rfl) (fun _ _ _ h => h) (Or.inl ⟨by kernel_rfl, ?_⟩) hHeld ?_
                        rotate_left
                        · intro w hSw
                          (try dsimp only at hSw)
                          go_simp
                          first | done | with_reducible rfl
                        try simp only [Act.put, List.setIfInBounds_toArray, List.set_cons_zero, List.set_cons_succ]
                        refine wpAnyH_take (i := 12) (oi := { dst := some 106, op := _, type := _, pos := _, after := _, guard := _ }) (v := ?_) rfl (by kernel_rfl) (by kernel_rfl) (by kernel_rfl) (fun _ _ _ h => h) (Or.inl ⟨by kernel_rfl, ?_⟩) hHeld ?_
                        rotate_left
                        · intro w hSw
                          (try dsimp only at hSw)
                          go_simp
                          first | done | with_reducible rfl
                        try simp only [Act.put, List.setIfInBounds_toArray, List.set_cons_zero, List.set_cons_succ]
                        refine wpAnyH_take (i := 15) (oi := { dst := some 109, op := _, type := _, pos := _, after := _, guard := _ }) (v := ?_) rfl (by kernel_rfl) (by kernel_rfl) (by kernel_rfl) (fun _ _ _ h => h) (Or.inl ⟨by kernel_rfl, ?_⟩) hHeld ?_
                        rotate_left
                        · intro w hSw
                          (try dsimp only at hSw)
                          go_simp
                          first | done | with_reducible rfl
                        try simp only [Act.put, List.setIfInBounds_toArray, List.set_cons_zero, List.set_cons_succ]
                        refine wpAnyH_ready (rs := [13]) (by kernel_rfl) (by simp) ?_
                        refine AllReadyH.cons (o := { dst := some 107, op := _, type := _, pos := _, after := _, guard := _ }) rfl (fun K hK => ?_) AllReadyH.nil
                        go_simp
                        refine hK.out _ _ hHeld (fun hHeld => ?_)
                        clear hK K
                        try simp only [Act.put, List.setIfInBounds_toArray, List.set_cons_zero, List.set_cons_succ]
                        refine wpAnyH_take (i := 14) (oi := { dst := some 108, op := _, type := _, pos := _, after := _, guard := _ }) (v := ?_) rfl (by kernel_rfl) (by kernel_rfl) (by kernel_rfl) (fun _ _ _ h => h) (Or.inl ⟨by kernel_rfl, ?_⟩) hHeld ?_
                        rotate_left
                        · intro w hSw
                          (try dsimp only at hSw)
                          go_simp
                          first | done | with_reducible rfl
                        try simp only [Act.put, List.setIfInBounds_toArray, List.set_cons_zero, List.set_cons_succ]
                        refine wpAnyH_ready (rs := [16]) (by kernel_rfl) (by simp) ?_
                        refine AllReadyH.cons rfl (fun K hK => ?_) AllReadyH.nil
                        go_simp
                        (with_reducible refine (H2 _).out.mono ?_)
                        rintro e w9 ⟨rfl, hq⟩
                        go_wp2_with fail
                        refine hK.out _ _ (RG'.out _ (bnext hHeld.1 hq)) (fun hHeld => ?_)
                        clear hK K
                        try simp only [Act.put, List.setIfInBounds_toArray, List.set_cons_zero, List.set_cons_succ]
                        refine wpAnyH_take (i := 17) (oi := { dst := some 111, op := _, type := _, pos := _, after := _, guard := _ }) (v := ?_) rfl (by kernel_rfl) (by kernel_rfl) (by kernel_rfl) (fun _ _ _ h => h) (Or.inl ⟨by kernel_rfl, ?_⟩) hHeld ?_
                        rotate_left
                        · intro w hSw
                          (try dsimp only at hSw)
                          go_simp
                          first | done | with_reducible rfl
                        try simp only [Act.put, List.setIfInBounds_toArray, List.set_cons_zero, List.set_cons_succ]
                        refine wpAnyH_take (i := 18) (oi := { dst := some 112, op := _, type := _, pos := _, after := _, guard := _ }) (v := ?_) rfl (by kernel_rfl) (by kernel_rfl) (by kernel_rfl) (fun _ _ _ h => h) (Or.inl ⟨by kernel_rfl, ?_⟩) hHeld ?_
                        rotate_left
                        · intro w hSw
                          (try dsimp only at hSw)
                          go_simp
                          first | done | with_reducible rfl
                        try simp only [Act.put, List.setIfInBounds_toArray, List.set_cons_zero, List.set_cons_succ]
                        refine wpAnyH_take (i := 19) (oi := { dst := some 16, op := _, type := _, pos := _, after := _, guard := _ }) (v := ?_) rfl (by kernel_rfl) (by kernel_rfl) (by kernel_rfl) (fun _ _ _ h => h) (Or.inl ⟨by kernel_rfl, ?_⟩) hHeld ?_
                        rotate_left
                        · intro w hSw
                          (try dsimp only at hSw)
                          go_simp
                          first | done | with_reducible rfl
                        try simp only [Act.put, List.setIfInBounds_toArray, List.set_cons_zero, List.set_cons_succ]
                        refine wpAnyH_done (by kernel_rfl) ?_ _
                        obtain ⟨hbw, _, _, _, _, _, _, _, _, _⟩ := hHeld
                        replace HBk := Lib.hid (bnext HBk.out hbw)
                        replace HSk := Lib.hid (HSk.out.kept hbw)
                        replace V1 := Lib.hid (V1.out.kept hbw)
                        replace V2 := Lib.hid (V2.out.kept hbw)
                        clear RG' hbb hbw
                        go_wp2_with fail
                        exact ⟨⟨k + 1, by omega, by go_num, (by rw [hup.out]; rfl), HBk, HSk, V1, V2⟩, by simp [intOf]; omega⟩
                  · have hbb := (Below.refl wr.heap.size wr).drew
                    have RG : ∀ w', Below wr.heap.size wr w' → (fun w' => Below wr.heap.size wr w' ∧ w'.cell? ⟨b1, 0, none⟩ = some (.int .i64 (ax i)) ∧ w'.cell? ⟨b1, 1, none⟩ = some (.int .i64 (ay i)) ∧ w'.cell? ⟨b1, 2, none⟩ = some (.int .i64 (az i)) ∧ w'.cell? ⟨b2, 0, none⟩ = some (.int .i64 (ax j)) ∧ w'.cell? ⟨b2, 1, none⟩ = some (.int .i64 (ay j)) ∧ w'.cell? ⟨b2, 2, none⟩ = some (.int .i64 (az j)) ∧ w'.cell? ⟨g, k * 3, none⟩ = some (.int .i64 (ax k)) ∧ w'.cell? ⟨g, k * 3 + 1, none⟩ = some (.int .i64 (ay k)) ∧ w'.cell? ⟨g, k * 3 + 2, none⟩ = some (.int .i64 (az k))) w' := fun w' h => ⟨h, ckeep h p0, ckeep h p1, ckeep h p2, ckeep h s0, ckeep h s1, ckeep h s2, ckeep h c0, ckeep h c1, ckeep h c2⟩
                    have RG' := Lib.hid RG
                    clear RG p0 p1 p2 s0 s1 s2 c0 c1 c2
                    refine wp_region_held_drew (S := fun w' => Below wr.heap.size wr w' ∧ w'.cell? ⟨b1, 0, none⟩ = some (.int .i64 (ax i)) ∧ w'.cell? ⟨b1, 1, none⟩ = some (.int .i64 (ay i)) ∧ w'.cell? ⟨b1, 2, none⟩ = some (.int .i64 (az i)) ∧ w'.cell? ⟨b2, 0, none⟩ = some (.int .i64 (ax j)) ∧ w'.cell? ⟨b2, 1, none⟩ = some (.int .i64 (ay j)) ∧ w'.cell? ⟨b2, 2, none⟩ = some (.int .i64 (az j)) ∧ w'.cell? ⟨g, k * 3, none⟩ = some (.int .i64 (ax k)) ∧ w'.cell? ⟨g, k * 3 + 1, none⟩ = some (.int .i64 (ay k)) ∧ w'.cell? ⟨g, k * 3 + 2, none⟩ = some (.int .i64 (az k))) (by kernel_rfl) (RG'.out _ hbb) (fun hHeld => ?_)
                    refine wpAnyH_take (i := 0) (oi := { dst := some 94, op := _, type := _, pos := _, after := _, guard := _ }) (v := ?_) rfl (by kernel_rfl) (by kernel_rfl) (by kernel_rfl) (fun _ _ _ h => h) (Or.inl ⟨by kernel_rfl, ?_⟩) hHeld ?_
                    rotate_left
                    · intro w hSw
                      (try dsimp only at hSw)
                      go_simp
                      first | done | with_reducible rfl
                    try simp only [Act.put, List.setIfInBounds_toArray, List.set_cons_zero, List.set_cons_succ]
                    refine wpAnyH_take (i := 1) (oi := { dst := some 95, op := _, type := _, pos := _, after := _, guard := _ }) (v := ?_) rfl (by kernel_rfl) (by kernel_rfl) (by kernel_rfl) (fun _ _ _ h => h) (Or.inl ⟨by kernel_rfl, ?_⟩) hHeld ?_
                    rotate_left
                    · intro w hSw
                      (try dsimp only at hSw)
                      go_simp
                      first | done | with_reducible rfl
                    try simp only [Act.put, List.setIfInBounds_toArray, List.set_cons_zero, List.set_cons_succ]
                    refine wpAnyH_take (i := 2) (oi := { dst := some 96, op := _, type := _, pos := _, after := _, guard := _ }) rfl (by kernel_rfl) (by kernel_rfl) (by kernel_rfl) (fun _ _ _ h => h) (Or.inr ⟨by kernel_rfl, rfl⟩) hHeld ?_
                    try simp only [Act.put, List.setIfInBounds_toArray, List.set_cons_zero, List.set_cons_succ]
                    refine wpAnyH_take (i := 3) (oi := { dst := some 97, op := _, type := _, pos := _, after := _, guard := _ }) rfl (by kernel_rfl) (by kernel_rfl) (by kernel_rfl) (fun _ _ _ h => h) (Or.inr ⟨by kernel_rfl, rfl⟩) hHeld ?_
                    try simp only [Act.put, List.setIfInBounds_toArray, List.set_cons_zero, List.set_cons_succ]
                    refine wpAnyH_take (i := 4) (oi := { dst := some 98, op := _, type := _, pos := _, after := _, guard := _ }) rfl (by kernel_rfl) (by kernel_rfl) (by kernel_rfl) (fun _ _ _ h => h) (Or.inr ⟨by kernel_rfl, rfl⟩) hHeld ?_
                    try simp only [Act.put, List.setIfInBounds_toArray, List.set_cons_zero, List.set_cons_succ]
                    refine wpAnyH_take (i := 5) (oi := { dst := some 99, op := _, type := _, pos := _, after := _, guard := _ }) rfl (by kernel_rfl) (by kernel_rfl) (by kernel_rfl) (fun _ _ _ h => h) (Or.inr ⟨by kernel_rfl, rfl⟩) hHeld ?_
                    try simp only [Act.put, List.setIfInBounds_toArray, List.set_cons_zero, List.set_cons_succ]
                    refine wpAnyH_ready (rs := [6]) (by kernel_rfl) (by simp) ?_
                    refine AllReadyH.cons (o := { dst := some 100, op := _, type := _, pos := _, after := _, guard := _ }) rfl (fun K hK => ?_) AllReadyH.nil
                    refine Eq.mpr (if_neg (Bool.eq_false_iff.mp (by kernel_rfl))) ?_
                    refine hK.out _ _ hHeld (fun hHeld => ?_)
                    clear hK K
                    try simp only [Act.put, List.setIfInBounds_toArray, List.set_cons_zero, List.set_cons_succ]
                    refine wpAnyH_take (i := 7) (oi := { dst := some 101, op := _, type := _, pos := _, after := _, guard := _ }) rfl (by kernel_rfl) (by kernel_rfl) (by kernel_rfl) (fun _ _ _ h => h) (Or.inr ⟨by kernel_rfl, rfl⟩) hHeld ?_
                    try simp only [Act.put, List.setIfInBounds_toArray, List.set_cons_zero, List.set_cons_succ]
                    refine wpAnyH_ready (rs := [8]) (by kernel_rfl) (by simp) ?_
                    refine AllReadyH.cons (o := { dst := some 102, op := _, type := _, pos := _, after := _, guard := _ }) rfl (fun K hK => ?_) AllReadyH.nil
                    refine Eq.mpr (if_neg (Bool.eq_false_iff.mp (by kernel_rfl))) ?_
                    refine hK.out _ _ hHeld (fun hHeld => ?_)
                    clear hK K
                    try simp only [Act.put, List.setIfInBounds_toArray, List.set_cons_zero, List.set_cons_succ]
                    refine wpAnyH_take (i := 9) (oi := { dst := some 103, op := _, type := _, pos := _, after := _, guard := _ }) rfl (by kernel_rfl) (by kernel_rfl) (by kernel_rfl) (fun _ _ _ h => h) (Or.inr ⟨by kernel_rfl, rfl⟩) hHeld ?_
                    try simp only [Act.put, List.setIfInBounds_toArray, List.set_cons_zero, List.set_cons_succ]
                    refine wpAnyH_take (i := 10) (oi := { dst := some 104, op := _, type := _, pos := _, after := _, guard := _ }) rfl (by kernel_rfl) (by kernel_rfl) (by kernel_rfl) (fun _ _ _ h => h) (Or.inr ⟨by kernel_rfl, rfl⟩) hHeld ?_
                    try simp only [Act.put, List.setIfInBounds_toArray, List.set_cons_zero, List.set_cons_succ]
                    refine wpAnyH_take (i := 11) (oi := { dst := some 105, op := _, type := _, pos := _, after := _, guard := _ }) rfl (by kernel_rfl) (by kernel_rfl) (by kernel_rfl) (fun _ _ _ h => h) (Or.inr ⟨by kernel_rfl, rfl⟩) hHeld ?_
                    try simp only [Act.put, List.setIfInBounds_toArray, List.set_cons_zero, List.set_cons_succ]
                    refine wpAnyH_take (i := 12) (oi := { dst := some 106, op := _, type := _, pos := _, after := _, guard := _ }) rfl (by kernel_rfl) (by kernel_rfl) (by kernel_rfl) (fun _ _ _ h => h) (Or.inr ⟨by kernel_rfl, rfl⟩) hHeld ?_
                    try simp only [Act.put, List.setIfInBounds_toArray, List.set_cons_zero, List.set_cons_succ]
                    refine wpAnyH_take (i := 15) (oi := { dst := some 109, op := _, type := _, pos := _, after := _, guard := _ }) rfl (by kernel_rfl) (by kernel_rfl) (by kernel_rfl) (fun _ _ _ h => h) (Or.inr ⟨by kernel_rfl, rfl⟩) hHeld ?_
                    try simp only [Act.put, List.setIfInBounds_toArray, List.set_cons_zero, List.set_cons_succ]
                    refine wpAnyH_ready (rs := [13]) (by kernel_rfl) (by simp) ?_
                    refine AllReadyH.cons (o := { dst := some 107, op := _, type := _, pos := _, after := _, guard := _ }) rfl (fun K hK => ?_) AllReadyH.nil
                    refine Eq.mpr (if_neg (Bool.eq_false_iff.mp (by kernel_rfl))) ?_
                    refine hK.out _ _ hHeld (fun hHeld => ?_)
                    clear hK K
                    try simp only [Act.put, List.setIfInBounds_toArray, List.set_cons_zero, List.set_cons_succ]
                    refine wpAnyH_take (i := 14) (oi := { dst := some 108, op := _, type := _, pos := _, after := _, guard := _ }) rfl (by kernel_rfl) (by kernel_rfl) (by kernel_rfl) (fun _ _ _ h => h) (Or.inr ⟨by kernel_rfl, rfl⟩) hHeld ?_
                    try simp only [Act.put, List.setIfInBounds_toArray, List.set_cons_zero, List.set_cons_succ]
                    refine wpAnyH_ready (rs := [16]) (by kernel_rfl) (by simp) ?_
                    refine AllReadyH.cons (o := { dst := some 110, op := _, type := _, pos := _, after := _, guard := _ }) rfl (fun K hK => ?_) AllReadyH.nil
                    refine Eq.mpr (if_neg (Bool.eq_false_iff.mp (by kernel_rfl))) ?_
                    refine hK.out _ _ hHeld (fun hHeld => ?_)
                    clear hK K
                    try simp only [Act.put, List.setIfInBounds_toArray, List.set_cons_zero, List.set_cons_succ]
                    refine wpAnyH_take (i := 17) (oi := { dst := some 111, op := _, type := _, pos := _, after := _, guard := _ }) rfl (by kernel_rfl) (by kernel_rfl) (by kernel_rfl) (fun _ _ _ h => h) (Or.inr ⟨by kernel_rfl, rfl⟩) hHeld ?_
                    try simp only [Act.put, List.setIfInBounds_toArray, List.set_cons_zero, List.set_cons_succ]
                    refine wpAnyH_take (i := 18) (oi := { dst := some 112, op := _, type := _, pos := _, after := _, guard := _ }) (v := ?_) rfl (by kernel_rfl) (by kernel_rfl) (by kernel_rfl) (fun _ _ _ h => h) (Or.inl ⟨by kernel_rfl, ?_⟩) hHeld ?_
                    rotate_left
                    · intro w hSw
                      (try dsimp only at hSw)
                      go_simp
                      first | done | with_reducible rfl
                    try simp only [Act.put, List.setIfInBounds_toArray, List.set_cons_zero, List.set_cons_succ]
                    refine wpAnyH_take (i := 19) (oi := { dst := some 16, op := _, type := _, pos := _, after := _, guard := _ }) (v := ?_) rfl (by kernel_rfl) (by kernel_rfl) (by kernel_rfl) (fun _ _ _ h => h) (Or.inl ⟨by kernel_rfl, ?_⟩) hHeld ?_
                    rotate_left
                    · intro w hSw
                      (try dsimp only at hSw)
                      go_simp
                      first | done | with_reducible rfl
                    try simp only [Act.put, List.setIfInBounds_toArray, List.set_cons_zero, List.set_cons_succ]
                    refine wpAnyH_done (by kernel_rfl) ?_ _
                    obtain ⟨hbw, _, _, _, _, _, _, _, _, _⟩ := hHeld
                    replace HBk := Lib.hid (bnext HBk.out hbw)
                    replace HSk := Lib.hid (HSk.out.kept hbw)
                    replace V1 := Lib.hid (V1.out.kept hbw)
                    replace V2 := Lib.hid (V2.out.kept hbw)
                    clear RG' hbb hbw
                    go_wp2_with fail
                    exact ⟨⟨k + 1, by omega, by go_num, (by rw [hup.out]; rfl), HBk, HSk, V1, V2⟩, by simp [intOf]; omega⟩
                · have hk2 : k = 27 := by omega
                  subst hk2
                  have HE : upto 27 (fun q => R i q && Q q j) = compR R Q i j := rfl
                  rw [HE]
                  generalize compR R Q i j = z at *
                  obtain ⟨p0, p1, p2⟩ := V1.out.c3
                  obtain ⟨s0, s1, s2⟩ := V2.out.c3
                  clear HE HR HQ HX
                  cases z
                  all_goals
                    go_wp2_with fail
                    refine (H3 _).out.mono ?_
                    rintro e w8 ⟨rfl, hb⟩
                    have HBn := Lib.hid (bnext HBk.out hb)
                    have HSn := Lib.hid (HSk.out.kept hb)
                    clear hb p0 p1 p2 s0 s1 s2
                    go_wp2_with fail
                    exact ⟨⟨i + 1, by omega, by go_num, HBn, HSn⟩, by simp [intOf]; omega⟩
            · have hi2 : i = 27 := by omega
              subst hi2
              clear HSi HR HQ HX
              have HB0 := HBi
              go_wp2_with fail
              refine (P1 _).out.mono ?_
              rintro e w1 ⟨rfl, hb⟩
              have HB1 := Lib.hid (bnext HB0.out hb)
              clear hb
              go_wp2_with fail
              refine (P2 _).out.mono ?_
              rintro e w2 ⟨rfl, hb⟩
              have HB2 := Lib.hid (bnext HB1.out hb)
              clear hb
              go_wp2_with fail
              refine (P3 _).out.mono ?_
              rintro e w3 ⟨rfl, hb⟩
              have HB3 := Lib.hid (bnext HB2.out hb)
              clear hb
              go_wp2_with fail
              refine (P4 _).out.mono ?_
              rintro e w4 ⟨rfl, hb⟩
              have HB4 := Lib.hid (bnext HB3.out hb)
              clear hb
              go_wp2_with fail
              refine (P5 _).out.mono ?_
              rintro e w5 ⟨rfl, hb⟩
              have HB5 := Lib.hid (bnext HB4.out hb)
              clear hb
              go_wp2_with fail
              refine (P6 _).out.mono ?_
              rintro e w6 ⟨rfl, hb⟩
              have HB6 := Lib.hid (bnext HB5.out hb)
              clear hb
              go_wp2_with fail
              refine (P7 _).out.mono ?_
              rintro e w7 ⟨rfl, hb⟩
              have HB7 := Lib.hid (bnext HB6.out hb)
              clear hb
              go_wp2_with fail
              go_ret
              exact ⟨rfl, HB7.out⟩
        · have V := fun w => Lib.hid (implRelValid_no u hg w)
          unfold BoolIs at V
          clear hg hu
          generalize bs (relT (compR R Q)) = X1 at *
          generalize bs (relT R) = X2 at *
          generalize bs (relT Q) = X3 at *
          go_wp2_with fail
          refine (V _).out.mono ?_
          rintro e w5 ⟨rfl, hb⟩
          have HB5 := Lib.hid (bnext HB4.out hb)
          clear hb
          go_wp2_with fail
          go_ret
          exact ⟨rfl, HB5.out⟩
      · have C1 := fun w => Lib.hid (implComposeRel_no s t hv w)
        have C2 := fun w => Lib.hid (specComposeRel_no s t hv (Nat.le_trans s1 (by decide)) (Nat.le_trans t1 (by decide)) w)
        unfold TextOk at C1 C2
        clear hv s1 t1
        go_wp2_with fail
        refine (C1 _).out.mono ?_
        rintro e w2 ⟨rfl, hb⟩
        have HB2 := Lib.hid (bnext HB1.out hb)
        clear hb
        go_wp2_with fail
        refine (C2 _).out.mono ?_
        rintro e w3 ⟨rfl, hb⟩
        have HB3 := Lib.hid (bnext HB2.out hb)
        clear hb
        have DM := Lib.hid (dNotRel (HR1.out.kept6 HB3.out))
        clear HR1
        go_wp2_with fail
        refine DM.out.mono ?_
        rintro e w4 ⟨u, hu, rfl, hb⟩
        have HB4 := Lib.hid (bnext HB3.out hb)
        clear hb DM
        clear hu
        go_wp2_with fail
        go_ret
        exact ⟨rfl, HB4.out⟩

set_option linter.unusedVariables false in
set_option maxRecDepth 100000 in
theorem liftedCompose (os : Os) (started : os.Started) (H : Type) (enc : TypeId × Value → H) :
    ReturnsInHanded {} Try.checked os 3 .any (Rows.fnComposeSpec.pre6 enc Try.prog Try.f3 Rows.fnComposeRow.domain false) (Rows.fnComposeSpec.post enc Try.prog Try.f3 false true false false) := by
  refine returnsInHanded_of_change (C := Try.checked) Try.own started (by kernel_rfl) Try.func3
    (ChangeSpec.witness6 (enc := enc) (C := Try.checked) false ⟨#[], #[.slice none 0 0, .slice none 0 0], []⟩ 8 (by kernel_rfl) (by kernel_rfl) (by kernel_rfl) (by kernel_rfl)) ?_
  intro W base args ds gs before hval0 hW hcnd _
  have hval : ∀ (j : Nat) t v, Try.f3.params[j]? = some t → args[j]? = some v → Value.okWide Try.prog W .any base t v := hval0
  have hW' := hW
  obtain ⟨p, q, hA0, hV, rfl, hfz, hnd⟩ := hW
  have hA : DataW.TrodAll enc Try.prog W 0 (fun _ => true) true Try.f3.params.toList args.toList ds p := hA0
  rw [Try.params3] at hA hval
  obtain ⟨v0, vs0, d0, ds0, p0, q0, hargs, rfl, rfl, h0, r0⟩ := trodAll_cons hA
  obtain ⟨v1, vs1, d1, ds1, p1, q1, rfl, rfl, rfl, h1, r1⟩ := trodAll_cons r0
  obtain ⟨rfl, rfl, rfl⟩ := trodAll_nil r1
  obtain rfl : args = #[v0, v1] := by cases args; simp_all
  obtain ⟨rfl, rfl⟩ := trodVars_none hV
  obtain ⟨a0, len0, cap0, rfl⟩ := okWide_slice Try.underlying22 (hval 0 22 v0 rfl rfl)
  have k0 := h0
  have lt0 : ∀ x ∈ p0, x.block < W.heap.size := by obtain ⟨m, hm⟩ := k0; exact DataW.trod_lt m _ _ _ hm
  obtain ⟨z0, w0⟩ : ∃ zs, IsRow W a0 len0 cap0 zs := by
    obtain ⟨fuel, hf⟩ := h0
    rcases open_ints Try.underlying22 Try.underlying5 (by kernel_rfl) hf with ⟨hcs, _⟩ | ⟨x, l, c, zs, hcs, _, hl, hm, hz, _, hcell, hwz⟩
    · simp [Value.cells] at hcs
      obtain ⟨rfl, rfl, rfl⟩ := hcs
      exact ⟨[], .inl ⟨rfl, rfl, rfl, rfl⟩⟩
    · simp [Value.cells] at hcs
      obtain ⟨rfl, rfl, rfl⟩ := hcs
      exact ⟨zs, .inr ⟨_, rfl, hl, hm, by simpa using hz, hcell, hwz⟩⟩
  obtain ⟨a1, len1, cap1, rfl⟩ := okWide_slice Try.underlying22 (hval 1 22 v1 rfl rfl)
  have k1 := h1
  have lt1 : ∀ x ∈ p1, x.block < W.heap.size := by obtain ⟨m, hm⟩ := k1; exact DataW.trod_lt m _ _ _ hm
  obtain ⟨z1, w1⟩ : ∃ zs, IsRow W a1 len1 cap1 zs := by
    obtain ⟨fuel, hf⟩ := h1
    rcases open_ints Try.underlying22 Try.underlying5 (by kernel_rfl) hf with ⟨hcs, _⟩ | ⟨x, l, c, zs, hcs, _, hl, hm, hz, _, hcell, hwz⟩
    · simp [Value.cells] at hcs
      obtain ⟨rfl, rfl, rfl⟩ := hcs
      exact ⟨[], .inl ⟨rfl, rfl, rfl, rfl⟩⟩
    · simp [Value.cells] at hcs
      obtain ⟨rfl, rfl, rfl⟩ := hcs
      exact ⟨zs, .inr ⟨_, rfl, hl, hm, by simpa using hz, hcell, hwz⟩⟩
  clear hA0 hval0
  refine (walkCompose W w0 w1).mono fun e W' ⟨he, bel⟩ => ?_
  subst he
  exact ⟨_, rfl, _, _, _, [], _, [], hW', trodAll_mk1 (shut_bool Try.underlying4 _), (trodAll_cons_mk (Below.trod laidOut (by kernel_rfl) (of_decide_eq_true (by kernel_rfl)) k0 bel lt0) (trodAll_cons_mk (Below.trod laidOut (by kernel_rfl) (of_decide_eq_true (by kernel_rfl)) k1 bel lt1) trodAll_mk0)), rfl, bel.frame _, fun h => by cases h⟩

theorem compose_holds : Rows.FnComposeSaid :=
  OpenClaim.holds_of_wide 3 Try.f3 rfl rfl rfl rfl rfl rfl rfl ⟨rfl, rfl, rfl, rfl, rfl⟩ rfl rfl rfl rfl rfl (by kernel_rfl) Try.func3 (by kernel_rfl)
    (of_decide_eq_true (by kernel_rfl)) (by unfold Func.isWrapper; first | (rw [if_pos (by decide +kernel)]; kernel_rfl) | (rw [if_neg (by decide +kernel)]; exact ⟨rfl, rfl⟩))
    (fun os started H enc _ => liftedCompose os started H enc)

#print axioms compose_holds
end Go.Proofs.Ytheclmdpiijakaa
