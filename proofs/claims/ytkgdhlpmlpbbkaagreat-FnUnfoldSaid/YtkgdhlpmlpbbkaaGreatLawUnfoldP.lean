/-
  The law of a loop unfolded once is true at all bytes: no condition.
-/
import Derived.Test.YtkgdhlpmlpbbkaaGreatRows
import Derived.Test.YtkgdhlpmlpbbkaaGreatTopE
import Derived.Deep.RegionHeld3
import Derived.Test.YtkgdhlpmlpbbkaaGreatTopC
import Derived.ProofKit
import Derived.OpenShut
import Derived.ShutString
import Derived.ChangeOld
namespace Go.Proofs.YtkgdhlpmlpbbkaaGreat
open Go.ChangeShapes Go.WideShapes Go.ChangeAt Go.RowKit
open Go.ChangeMaps (open_string shut_string)

theorem Tryz.own : ownKnob Tryz.prog.godebug = none := by kernel_rfl
theorem laidOut : laidOutB Tryz.prog = true := by kernel_rfl

theorem at_ser4 {s b : ByteArray} {t : Tm} {p : Pg} (hs : s.data.toList = t.ser) (he : b.data.toList = p.ser) : ((⟨#[64]⟩ : ByteArray) ++ s ++ b).data.toList = (Pg.whl t p).ser := by
  rw [ByteArray.data_append, ByteArray.data_append, Array.toList_append, Array.toList_append, hs, he]
  rfl
theorem at_size4 (s b : ByteArray) : ((⟨#[64]⟩ : ByteArray) ++ s ++ b).size = 1 + s.size + b.size := by
  rw [ByteArray.size_append, ByteArray.size_append]; rfl

set_option maxRecDepth 100000 in
set_option maxHeartbeats 16000000 in
theorem walkUnfold {a0 : Option Addr} {len0 cap0 : Nat} {z0 : List Int} (w : World) (h0 : IsRow w a0 len0 cap0 z0) :
    Calls Tryz.prog 4 #[.slice a0 len0 cap0] w fun e w' => e = .returned (.bool true) ∧ Below w.heap.size w w' := by
  have D := Lib.hid (dHeadSt h0)
  clear h0
  by_cases hl : (1048576 : Int) < len0
  · go_enter Tryz.func4, Tryz.ntmps4
    go_wp2_with fail
    go_ret
    exact ⟨rfl, Below.refl _ _⟩
  · go_enter Tryz.func4, Tryz.ntmps4
    go_wp2_with fail
    refine D.out.mono ?_
    rintro e w1 ⟨t, b, x, y, z, t1, b1, rfl, hb⟩
    have HB1 := Lib.hid hb
    clear hb D
    have HB1 := Lib.hid (bput HB1.out (.cells #[.int .i64 x, .int .i64 y, .int .i64 z] 33))
    have HS1 := Lib.hid (Blk.new w1 #[.int .i64 x, .int .i64 y, .int .i64 z] 33)
    by_cases hv : (IsT t ∧ IsP b) ∧ st3 x y z = true
    · obtain ⟨⟨⟨⟨tm, htm, hts⟩, htl⟩, ⟨⟨p, hp, he⟩, hl⟩⟩, hst⟩ := hv
      obtain ⟨hi, hix⟩ := ixh_lt hst
      obtain ⟨H, Z, S, N, C, P, hH, hS, hN, hC, hP, e1, e2, e3, e4, e5, e6, e7, e8, e9⟩ := unf_facts tm hp hi
      have C1 := fun w => Lib.hid (implHead_yes t b htm hts htl hp he hl x y z hst w)
      have C2 := fun w => Lib.hid (specHead_yes t b htm hts htl hp he hl x y z hst w)
      unfold TextPost at C1 C2
      rw [e1] at C1 C2
      have ewt : IntKind.i64.wrap (2 * (t.size : Int)) = 2 * (t.size : Int) := IntWalk.i64_in _ (by omega)
      have ewb : IntKind.i64.wrap (2 * (b.size : Int)) = 2 * (b.size : Int) := IntWalk.i64_in _ (by omega)
      have ew : IntKind.i64.wrap (2 * (t.size : Int) + 2 * (b.size : Int)) = ((2 * t.size + 2 * b.size : Nat) : Int) := (IntWalk.i64_in _ (by omega)).trans (by omega)
      have n1 : ¬ 9223372036854775807 < 1 + t.size := by omega
      have n2 : ¬ 9223372036854775807 < 1 + t.size + b.size := by omega
      have n3 : ¬ 9223372036854775807 < 1 + t.size + 1 := by omega
      have n4 : ¬ 9223372036854775807 < 1 + t.size + 1 + b.size := by omega
      have n5 : ¬ 9223372036854775807 < 1 + t.size + 1 + b.size + (1 + t.size + b.size) := by omega
      have n6 : ¬ 9223372036854775807 < 1 + t.size + 1 + b.size + (1 + t.size + b.size) + 1 := by omega
      by_cases hn : 2 * t.size + 2 * b.size ≤ 190
      · have g1 : ¬ (190 : Int) < ((2 * t.size + 2 * b.size : Nat) : Int) := by omega
        have CA := fun w => Lib.hid (implRunsFrom_yes (⟨#[64]⟩ ++ t ++ b) (whl_ok htm hp) (at_ser4 hts he) (by rw [at_size4]; omega) x y z hst w)
        have CB := fun w => Lib.hid (implRunsFrom_yes (⟨#[63]⟩ ++ t ++ ⟨#[59]⟩ ++ b ++ (⟨#[64]⟩ ++ t ++ b) ++ ⟨#[115]⟩) (p := unf tm p) ⟨htm, ⟨hp, whl_ok htm hp⟩, trivial⟩ (unf_ser hts he) (by rw [unf_size]; omega) x y z hst w)
        unfold RunPost at CA CB
        rw [unf_rT, unf_rL, unf_rK] at CB
        rw [e2] at CA CB
        have PS := fun w => Lib.hid (ppSet_of t _ true (fun w => Lib.hid (implPredOf_yes t w htm hts htl)) w)
        have CN := fun w => Lib.hid (implNotP_yes S w hS)
        have CAn := fun w => Lib.hid (implAnd_yes H N w hH hN)
        have CC := fun w => Lib.hid (implAnd_yes H S w hH hS)
        have CP := fun w => Lib.hid (implPostOf_yes b C hp he hl hC w)
        have CH := fun w => Lib.hid (implHasS_yes H x y z w hH hst)
        have CW := fun w => Lib.hid ((implPWithin_yes P H w hP hH).mono (R' := fun e w' => e = .returned (.bool (wi 27 (hs P.data.toList) (hs H.data.toList))) ∧ Below w.heap.size w w') fun _ _ ⟨h1, h2⟩ => ⟨h1, h2 ▸ Below.refl _ _⟩)
        unfold TextPost at CP
        rw [show ixn x y z = ixh x y z from rfl, e9] at CH
        rw [e3] at PS
        rw [e4] at CN
        rw [e5] at CAn
        rw [e6] at CC
        rw [e7] at CP
        rw [e8] at CW
        have PN := fun w => Lib.hid (ppNot_of S N true CN w)
        have PA := fun w => Lib.hid (ppAnd_of H N Z true CAn w)
        have PC := fun w => Lib.hid (ppAnd_of H S C true CC w)
        have PP := fun w => Lib.hid (ppPost_of b C P true CP w)
        clear htm hts htl hp he hl hst hi hix hH hS hN hC hP e1 e2 e3 e4 e5 e6 e7 e8 e9 CN CAn CC CP t1 b1
        generalize rL (.whl tm p) (ixh x y z) = lo at *
        generalize rK (.whl tm p) (ixh x y z) = bl at *
        obtain ⟨s0, s1, s2⟩ := HS1.out.c3
        go_wp2_with fail
        refine (C1 _).out.mono ?_
        rintro e w2 ⟨rfl, hb⟩
        have HB2 := Lib.hid (bnext HB1.out hb)
        have HS2 := Lib.hid (HS1.out.kept hb)
        clear hb s0 s1 s2
        obtain ⟨s0, s1, s2⟩ := HS2.out.c3
        go_wp2_with fail
        refine (C2 _).out.mono ?_
        rintro e w3 ⟨rfl, hb⟩
        have HB3 := Lib.hid (bnext HB2.out hb)
        have HS3 := Lib.hid (HS2.out.kept hb)
        clear hb s0 s1 s2
        obtain ⟨s0, s1, s2⟩ := HS3.out.c3
        go_wp2_with fail
        refine (CA _).out.mono ?_
        rintro e w4 ⟨rfl, hb⟩
        have HB4 := Lib.hid (bnext HB3.out hb)
        have HS4 := Lib.hid (HS3.out.kept hb)
        clear hb s0 s1 s2
        have MA := Lib.hid (Blk.new w4 #[.string Z, .bool lo, .bool bl] 29)
        have hax := (Below.refl w4.heap.size w4).alloc (Nat.le_refl _) (.cells #[.string Z, .bool lo, .bool bl] 29)
        have HB4 := Lib.hid (bnext HB4.out hax)
        have HS4 := Lib.hid (HS4.out.kept hax)
        clear hax
        obtain ⟨s0, s1, s2⟩ := HS4.out.c3
        go_wp2_with fail
        refine (CB _).out.mono ?_
        rintro e w5 ⟨rfl, hb⟩
        have HB5 := Lib.hid (bnext HB4.out hb)
        have HS5 := Lib.hid (HS4.out.kept hb)
        have MA := Lib.hid (MA.out.kept hb)
        clear hb s0 s1 s2
        have MB := Lib.hid (Blk.new w5 #[.string Z, .bool lo, .bool bl] 29)
        have hax := (Below.refl w5.heap.size w5).alloc (Nat.le_refl _) (.cells #[.string Z, .bool lo, .bool bl] 29)
        have HB6 := Lib.hid (bnext HB5.out hax)
        have HS6 := Lib.hid (HS5.out.kept hax)
        have MA := Lib.hid (MA.out.kept hax)
        clear hax
        go_wp2_with fail
        obtain ⟨s0, s1, s2⟩ := HS6.out.c3
        obtain ⟨a0, a1, a2⟩ := MA.out.c3
        obtain ⟨b0, b1', b2⟩ := MB.out.c3
        generalize w5.alloc (.cells #[.string Z, .bool lo, .bool bl] 29) = wx at *
        obtain ⟨gs, hgs⟩ : ∃ g, w1.heap.size = g := ⟨_, rfl⟩
        obtain ⟨ga, hga⟩ : ∃ g, w4.heap.size = g := ⟨_, rfl⟩
        obtain ⟨gb, hgb⟩ : ∃ g, w5.heap.size = g := ⟨_, rfl⟩
        rw [hgs] at s0 s1 s2 ⊢
        rw [hga] at a0 a1 a2 ⊢
        rw [hgb] at b0 b1' b2 ⊢
        clear hgs hga hgb HS1 HS2 HS3 HS4 HS5 HS6 MA MB HB1 HB2 HB3 HB4 HB5 C1 C2 CA CB
        have hbb := (Below.refl wx.heap.size wx).drew
        have RG : ∀ w', Below wx.heap.size wx w' → (fun w' => Below wx.heap.size wx w' ∧ w'.cell? ⟨ga, 0, none⟩ = some (.string Z) ∧ w'.cell? ⟨ga, 1, none⟩ = some (.bool lo) ∧ w'.cell? ⟨ga, 2, none⟩ = some (.bool bl) ∧ w'.cell? ⟨gb, 0, none⟩ = some (.string Z) ∧ w'.cell? ⟨gb, 1, none⟩ = some (.bool lo) ∧ w'.cell? ⟨gb, 2, none⟩ = some (.bool bl) ∧ w'.cell? ⟨gs, 0, none⟩ = some (.int .i64 x) ∧ w'.cell? ⟨gs, 1, none⟩ = some (.int .i64 y) ∧ w'.cell? ⟨gs, 2, none⟩ = some (.int .i64 z)) w' := fun w' h => ⟨h, ckeep h a0, ckeep h a1, ckeep h a2, ckeep h b0, ckeep h b1', ckeep h b2, ckeep h s0, ckeep h s1, ckeep h s2⟩
        have RG' := Lib.hid RG
        clear RG a0 a1 a2 b0 b1' b2 s0 s1 s2
        refine wp_region_held_drew (S := fun w' => Below wx.heap.size wx w' ∧ w'.cell? ⟨ga, 0, none⟩ = some (.string Z) ∧ w'.cell? ⟨ga, 1, none⟩ = some (.bool lo) ∧ w'.cell? ⟨ga, 2, none⟩ = some (.bool bl) ∧ w'.cell? ⟨gb, 0, none⟩ = some (.string Z) ∧ w'.cell? ⟨gb, 1, none⟩ = some (.bool lo) ∧ w'.cell? ⟨gb, 2, none⟩ = some (.bool bl) ∧ w'.cell? ⟨gs, 0, none⟩ = some (.int .i64 x) ∧ w'.cell? ⟨gs, 1, none⟩ = some (.int .i64 y) ∧ w'.cell? ⟨gs, 2, none⟩ = some (.int .i64 z)) (by kernel_rfl) (RG'.out _ hbb) (fun hHeld => ?_)
        refine wpAnyH_take (i := 0) (oi := { dst := some 91, op := _, type := _, pos := _, after := _, guard := _ }) (v := ?_) rfl (by kernel_rfl) (by kernel_rfl) (by kernel_rfl) (fun _ _ _ h => h) (Or.inl ⟨by kernel_rfl, ?_⟩) hHeld ?_
        rotate_left
        · intro w hSw
          (try dsimp only at hSw)
          go_simp
          first | done | with_reducible rfl
        simp only [Act.put]
        refine wpAnyH_take (i := 1) (oi := { dst := some 92, op := _, type := _, pos := _, after := _, guard := _ }) (v := ?_) rfl (by kernel_rfl) (by kernel_rfl) (by kernel_rfl) (fun _ _ _ h => h) (Or.inl ⟨by kernel_rfl, ?_⟩) hHeld ?_
        rotate_left
        · intro w hSw
          (try dsimp only at hSw)
          go_simp
          first | done | with_reducible rfl
        simp only [Act.put]
        refine wpAnyH_take (i := 2) (oi := { dst := some 93, op := _, type := _, pos := _, after := _, guard := _ }) (v := ?_) rfl (by kernel_rfl) (by kernel_rfl) (by kernel_rfl) (fun _ _ _ h => h) (Or.inl ⟨by kernel_rfl, ?_⟩) hHeld ?_
        rotate_left
        · intro w hSw
          (try dsimp only at hSw)
          go_simp
          first | done | with_reducible rfl
        simp only [Act.put]
        refine wpAnyH_take (i := 3) (oi := { dst := some 94, op := _, type := _, pos := _, after := _, guard := _ }) (v := ?_) rfl (by kernel_rfl) (by kernel_rfl) (by kernel_rfl) (fun _ _ _ h => h) (Or.inl ⟨by kernel_rfl, ?_⟩) hHeld ?_
        rotate_left
        · intro w hSw
          (try dsimp only at hSw)
          go_simp
          first | done | with_reducible rfl
        simp only [Act.put]
        refine wpAnyH_take (i := 4) (oi := { dst := some 95, op := _, type := _, pos := _, after := _, guard := _ }) (v := ?_) rfl (by kernel_rfl) (by kernel_rfl) (by kernel_rfl) (fun _ _ _ h => h) (Or.inl ⟨by kernel_rfl, ?_⟩) hHeld ?_
        rotate_left
        · intro w hSw
          (try dsimp only at hSw)
          go_simp
          first | done | with_reducible rfl
        simp only [Act.put]
        refine wpAnyH_take (i := 5) (oi := { dst := some 96, op := _, type := _, pos := _, after := _, guard := _ }) (v := ?_) rfl (by kernel_rfl) (by kernel_rfl) (by kernel_rfl) (fun _ _ _ h => h) (Or.inl ⟨by kernel_rfl, ?_⟩) hHeld ?_
        rotate_left
        · intro w hSw
          (try dsimp only at hSw)
          go_simp
          first | done | with_reducible rfl
        simp only [Act.put]
        refine wpAnyH_take (i := 6) (oi := { dst := some 97, op := _, type := _, pos := _, after := _, guard := _ }) (v := ?_) rfl (by kernel_rfl) (by kernel_rfl) (by kernel_rfl) (fun _ _ _ h => h) (Or.inl ⟨by kernel_rfl, ?_⟩) hHeld ?_
        rotate_left
        · intro w hSw
          (try dsimp only at hSw)
          go_simp
          first | done | with_reducible rfl
        simp only [Act.put]
        refine wpAnyH_take (i := 7) (oi := { dst := some 98, op := _, type := _, pos := _, after := _, guard := _ }) (v := ?_) rfl (by kernel_rfl) (by kernel_rfl) (by kernel_rfl) (fun _ _ _ h => h) (Or.inl ⟨by kernel_rfl, ?_⟩) hHeld ?_
        rotate_left
        · intro w hSw
          (try dsimp only at hSw)
          go_simp
          first | done | with_reducible rfl
        simp only [Act.put]
        refine wpAnyH_take (i := 8) (oi := { dst := some 99, op := _, type := _, pos := _, after := _, guard := _ }) (v := ?_) rfl (by kernel_rfl) (by kernel_rfl) (by kernel_rfl) (fun _ _ _ h => h) (Or.inl ⟨by kernel_rfl, ?_⟩) hHeld ?_
        rotate_left
        · intro w hSw
          (try dsimp only at hSw)
          go_simp
          first | done | with_reducible rfl
        simp only [Act.put]
        refine wpAnyH_take (i := 9) (oi := { dst := some 100, op := _, type := _, pos := _, after := _, guard := _ }) (v := ?_) rfl (by kernel_rfl) (by kernel_rfl) (by kernel_rfl) (fun _ _ _ h => h) (Or.inl ⟨by kernel_rfl, ?_⟩) hHeld ?_
        rotate_left
        · intro w hSw
          (try dsimp only at hSw)
          go_simp
          first | done | with_reducible rfl
        simp only [Act.put]
        refine wpAnyH_take (i := 10) (oi := { dst := some 101, op := _, type := _, pos := _, after := _, guard := _ }) (v := ?_) rfl (by kernel_rfl) (by kernel_rfl) (by kernel_rfl) (fun _ _ _ h => h) (Or.inl ⟨by kernel_rfl, ?_⟩) hHeld ?_
        rotate_left
        · intro w hSw
          (try dsimp only at hSw)
          go_simp
          first | done | with_reducible rfl
        simp only [Act.put]
        refine wpAnyH_take (i := 11) (oi := { dst := some 102, op := _, type := _, pos := _, after := _, guard := _ }) (v := ?_) rfl (by kernel_rfl) (by kernel_rfl) (by kernel_rfl) (fun _ _ _ h => h) (Or.inl ⟨by kernel_rfl, ?_⟩) hHeld ?_
        rotate_left
        · intro w hSw
          (try dsimp only at hSw)
          go_simp
          first | done | with_reducible rfl
        simp only [Act.put]
        refine wpAnyH_take (i := 12) (oi := { dst := some 103, op := _, type := _, pos := _, after := _, guard := _ }) (v := ?_) rfl (by kernel_rfl) (by kernel_rfl) (by kernel_rfl) (fun _ _ _ h => h) (Or.inl ⟨by kernel_rfl, ?_⟩) hHeld ?_
        rotate_left
        · intro w hSw
          (try dsimp only at hSw)
          go_simp
          first | done | with_reducible rfl
        simp only [Act.put]
        refine wpAnyH_take (i := 13) (oi := { dst := some 104, op := _, type := _, pos := _, after := _, guard := _ }) (v := ?_) rfl (by kernel_rfl) (by kernel_rfl) (by kernel_rfl) (fun _ _ _ h => h) (Or.inl ⟨by kernel_rfl, ?_⟩) hHeld ?_
        rotate_left
        · intro w hSw
          (try dsimp only at hSw)
          go_simp
          first | done | with_reducible rfl
        simp only [Act.put]
        refine wpAnyH_ready (rs := [14]) (by kernel_rfl) (by simp) ?_
        refine AllReadyH.cons rfl (fun K hK => ?_) AllReadyH.nil
        go_simp
        (with_reducible refine (PS _).out.mono ?_)
        rintro e w9 ⟨rfl, hq⟩
        go_wp2_with fail
        refine hK.out _ _ (RG'.out _ (bnext hHeld.1 hq)) (fun hHeld => ?_)
        clear hK K
        try simp only [Act.put]
        refine wpAnyH_ready (rs := [15]) (by kernel_rfl) (by simp) ?_
        refine AllReadyH.cons rfl (fun K hK => ?_) AllReadyH.nil
        go_simp
        (with_reducible refine (PN _).out.mono ?_)
        rintro e w9 ⟨rfl, hq⟩
        go_wp2_with fail
        refine hK.out _ _ (RG'.out _ (bnext hHeld.1 hq)) (fun hHeld => ?_)
        clear hK K
        try simp only [Act.put]
        refine wpAnyH_ready (rs := [16]) (by kernel_rfl) (by simp) ?_
        refine AllReadyH.cons rfl (fun K hK => ?_) AllReadyH.nil
        go_simp
        (with_reducible refine (PA _).out.mono ?_)
        rintro e w9 ⟨rfl, hq⟩
        go_wp2_with fail
        refine hK.out _ _ (RG'.out _ (bnext hHeld.1 hq)) (fun hHeld => ?_)
        clear hK K
        try simp only [Act.put]
        refine wpAnyH_take (i := 17) (oi := { dst := some 108, op := _, type := _, pos := _, after := _, guard := _ }) (v := ?_) rfl (by kernel_rfl) (by kernel_rfl) (by kernel_rfl) (fun _ _ _ h => h) (Or.inl ⟨by kernel_rfl, ?_⟩) hHeld ?_
        rotate_left
        · intro w hSw
          (try dsimp only at hSw)
          go_simp
          first | done | with_reducible rfl
        simp only [Act.put]
        refine wpAnyH_take (i := 18) (oi := { dst := some 109, op := _, type := _, pos := _, after := _, guard := _ }) (v := ?_) rfl (by kernel_rfl) (by kernel_rfl) (by kernel_rfl) (fun _ _ _ h => h) (Or.inl ⟨by kernel_rfl, ?_⟩) hHeld ?_
        rotate_left
        · intro w hSw
          (try dsimp only at hSw)
          go_simp
          first | done | with_reducible rfl
        simp only [Act.put]
        refine wpAnyH_take (i := 19) (oi := { dst := some 110, op := _, type := _, pos := _, after := _, guard := _ }) (v := ?_) rfl (by kernel_rfl) (by kernel_rfl) (by kernel_rfl) (fun _ _ _ h => h) (Or.inl ⟨by kernel_rfl, ?_⟩) hHeld ?_
        rotate_left
        · intro w hSw
          (try dsimp only at hSw)
          go_simp
          first | done | with_reducible rfl
        simp only [Act.put]
        refine wpAnyH_take (i := 20) (oi := { dst := some 111, op := _, type := _, pos := _, after := _, guard := _ }) (v := ?_) rfl (by kernel_rfl) (by kernel_rfl) (by kernel_rfl) (fun _ _ _ h => h) (Or.inl ⟨by kernel_rfl, ?_⟩) hHeld ?_
        rotate_left
        · intro w hSw
          (try dsimp only at hSw)
          go_simp
          first | done | with_reducible rfl
        simp only [Act.put]
        refine wpAnyH_take (i := 21) (oi := { dst := some 112, op := _, type := _, pos := _, after := _, guard := _ }) (v := ?_) rfl (by kernel_rfl) (by kernel_rfl) (by kernel_rfl) (fun _ _ _ h => h) (Or.inl ⟨by kernel_rfl, ?_⟩) hHeld ?_
        rotate_left
        · intro w hSw
          (try dsimp only at hSw)
          go_simp
          first | done | with_reducible rfl
        simp only [Act.put]
        refine wpAnyH_ready (rs := [22]) (by kernel_rfl) (by simp) ?_
        refine AllReadyH.cons rfl (fun K hK => ?_) AllReadyH.nil
        go_simp
        (with_reducible refine (CH _).out.mono ?_)
        rintro e w9 ⟨rfl, hq⟩
        go_wp2_with fail
        refine hK.out _ _ (RG'.out _ (bnext hHeld.1 hq)) (fun hHeld => ?_)
        clear hK K
        try simp only [Act.put]
        refine wpAnyH_take (i := 23) (oi := { dst := some 114, op := _, type := _, pos := _, after := _, guard := _ }) (v := ?_) rfl (by kernel_rfl) (by kernel_rfl) (by kernel_rfl) (fun _ _ _ h => h) (Or.inl ⟨by kernel_rfl, ?_⟩) hHeld ?_
        rotate_left
        · intro w hSw
          (try dsimp only at hSw)
          go_simp
          first | done | with_reducible rfl
        simp only [Act.put]
        refine wpAnyH_take (i := 24) (oi := { dst := some 115, op := _, type := _, pos := _, after := _, guard := _ }) (v := ?_) rfl (by kernel_rfl) (by kernel_rfl) (by kernel_rfl) (fun _ _ _ h => h) (Or.inl ⟨by kernel_rfl, ?_⟩) hHeld ?_
        rotate_left
        · intro w hSw
          (try dsimp only at hSw)
          go_simp
          first | done | with_reducible rfl
        simp only [Act.put]
        refine wpAnyH_take (i := 25) (oi := { dst := some 116, op := _, type := _, pos := _, after := _, guard := _ }) (v := ?_) rfl (by kernel_rfl) (by kernel_rfl) (by kernel_rfl) (fun _ _ _ h => h) (Or.inl ⟨by kernel_rfl, ?_⟩) hHeld ?_
        rotate_left
        · intro w hSw
          (try dsimp only at hSw)
          go_simp
          first | done | with_reducible rfl
        simp only [Act.put]
        refine wpAnyH_take (i := 26) (oi := { dst := some 117, op := _, type := _, pos := _, after := _, guard := _ }) (v := ?_) rfl (by kernel_rfl) (by kernel_rfl) (by kernel_rfl) (fun _ _ _ h => h) (Or.inl ⟨by kernel_rfl, ?_⟩) hHeld ?_
        rotate_left
        · intro w hSw
          (try dsimp only at hSw)
          go_simp
          first | done | with_reducible rfl
        simp only [Act.put]
        refine wpAnyH_take (i := 27) (oi := { dst := some 118, op := _, type := _, pos := _, after := _, guard := _ }) (v := ?_) rfl (by kernel_rfl) (by kernel_rfl) (by kernel_rfl) (fun _ _ _ h => h) (Or.inl ⟨by kernel_rfl, ?_⟩) hHeld ?_
        rotate_left
        · intro w hSw
          (try dsimp only at hSw)
          go_simp
          first | done | with_reducible rfl
        simp only [Act.put]
        refine wpAnyH_take (i := 31) (oi := { dst := some 122, op := _, type := _, pos := _, after := _, guard := _ }) (v := ?_) rfl (by kernel_rfl) (by kernel_rfl) (by kernel_rfl) (fun _ _ _ h => h) (Or.inl ⟨by kernel_rfl, ?_⟩) hHeld ?_
        rotate_left
        · intro w hSw
          (try dsimp only at hSw)
          go_simp
          first | done | with_reducible rfl
        simp only [Act.put]
        refine wpAnyH_ready (rs := [28]) (by kernel_rfl) (by simp) ?_
        refine AllReadyH.cons rfl (fun K hK => ?_) AllReadyH.nil
        go_simp
        (with_reducible refine (PS _).out.mono ?_)
        rintro e w9 ⟨rfl, hq⟩
        go_wp2_with fail
        refine hK.out _ _ (RG'.out _ (bnext hHeld.1 hq)) (fun hHeld => ?_)
        clear hK K
        try simp only [Act.put]
        refine wpAnyH_ready (rs := [29]) (by kernel_rfl) (by simp) ?_
        refine AllReadyH.cons rfl (fun K hK => ?_) AllReadyH.nil
        go_simp
        (with_reducible refine (PC _).out.mono ?_)
        rintro e w9 ⟨rfl, hq⟩
        go_wp2_with fail
        refine hK.out _ _ (RG'.out _ (bnext hHeld.1 hq)) (fun hHeld => ?_)
        clear hK K
        try simp only [Act.put]
        refine wpAnyH_ready (rs := [30]) (by kernel_rfl) (by simp) ?_
        refine AllReadyH.cons rfl (fun K hK => ?_) AllReadyH.nil
        go_simp
        (with_reducible refine (PP _).out.mono ?_)
        rintro e w9 ⟨rfl, hq⟩
        go_wp2_with fail
        refine hK.out _ _ (RG'.out _ (bnext hHeld.1 hq)) (fun hHeld => ?_)
        clear hK K
        try simp only [Act.put]
        refine wpAnyH_ready (rs := [32]) (by kernel_rfl) (by simp) ?_
        refine AllReadyH.cons rfl (fun K hK => ?_) AllReadyH.nil
        go_simp
        (with_reducible refine (CW _).out.mono ?_)
        rintro e w9 ⟨rfl, hq⟩
        go_wp2_with fail
        refine hK.out _ _ (RG'.out _ (bnext hHeld.1 hq)) (fun hHeld => ?_)
        clear hK K
        try simp only [Act.put]
        refine wpAnyH_take (i := 33) (oi := { dst := some 124, op := _, type := _, pos := _, after := _, guard := _ }) (v := ?_) rfl (by kernel_rfl) (by kernel_rfl) (by kernel_rfl) (fun _ _ _ h => h) (Or.inl ⟨by kernel_rfl, ?_⟩) hHeld ?_
        rotate_left
        · intro w hSw
          (try dsimp only at hSw)
          go_simp
          first | done | with_reducible rfl
        simp only [Act.put]
        refine wpAnyH_take (i := 34) (oi := { dst := some 2, op := .assign (.tmp 124), type := _, pos := _, after := _, guard := none }) (v := ?_) rfl (by kernel_rfl) (by kernel_rfl) (by kernel_rfl) (fun _ _ _ h => h) (Or.inl ⟨by kernel_rfl, ?_⟩) hHeld ?_
        rotate_left
        · intro w hSw
          (try dsimp only at hSw)
          go_simp
          first | done | with_reducible rfl
        simp only [Act.put]
        refine wpAnyH_done (by kernel_rfl) ?_ _
        have HF := Lib.hid (bnext HB6.out hHeld.1)
        clear hHeld RG' hbb
        try simp only [List.setIfInBounds_toArray, List.set_cons_zero, List.set_cons_succ]
        go_wp2_with fail
        go_ret
        exact ⟨rfl, HF.out⟩
      · have g1 : (190 : Int) < ((2 * t.size + 2 * b.size : Nat) : Int) := by omega
        clear htm hts htl hp he hl hst hi hix hH hS hN hC hP e1 e2 e3 e4 e5 e6 e7 e8 e9 t1 b1
        obtain ⟨s0, s1, s2⟩ := HS1.out.c3
        go_wp2_with fail
        refine (C1 _).out.mono ?_
        rintro e w2 ⟨rfl, hb⟩
        have HB2 := Lib.hid (bnext HB1.out hb)
        have HS2 := Lib.hid (HS1.out.kept hb)
        clear hb s0 s1 s2
        obtain ⟨s0, s1, s2⟩ := HS2.out.c3
        go_wp2_with fail
        refine (C2 _).out.mono ?_
        rintro e w3 ⟨rfl, hb⟩
        have HB3 := Lib.hid (bnext HB2.out hb)
        have HS3 := Lib.hid (HS2.out.kept hb)
        clear hb s0 s1 s2
        obtain ⟨s0, s1, s2⟩ := HS3.out.c3
        go_wp2_with fail
        go_ret
        exact ⟨rfl, HB3.out⟩
    · have C1 := fun w => Lib.hid (implHead_no t b x y z hv w)
      have C2 := fun w => Lib.hid (specHead_no t b x y z hv w)
      unfold NoPost at C1 C2
      clear hv t1 b1
      obtain ⟨s0, s1, s2⟩ := HS1.out.c3
      go_wp2_with fail
      refine (C1 _).out.mono ?_
      rintro e w2 ⟨rfl, hb⟩
      have HB2 := Lib.hid (bnext HB1.out hb)
      have HS2 := Lib.hid (HS1.out.kept hb)
      clear hb s0 s1 s2
      obtain ⟨s0, s1, s2⟩ := HS2.out.c3
      go_wp2_with fail
      refine (C2 _).out.mono ?_
      rintro e w3 ⟨rfl, hb⟩
      have HB3 := Lib.hid (bnext HB2.out hb)
      have HS3 := Lib.hid (HS2.out.kept hb)
      clear hb s0 s1 s2
      obtain ⟨s0, s1, s2⟩ := HS3.out.c3
      go_wp2_with fail
      go_ret
      exact ⟨rfl, HB3.out⟩

set_option linter.unusedVariables false in
set_option maxRecDepth 100000 in
theorem liftedUnfold (os : Os) (started : os.Started) (H : Type) (enc : TypeId × Value → H) :
    ReturnsInHanded {} Tryz.checked os 4 .any (Rows.fnUnfoldSpec.pre6 enc Tryz.prog Tryz.f4 Rows.fnUnfoldRow.domain false) (Rows.fnUnfoldSpec.post enc Tryz.prog Tryz.f4 false true false false) := by
  refine returnsInHanded_of_change (C := Tryz.checked) Tryz.own started (by kernel_rfl) Tryz.func4
    (ChangeSpec.witness6 (enc := enc) (C := Tryz.checked) false ⟨#[], #[.slice none 0 0], []⟩ 8 (by kernel_rfl) (by kernel_rfl) (by kernel_rfl) (by kernel_rfl)) ?_
  intro W base args ds gs before hval0 hW hcnd _
  have hval : ∀ (j : Nat) t v, Tryz.f4.params[j]? = some t → args[j]? = some v → Value.okWide Tryz.prog W .any base t v := hval0
  have hW' := hW
  obtain ⟨p, q, hA0, hV, rfl, hfz, hnd⟩ := hW
  have hA : DataW.TrodAll enc Tryz.prog W 0 (fun _ => true) true Tryz.f4.params.toList args.toList ds p := hA0
  rw [Tryz.params4] at hA hval
  obtain ⟨v0, vs0, d0, ds0, p0, q0, hargs, rfl, rfl, h0, r0⟩ := trodAll_cons hA
  obtain ⟨rfl, rfl, rfl⟩ := trodAll_nil r0
  obtain rfl : args = #[v0] := by cases args; simp_all
  obtain ⟨rfl, rfl⟩ := trodVars_none hV
  obtain ⟨a0, len0, cap0, rfl⟩ := okWide_slice Tryz.underlying22 (hval 0 22 v0 rfl rfl)
  have k0 := h0
  have lt0 : ∀ x ∈ p0, x.block < W.heap.size := by obtain ⟨m, hm⟩ := k0; exact DataW.trod_lt m _ _ _ hm
  obtain ⟨z0, w0⟩ : ∃ zs, IsRow W a0 len0 cap0 zs := by
    obtain ⟨fuel, hf⟩ := h0
    rcases open_ints Tryz.underlying22 Tryz.underlying5 (by kernel_rfl) hf with ⟨hcs, _⟩ | ⟨x, l, c, zs, hcs, _, hl, hm, hz, _, hcell, hwz⟩
    · simp [Value.cells] at hcs
      obtain ⟨rfl, rfl, rfl⟩ := hcs
      exact ⟨[], .inl ⟨rfl, rfl, rfl, rfl⟩⟩
    · simp [Value.cells] at hcs
      obtain ⟨rfl, rfl, rfl⟩ := hcs
      exact ⟨zs, .inr ⟨_, rfl, hl, hm, by simpa using hz, hcell, hwz⟩⟩
  clear hA0 hval0
  refine (walkUnfold W w0).mono fun e W' ⟨he, bel⟩ => ?_
  subst he
  exact ⟨_, rfl, _, _, _, [], _, [], hW', trodAll_mk1 (shut_bool Tryz.underlying4 _), (trodAll_cons_mk (Below.trod laidOut (by kernel_rfl) (of_decide_eq_true (by kernel_rfl)) k0 bel lt0) trodAll_mk0), rfl, bel.frame _, fun h => by cases h⟩

theorem unfold_holds : Rows.FnUnfoldSaid :=
  OpenClaim.holds_of_wide 4 Tryz.f4 rfl rfl rfl rfl rfl rfl rfl ⟨rfl, rfl, rfl, rfl, rfl⟩ rfl rfl rfl rfl rfl (by kernel_rfl) Tryz.func4 (by kernel_rfl)
    (of_decide_eq_true (by kernel_rfl)) (by unfold Func.isWrapper; first | (rw [if_pos (by decide +kernel)]; kernel_rfl) | (rw [if_neg (by decide +kernel)]; exact ⟨rfl, rfl⟩))
    (fun os started H enc _ => liftedUnfold os started H enc)

#print axioms unfold_holds
end Go.Proofs.YtkgdhlpmlpbbkaaGreat
