/-
  The law of the first state of a set is true at all bytes: no condition. The card.
-/
import Derived.Test.YtknjoadicdijdaaDoorCards
import Derived.Test.YtknjoadicdijdaaDoorTie
import Derived.Test.YtknjoadicdijdaaDoorTopF
import Derived.ProofKit
import Derived.Lib.SmallJoins
import Derived.ChangeSame
import Derived.JoinedOf
import Derived.JoinedAt
import Derived.RowKit3
import Derived.ShutString
import Derived.OpenShut
import Derived.ChangeOld
import Derived.Deep.DeepHandedRow
import Derived.Deep.DeepWitnessRowRef
import Derived.Deep.DeepLaidRun
import Derived.Deep.RegionHeld3
namespace Go.Proofs.YtknjoadicdijdaaDoor
open Go.ChangeShapes Go.WideShapes Go.ChangeAt Go.RowKit Go.Joins
open Go.WideMaps Go.WideElems Tm
open Go.ChangeMaps (open_string shut_string)

theorem Tryd.own : ownKnob Tryd.prog.godebug = none := by kernel_rfl
theorem laidOut : laidOutB Tryd.prog = true := by kernel_rfl

theorem ix_of (k : Nat) (hk : k < 27) (w : World) : Calls Tryd.prog 29 #[.agg #[.int .i64 (ax k), .int .i64 (ay k), .int .i64 (az k)]] w fun e w' => e = .returned (.int .i64 (k : Int)) ∧ Below w.heap.size w w' := by
  have h := implIx_yes (ax k) (ay k) (az k) w (at_st3 (i := (k : Int)) (by omega) (by omega))
  rwa [show ax (k : Int) + 3 * ay (k : Int) + 9 * az (k : Int) = (k : Int) by unfold ax ay az; omega] at h
theorem cnt_up (F : Nat → Bool) (k : Nat) : cnt (k + 1) F = cnt k F + (if F k then 1 else 0) := rfl

set_option maxRecDepth 100000 in
set_option maxHeartbeats 16000000 in
theorem walkFirst {a0 : Option Addr} {len0 cap0 : Nat} {z0 : List Int} (w : World) (h0 : IsRow w a0 len0 cap0 z0) (hT0 : Tab32 w) :
    Calls Tryd.prog 5 #[.slice a0 len0 cap0] w fun e w' => e = .returned (.bool true) ∧ Below w.heap.size w w' := by
  have D := Lib.hid (drawFS h0)
  have HT := Lib.hid hT0
  clear h0 hT0
  by_cases hl : (1048576 : Int) < len0
  · go_enter Tryd.func5, Tryd.ntmps5
    go_wp2_with fail
    go_ret
    exact ⟨rfl, Below.refl _ _⟩
  · go_enter Tryd.func5, Tryd.ntmps5
    go_wp2_with fail
    refine D.out.mono ?_
    rintro e w1 ⟨p, p1, rfl, hb⟩
    have HB1 := Lib.hid hb
    clear hb D
    have HT1 := Lib.hid (HT.out.below HB1.out)
    by_cases hv : Set27 p
    · rcases first_or (hs p.data.toList) with ⟨K, hK⟩ | hnone
      · have C1 := fun w (h : Tab32 w) => Lib.hid (implFirst_yes p K w h hv hK)
        have C2 := fun w => Lib.hid (specFirst_yes p K w hv hK)
        have HK27 := hK.1
        have IX := fun w => Lib.hid (ix_of K HK27 w)
        have HS1 := fun w => Lib.hid (has_at p hv K HK27 w)
        rw [hK.2.1] at HS1
        have HLOW := Lib.hid hK.2.2
        have hpos : 0 < cnt 27 (hs p.data.toList) := cnt_pos HK27 hK.2.1
        clear hK HK27
        have PVd := fun w => Lib.hid (implPredValid_yes p w hv)
        have N1 := fun w => Lib.hid (implCountP_yes p w hv)
        have N2 := fun w => Lib.hid (specCountP_yes p w hv)
        have HP := Lib.hid hv
        have hle := cnt_le 27 (hs p.data.toList)
        obtain ⟨C, hC⟩ : ∃ C, cnt 27 (hs p.data.toList) = C := ⟨_, rfl⟩
        rw [hC] at N1 N2 hle
        have HC := Lib.hid hC
        rw [hC] at hpos
        clear hv p1 hC hle
        have D1 := N1
        go_wp2_with fail
        refine (C1 _ HT1.out).out.mono ?_
        rintro e w2 ⟨rfl, hb⟩
        have HB2 := Lib.hid (bnext HB1.out hb)
        clear hb
        go_wp2_with fail
        have u0 := Blk.new w2 #[.int .i64 (ax K), .int .i64 (ay K), .int .i64 (az K)] 30
        have HB2a := Lib.hid (HB2.out.alloc HB2.out.size (.cells #[.int .i64 (ax K), .int .i64 (ay K), .int .i64 (az K)] 30))
        generalize w2.alloc (.cells #[.int .i64 (ax K), .int .i64 (ay K), .int .i64 (az K)] 30) = w2a at *
        generalize w2.heap.size = b0 at *
        have HU2 := Lib.hid u0
        clear u0
        refine (C2 _).out.mono ?_
        rintro e w3 ⟨rfl, hb⟩
        have HB3 := Lib.hid (bnext HB2a.out hb)
        have HU3 := Lib.hid (HU2.out.kept hb)
        clear hb
        obtain ⟨q0, q1, q2⟩ := HU3.out.c3
        have hlt := HU3.out.lt
        go_wp2_with fail
        clear q0 q1 q2 hlt
        have u1 := Blk.new w3 #[.int .i64 (ax K), .int .i64 (ay K), .int .i64 (az K)] 30
        have u0 := HU3.out.alloc (.cells #[.int .i64 (ax K), .int .i64 (ay K), .int .i64 (az K)] 30)
        have HB3a := Lib.hid (HB3.out.alloc HB3.out.size (.cells #[.int .i64 (ax K), .int .i64 (ay K), .int .i64 (az K)] 30))
        generalize w3.alloc (.cells #[.int .i64 (ax K), .int .i64 (ay K), .int .i64 (az K)] 30) = w4 at *
        generalize w3.heap.size = b1 at *
        have HU4 := Lib.hid u0
        have HV4 := Lib.hid u1
        clear u0 u1
        obtain ⟨q0, q1, q2⟩ := HU4.out.c3
        obtain ⟨r0, r1, r2⟩ := HV4.out.c3
        refine (PVd _).out.mono ?_
        rintro e w' ⟨rfl, rfl⟩
        go_wp2_with fail
        clear q0 q1 q2 r0 r1 r2
        refine (N1 _).out.mono ?_
        rintro e w5 ⟨rfl, hb⟩
        have HB5 := Lib.hid (bnext HB3a.out hb)
        have HU5 := Lib.hid (HU4.out.kept hb)
        clear hb HU4 HV4
        go_wp2_with fail
        refine (N2 _).out.mono ?_
        rintro e w' ⟨rfl, rfl⟩
        go_wp2_with fail
        refine (states_any _).mono ?_
        rintro e w6 ⟨g, cap, hcap, hg, rfl, hs6, hb⟩
        have HB6 := Lib.hid (bnext HB5.out hb)
        have HU6 := Lib.hid (HU5.out.kept hb)
        have HS6 := Lib.hid hs6
        clear hb hs6 HU5 C1 C2 N1 N2 PVd
        go_wp2_with fail
        go_loopw [8, 10] (fun n i wr => ∃ k : Nat, k ≤ 27 ∧ i = .int .i64 k ∧ n = .int .i64 (cnt k (hs p.data.toList) : Nat) ∧ Hid (Below w.heap.size w wr) ∧ Hid (Sts wr g) ∧ Hid (Blk wr b0 #[.int .i64 (ax K), .int .i64 (ay K), .int .i64 (az K)] 30)) (fun _ i _ => 27 - (intOf i).toNat)
        case atStart => exact ⟨0, by omega, rfl, rfl, HB6, HS6, HU6⟩
        case round =>
          obtain ⟨k, hk, rfl, rfl, HB, HS, HU⟩ := hrel
          by_cases hlt : k < 27
          · have hk0 : (0 : Int) ≤ (k : Int) := by omega
            have hk1 : (k : Int) < 27 := by omega
            have H1 := fun w => Lib.hid (has_at p HP.out k hlt w)
            have hup := cnt_up (hs p.data.toList) k
            have hlow : hs p.data.toList k = true → ¬ (k : Int) < (K : Int) := fun e h => by
              have := HLOW.out k (by omega)
              rw [e] at this; cases this
            obtain ⟨c, hc⟩ : ∃ c, cnt k (hs p.data.toList) = c := ⟨_, rfl⟩
            have hcl : c ≤ 27 := by rw [← hc]; exact Nat.le_trans (cnt_le k _) hk
            rw [hc] at hup
            have HUP := Lib.hid hup
            rw [hc]
            clear hup hc
            obtain ⟨c0, c1, c2⟩ := HS.out k hlt
            cases hV : hs p.data.toList k
            · rw [hV] at H1
              clear hlow
              go_wp2_with fail
              refine (H1 _).out.mono ?_
              rintro e w7 ⟨rfl, hb⟩
              have HB7 := Lib.hid (bnext HB.out hb)
              have HS7 := Lib.hid (HS.out.kept hb)
              have HU7 := Lib.hid (HU.out.kept hb)
              clear hb c0 c1 c2
              go_wp2_with fail
              go_round
              case rel => exact ⟨k + 1, by omega, by go_num, by rw [HUP.out, hV]; rfl, HB7, HS7, HU7⟩
              case measure => simp [intOf]; omega
            · rw [hV] at H1
              have hnlt := hlow hV
              have gd : decide ((k : Int) < (K : Int)) = false := decide_eq_false hnlt
              clear hlow
              have ew : IntKind.i64.wrap ((c : Int) + 1) = (c : Int) + 1 := IntWalk.i64_in _ (by omega)
              go_wp2_with fail
              refine (H1 _).out.mono ?_
              rintro e w7 ⟨rfl, hb⟩
              have HB7 := Lib.hid (bnext HB.out hb)
              have HS7 := Lib.hid (HS.out.kept hb)
              have HU7 := Lib.hid (HU.out.kept hb)
              clear hb c0 c1 c2
              obtain ⟨q0, q1, q2⟩ := HU7.out.c3
              go_wp2_with fail
              refine (IX _).out.mono ?_
              rintro e w8 ⟨rfl, hb⟩
              have HB8 := Lib.hid (bnext HB7.out hb)
              have HS8 := Lib.hid (HS7.out.kept hb)
              have HU8 := Lib.hid (HU7.out.kept hb)
              clear hb q0 q1 q2
              go_wp2_with fail
              go_round
              case rel => exact ⟨k + 1, by omega, by go_num, by rw [HUP.out, hV]; simp, HB8, HS8, HU8⟩
              case measure => simp [intOf]; omega
          · have hk2 : k = 27 := by omega
            subst hk2
            clear HS
            rw [HC.out]
            go_wp2_with fail
            refine (D1 _).out.mono ?_
            rintro e w7 ⟨rfl, hb⟩
            have HB7 := Lib.hid (bnext HB.out hb)
            have HU7 := Lib.hid (HU.out.kept hb)
            clear hb
            obtain ⟨q0, q1, q2⟩ := HU7.out.c3
            go_wp2_with fail
            try any_goals (exfalso; omega)
            refine (HS1 _).out.mono ?_
            rintro e w8 ⟨rfl, hb⟩
            have HB8 := Lib.hid (bnext HB7.out hb)
            clear hb q0 q1 q2
            go_wp2_with fail
            go_ret
            exact ⟨rfl, HB8.out⟩
      · have C1 := fun w (h : Tab32 w) => Lib.hid (implFirst_none p w h hv hnone)
        have C2 := fun w => Lib.hid (specFirst_none p w hv hnone)
        have HN := Lib.hid hnone
        have hzero : cnt 27 (hs p.data.toList) = 0 := cnt_none hnone
        clear hnone
        have PVd := fun w => Lib.hid (implPredValid_yes p w hv)
        have N1 := fun w => Lib.hid (implCountP_yes p w hv)
        have N2 := fun w => Lib.hid (specCountP_yes p w hv)
        have HP := Lib.hid hv
        have hle := cnt_le 27 (hs p.data.toList)
        obtain ⟨C, hC⟩ : ∃ C, cnt 27 (hs p.data.toList) = C := ⟨_, rfl⟩
        rw [hC] at N1 N2 hle
        have HC := Lib.hid hC
        rw [hC] at hzero
        subst hzero
        clear hv p1 hC hle
        have D1 := N1
        go_wp2_with fail
        refine (C1 _ HT1.out).out.mono ?_
        rintro e w2 ⟨rfl, hb⟩
        have HB2 := Lib.hid (bnext HB1.out hb)
        clear hb
        go_wp2_with fail
        have u0 := Blk.new w2 #[.int .i64 0, .int .i64 0, .int .i64 0] 30
        have HB2a := Lib.hid (HB2.out.alloc HB2.out.size (.cells #[.int .i64 0, .int .i64 0, .int .i64 0] 30))
        generalize w2.alloc (.cells #[.int .i64 0, .int .i64 0, .int .i64 0] 30) = w2a at *
        generalize w2.heap.size = b0 at *
        have HU2 := Lib.hid u0
        clear u0
        refine (C2 _).out.mono ?_
        rintro e w3 ⟨rfl, hb⟩
        have HB3 := Lib.hid (bnext HB2a.out hb)
        have HU3 := Lib.hid (HU2.out.kept hb)
        clear hb
        obtain ⟨q0, q1, q2⟩ := HU3.out.c3
        have hlt := HU3.out.lt
        go_wp2_with fail
        clear q0 q1 q2 hlt
        have u1 := Blk.new w3 #[.int .i64 0, .int .i64 0, .int .i64 0] 30
        have u0 := HU3.out.alloc (.cells #[.int .i64 0, .int .i64 0, .int .i64 0] 30)
        have HB3a := Lib.hid (HB3.out.alloc HB3.out.size (.cells #[.int .i64 0, .int .i64 0, .int .i64 0] 30))
        generalize w3.alloc (.cells #[.int .i64 0, .int .i64 0, .int .i64 0] 30) = w4 at *
        generalize w3.heap.size = b1 at *
        have HU4 := Lib.hid u0
        have HV4 := Lib.hid u1
        clear u0 u1
        obtain ⟨q0, q1, q2⟩ := HU4.out.c3
        obtain ⟨r0, r1, r2⟩ := HV4.out.c3
        refine (PVd _).out.mono ?_
        rintro e w' ⟨rfl, rfl⟩
        go_wp2_with fail
        clear q0 q1 q2 r0 r1 r2
        refine (N1 _).out.mono ?_
        rintro e w5 ⟨rfl, hb⟩
        have HB5 := Lib.hid (bnext HB3a.out hb)
        have HU5 := Lib.hid (HU4.out.kept hb)
        clear hb HU4 HV4
        go_wp2_with fail
        refine (N2 _).out.mono ?_
        rintro e w' ⟨rfl, rfl⟩
        go_wp2_with fail
        refine (states_any _).mono ?_
        rintro e w6 ⟨g, cap, hcap, hg, rfl, hs6, hb⟩
        have HB6 := Lib.hid (bnext HB5.out hb)
        have HU6 := Lib.hid (HU5.out.kept hb)
        have HS6 := Lib.hid hs6
        clear hb hs6 HU5 C1 C2 N1 N2 PVd
        go_wp2_with fail
        go_loopw [8, 10] (fun n i wr => ∃ k : Nat, k ≤ 27 ∧ i = .int .i64 k ∧ n = .int .i64 (cnt k (hs p.data.toList) : Nat) ∧ Hid (Below w.heap.size w wr) ∧ Hid (Sts wr g) ∧ Hid (Blk wr b0 #[.int .i64 0, .int .i64 0, .int .i64 0] 30)) (fun _ i _ => 27 - (intOf i).toNat)
        case atStart => exact ⟨0, by omega, rfl, rfl, HB6, HS6, HU6⟩
        case round =>
          obtain ⟨k, hk, rfl, rfl, HB, HS, HU⟩ := hrel
          by_cases hlt : k < 27
          · have hk0 : (0 : Int) ≤ (k : Int) := by omega
            have hk1 : (k : Int) < 27 := by omega
            have H1 := fun w => Lib.hid (has_at p HP.out k hlt w)
            have hup := cnt_up (hs p.data.toList) k
            have hno := HN.out k hlt
            rw [hno] at H1
            obtain ⟨c, hc⟩ : ∃ c, cnt k (hs p.data.toList) = c := ⟨_, rfl⟩
            have hcl : c ≤ 27 := by rw [← hc]; exact Nat.le_trans (cnt_le k _) hk
            rw [hc] at hup
            have HUP := Lib.hid hup
            rw [hc]
            clear hup hc
            obtain ⟨c0, c1, c2⟩ := HS.out k hlt
            go_wp2_with fail
            refine (H1 _).out.mono ?_
            rintro e w7 ⟨rfl, hb⟩
            have HB7 := Lib.hid (bnext HB.out hb)
            have HS7 := Lib.hid (HS.out.kept hb)
            have HU7 := Lib.hid (HU.out.kept hb)
            clear hb c0 c1 c2
            go_wp2_with fail
            go_round
            case rel => exact ⟨k + 1, by omega, by go_num, by rw [HUP.out, hno]; rfl, HB7, HS7, HU7⟩
            case measure => simp [intOf]; omega
          · have hk2 : k = 27 := by omega
            subst hk2
            clear HS
            rw [HC.out]
            go_wp2_with fail
            refine (D1 _).out.mono ?_
            rintro e w7 ⟨rfl, hb⟩
            have HB7 := Lib.hid (bnext HB.out hb)
            have HU7 := Lib.hid (HU.out.kept hb)
            clear hb
            go_wp2_with fail
            go_ret
            exact ⟨rfl, HB7.out⟩
    · have C1 := fun w (h : Tab32 w) => Lib.hid (implFirst_no p w h hv)
      have C2 := fun w => Lib.hid (specFirst_no p w hv (Nat.le_trans p1 (by decide)))
      have PVd := fun w => Lib.hid (implPredValid_no p w hv)
      have N1 := fun w => Lib.hid (implCountP_no p w hv)
      have N2 := fun w => Lib.hid (specCountP_no p w hv (Nat.le_trans p1 (by decide)))
      clear hv p1
      go_wp2_with fail
      refine (C1 _ HT1.out).out.mono ?_
      rintro e w2 ⟨rfl, hb⟩
      have HB2 := Lib.hid (bnext HB1.out hb)
      clear hb
      go_wp2_with fail
      have u0 := Blk.new w2 #[.int .i64 0, .int .i64 0, .int .i64 0] 30
      have HB2a := Lib.hid (HB2.out.alloc HB2.out.size (.cells #[.int .i64 0, .int .i64 0, .int .i64 0] 30))
      generalize w2.alloc (.cells #[.int .i64 0, .int .i64 0, .int .i64 0] 30) = w2a at *
      generalize w2.heap.size = b0 at *
      have HU2 := Lib.hid u0
      clear u0
      refine (C2 _).out.mono ?_
      rintro e w3 ⟨rfl, hb⟩
      have HB3 := Lib.hid (bnext HB2a.out hb)
      have HU3 := Lib.hid (HU2.out.kept hb)
      clear hb
      obtain ⟨q0, q1, q2⟩ := HU3.out.c3
      have hlt := HU3.out.lt
      go_wp2_with fail
      clear q0 q1 q2 hlt
      have u1 := Blk.new w3 #[.int .i64 0, .int .i64 0, .int .i64 0] 30
      have u0 := HU3.out.alloc (.cells #[.int .i64 0, .int .i64 0, .int .i64 0] 30)
      have HB3a := Lib.hid (HB3.out.alloc HB3.out.size (.cells #[.int .i64 0, .int .i64 0, .int .i64 0] 30))
      generalize w3.alloc (.cells #[.int .i64 0, .int .i64 0, .int .i64 0] 30) = w4 at *
      generalize w3.heap.size = b1 at *
      have HU4 := Lib.hid u0
      have HV4 := Lib.hid u1
      clear u0 u1
      obtain ⟨q0, q1, q2⟩ := HU4.out.c3
      obtain ⟨r0, r1, r2⟩ := HV4.out.c3
      refine (PVd _).out.mono ?_
      rintro e w' ⟨rfl, rfl⟩
      go_wp2_with fail
      clear q0 q1 q2 r0 r1 r2
      refine (N1 _).out.mono ?_
      rintro e w5 ⟨rfl, hb⟩
      have HB5 := Lib.hid (bnext HB3a.out hb)
      clear hb
      go_wp2_with fail
      refine (N2 _).out.mono ?_
      rintro e w' ⟨rfl, rfl⟩
      go_wp2_with fail
      go_ret
      exact ⟨rfl, HB5.out⟩

/-- THE WITNESS: the settled world, the tables holding what their initialisers lay. -/
noncomputable def laidWorld (os : Os) : World :=
  let w0 := World.holding Tryd.prog os ⟨#[], #[], []⟩
  let put (h : Array Obj) (g : Nat) (cs : Array Value) : Array Obj := h.modify g fun
    | .cells _ t frozen => .cells cs t frozen
    | o => o
  { w0 with heap := put w0.heap 0 (Lib.deBruijn32tab.map fun (z : Nat) => Value.int .u8 (z : Int)).toArray }
def wargs : Array Value := #[.slice none 0 0]
theorem laid_met (os : Os) : laidMet Tryd.prog Rows.fnFirstRow.laid ((laidWorld os).forCall (fun _ _ => 0) ⟨#[], wargs, []⟩).memory :=
  laidMet_of_run3 8 (by kernel_rfl) (by kernel_rfl) (by kernel_rfl)

theorem witness_row (os : Os) {H : Type} (enc : TypeId × Value → H) :
    (OpenSpec.ofChange Rows.fnFirstSpec).preRow enc Tryd.prog Tryd.f5 Rows.fnFirstRow.domain false Rows.fnFirstRow.laid ((laidWorld os).forCall (fun _ _ => 0) ⟨#[], wargs, []⟩).memory wargs := by
  have hw : (DataW.whole enc Tryd.prog ((laidWorld os).forCall (fun _ _ => 0) ⟨#[], wargs, []⟩).memory Tryd.f5.params.toList (OpenSpec.ofChange Rows.fnFirstSpec).vars false wargs.toList 8).map (fun x => (x.1, x.2.1)) =
      some ([.nil], []) := by kernel_rfl
  obtain ⟨⟨x1, x2, x3⟩, hx, hx1⟩ := Option.map_eq_some_iff.1 hw
  simp only [Prod.mk.injEq] at hx1
  obtain ⟨rfl, rfl⟩ := hx1
  exact OpenSpec.preRow_of_cond 8 hx (by kernel_rfl) (fun k hk => by cases hk) (by kernel_rfl) (laid_met os)

set_option linter.unusedVariables false in
set_option maxRecDepth 100000 in
set_option maxHeartbeats 2000000 in
theorem lifted (os : Os) (started : os.Started) (H : Type) (enc : TypeId × Value → H) (F : Stop.Interp) :
    ReturnsInHanded {} Tryd.checked os 5 .any ((OpenSpec.ofChange Rows.fnFirstSpec).preRow enc Tryd.prog Tryd.f5 Rows.fnFirstRow.domain false Rows.fnFirstRow.laid) (((OpenSpec.ofChange Rows.fnFirstSpec).at F).post enc Tryd.prog Tryd.f5 false true false false) := by
  refine returnsInHanded_of_row (C := Tryd.checked) (s := OpenSpec.ofChange Rows.fnFirstSpec) Tryd.own started (by kernel_rfl) Tryd.func5
    (witness_row_atRef (enc := enc) (C := Tryd.checked) false (laidWorld os) wargs rfl (by kernel_rfl) (by kernel_rfl) (by kernel_rfl) (witness_row os enc)) ?_
  intro W base args ds gs before hval0 hW _ _ _ hL _ _
  have hval : ∀ (j : Nat) t v, Tryd.f5.params[j]? = some t → args[j]? = some v → Value.okWide Tryd.prog W .any base t v := hval0
  have hW' := hW
  obtain ⟨p, q, hA0, hV, rfl, _, _⟩ := hW
  have hA : DataW.TrodAll enc Tryd.prog W 0 (fun _ => true) true Tryd.f5.params.toList args.toList ds p := hA0
  rw [Tryd.params5] at hA hval
  obtain ⟨v0, vs0, d0, ds0, p0, q0, hargs, rfl, rfl, h0, r0⟩ := trodAll_cons hA
  obtain ⟨rfl, rfl, rfl⟩ := trodAll_nil r0
  obtain rfl : args = #[v0] := by cases args; simp_all
  obtain ⟨rfl, rfl⟩ := trodVars_none hV
  obtain ⟨a0, len0, cap0, rfl⟩ := okWide_slice Tryd.underlying22 (hval 0 22 v0 rfl rfl)
  have k0 := h0
  have lt0 : ∀ x ∈ p0, x.block < W.heap.size := by obtain ⟨m, hm⟩ := k0; exact DataW.trod_lt m _ _ _ hm
  obtain ⟨z0, w0⟩ : ∃ zs, IsRow W a0 len0 cap0 zs := by
    obtain ⟨fuel, hf⟩ := h0
    rcases open_ints Tryd.underlying22 Tryd.underlying5 (by kernel_rfl) hf with ⟨hcs, _⟩ | ⟨x, l, c, zs, hcs, _, hl, hm, hz, _, hcell, hwz⟩
    · simp [Value.cells] at hcs
      obtain ⟨rfl, rfl, rfl⟩ := hcs
      exact ⟨[], .inl ⟨rfl, rfl, rfl, rfl⟩⟩
    · simp [Value.cells] at hcs
      obtain ⟨rfl, rfl, rfl⟩ := hcs
      exact ⟨zs, .inr ⟨_, rfl, hl, hm, by simpa using hz, hcell, hwz⟩⟩
  clear hA0 hval0
  have hm : Tab32 W := tab_of_laid hL
  refine (walkFirst W w0 hm).mono fun e W' ⟨he, bel⟩ => ?_
  subst he
  have e1 : ((OpenSpec.ofChange Rows.fnFirstSpec).at F).fn H ([d0] ++ []) = { results := [.lit (.bool true)], args := [d0] } := rfl
  refine ⟨_, rfl, _, _, _, [], p0 ++ [], [], hW', ?_, ?_, ?_, bel.frame _, fun h => by cases h⟩
  · rw [e1]; exact trodAll_mk1 (shut_bool Tryd.underlying4 true)
  · rw [e1]; exact (trodAll_cons_mk (Below.trod laidOut (by kernel_rfl) (of_decide_eq_true (by kernel_rfl)) k0 bel lt0) trodAll_mk0)
  · rw [e1]; rfl

theorem said : Rows.FnFirstSaid :=
  OpenClaim.holds_of_cond 5 Tryd.f5 rfl rfl rfl rfl rfl rfl rfl ⟨rfl, rfl, rfl, rfl, rfl⟩ rfl rfl rfl rfl rfl (by kernel_rfl) Tryd.func5 (by kernel_rfl)
    (of_decide_eq_true (by kernel_rfl)) (by unfold Func.isWrapper; first | (rw [if_pos (by decide +kernel)]; kernel_rfl) | (rw [if_neg (by decide +kernel)]; exact ⟨rfl, rfl⟩))
    (fun os started H enc _ F => by rw [OpenClaim.pre_eq_preRow]; exact lifted os started H enc F)

theorem plain (f : FuncId) (fn : Func) (hf : Tryd.pinned.checked.prog.funcNamed Rows.fnFirstRow.func = some f) (hfn : Tryd.pinned.checked.prog.funcs[f]? = some fn) :
    false = Tryd.pinned.checked.prog.looks [] ∧ ∀ (j : Nat) t, fn.params[j]? = some t → Tryd.pinned.checked.prog.wantsStandIn t = false := by
  obtain rfl : f = 5 := Option.some.inj ((show Tryd.prog.funcNamed Rows.fnFirstRow.func = some 5 by kernel_rfl).symm.trans hf) |>.symm
  obtain rfl : fn = Tryd.f5 := (Option.some.inj (Tryd.func5.symm.trans hfn)).symm
  refine ⟨by kernel_rfl, fun j t ht => ?_⟩
  rw [Tryd.params5] at ht
  obtain rfl : t = 22 := by
    have := Array.mem_of_getElem? ht
    simpa using this
  exact (show Tryd.prog.wantsStandIn 22 = false by kernel_rfl)

theorem first_card : Rows.FnFirstCardSaid :=
  Claim7.holds_tied_plain_at .later [] _ _ _ _ said (fun _ h => by cases h) (by kernel_rfl) (fun _ h => by cases h) fnFirst_row_tie rfl ⟨rfl, rfl⟩ (by kernel_rfl) rfl plain (by kernel_rfl)

#print axioms first_card
end Go.Proofs.YtknjoadicdijdaaDoor
