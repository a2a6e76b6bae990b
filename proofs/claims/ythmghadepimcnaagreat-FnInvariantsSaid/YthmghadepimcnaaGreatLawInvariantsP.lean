/-
  The law of what proves a loop is true at all bytes: no condition.
-/
import Derived.Test.YthmghadepimcnaaGreatRows
import Derived.Test.YthmghadepimcnaaGreatTopE
import Derived.Deep.RegionHeld3
import Derived.Test.YthmghadepimcnaaGreatTopC
import Derived.ProofKit
import Derived.OpenShut
import Derived.ShutString
import Derived.ChangeOld
namespace Go.Proofs.YthmghadepimcnaaGreat
open Go.ChangeShapes Go.WideShapes Go.ChangeAt Go.RowKit
open Go.ChangeMaps (open_string shut_string)

theorem Tryz.own : ownKnob Tryz.prog.godebug = none := by kernel_rfl
theorem laidOut : laidOutB Tryz.prog = true := by kernel_rfl

theorem at_ser2 {s b : ByteArray} {t : Tm} {p : Pg} (hs : s.data.toList = t.ser) (he : b.data.toList = p.ser) : ((⟨#[64]⟩ : ByteArray) ++ s ++ b).data.toList = (Pg.whl t p).ser := by
  rw [ByteArray.data_append, ByteArray.data_append, Array.toList_append, Array.toList_append, hs, he]
  rfl
theorem at_size2 (s b : ByteArray) : ((⟨#[64]⟩ : ByteArray) ++ s ++ b).size = 1 + s.size + b.size := by
  rw [ByteArray.size_append, ByteArray.size_append]; rfl
theorem inv_facts (t : Tm) {p : Pg} (hp : p.ok false) (a i z : ByteArray) : ∃ (S W : ByteArray) (b1 b2 k h : Bool), Set27 S ∧ Set27 W ∧ bs (tb (stS (tst t) (rT p) (hs a.data.toList))) = S ∧ bs (tb (wF (.whl t p) (hs z.data.toList))) = W ∧ kpS t p (hs i.data.toList) = k ∧ wi 27 (hs S.data.toList) (hs i.data.toList) = b1 ∧ wi 27 (hs i.data.toList) (hs W.data.toList) = b2 ∧
    wi 27 (hs a.data.toList) (hs W.data.toList) = h ∧ wi 27 (hs S.data.toList) (hs W.data.toList) = h ∧ (kpS t p (hs i.data.toList) && wi 27 (hs a.data.toList) (hs i.data.toList) && wi 27 (fun j => hs i.data.toList j && !tst t j) (hs z.data.toList)) = (b1 && b2 && k) ∧ (b1 = true → b2 = true → h = true) := by
  refine ⟨_, _, _, _, _, _, set27_tb _, set27_tb _, rfl, rfl, rfl, rfl, rfl, rfl, ?_, ?_, ?_⟩
  · rw [wi_congr (F' := stS (tst t) (rT p) (hs a.data.toList)) (G' := wF (.whl t p) (hs z.data.toList)) (fun j hj => hs_bs _ j hj) (fun j hj => hs_bs _ j hj), ← st_weak hp]
    exact (wi_congr (fun _ _ => rfl) (fun j hj => hs_bs _ j hj)).symm
  · rw [inv_eq hp]
    rw [wi_congr (F := hs (bs (tb (stS (tst t) (rT p) (hs a.data.toList)))).data.toList) (F' := stS (tst t) (rT p) (hs a.data.toList)) (G' := hs i.data.toList) (fun j hj => hs_bs _ j hj) (fun _ _ => rfl)]
    rw [wi_congr (G := hs (bs (tb (wF (.whl t p) (hs z.data.toList)))).data.toList) (F' := hs i.data.toList) (G' := wF (.whl t p) (hs z.data.toList)) (fun _ _ => rfl) (fun j hj => hs_bs _ j hj)]
  · intro h1 h2
    rw [wi_iff] at h1 h2 ⊢
    intro j hj h
    refine h2 j hj (h1 j hj ?_)
    rw [hs_bs _ j hj]
    exact st_in hj h

set_option maxRecDepth 100000 in
set_option maxHeartbeats 16000000 in
theorem walkInvariants {a0 : Option Addr} {len0 cap0 : Nat} {z0 : List Int} (w : World) (h0 : IsRow w a0 len0 cap0 z0) :
    Calls Tryz.prog 7 #[.slice a0 len0 cap0] w fun e w' => e = .returned (.bool true) ∧ Below w.heap.size w w' := by
  have D := Lib.hid (dProves h0)
  clear h0
  by_cases hl : (1048576 : Int) < len0
  · go_enter Tryz.func7, Tryz.ntmps7
    go_wp2_with fail
    go_ret
    exact ⟨rfl, Below.refl _ _⟩
  · go_enter Tryz.func7, Tryz.ntmps7
    go_wp2_with fail
    refine D.out.mono ?_
    rintro e w1 ⟨a, t, b, i, z, a1, t1, b0, i1, z1, rfl, hb⟩
    have HB1 := Lib.hid hb
    clear hb D
    by_cases hv : ((IsT t ∧ IsP b) ∧ Set27 i) ∧ (Set27 a ∧ Set27 z)
    · obtain ⟨⟨⟨⟨⟨tm, htm, hts⟩, htl⟩, ⟨⟨p, hp, he⟩, hl⟩⟩, hi⟩, ha, hz⟩ := hv
      obtain ⟨S, W, b1, b2, k, h, hS, hW, e1, e2, e3, e4, e5, e6, e7, e8, e9⟩ := inv_facts tm hp a i z
      have C1 := fun w => Lib.hid (implProves_yes a t b i z htm hts htl hp he hl hi ha hz w)
      have C2 := fun w => Lib.hid (specProves_yes a t b i z htm hts htl hp he hl hi ha hz w)
      have C3 := fun w => Lib.hid (implStrong_yes a t b htm hts htl hp he hl ha w)
      have C4 := fun w => Lib.hid (implWeak_yes z t b htm hts htl hp he hl hz w)
      have V3 := fun w => Lib.hid (implPredValid_yes i w hi)
      unfold TextPost at C3 C4
      rw [e8] at C1 C2
      rw [e1] at C3
      rw [e2] at C4
      have ew : IntKind.i64.wrap ((t.size : Int) + (b.size : Int)) = ((t.size + b.size : Nat) : Int) := (IntWalk.i64_in _ (by omega)).trans (by omega)
      have n1 : ¬ 9223372036854775807 < 1 + t.size := by omega
      have n2 : ¬ 9223372036854775807 < 1 + t.size + b.size := by omega
      by_cases hn : t.size + b.size ≤ 190
      · have g1 : ¬ (190 : Int) < ((t.size + b.size : Nat) : Int) := by omega
        have C5 := fun w => Lib.hid (implPWithin_yes S i w hS hi)
        have C6 := fun w => Lib.hid (implPWithin_yes i W w hi hW)
        have C7 := fun w => Lib.hid (implTriple_yes a (⟨#[64]⟩ ++ t ++ b) z (whl_ok htm hp) (at_ser2 hts he) (by rw [at_size2]; omega) hz ha w)
        have C8 := fun w => Lib.hid (implKeeps_yes i t b htm hts htl hp he hl hi w)
        have C9 := fun w => Lib.hid (implPWithin_yes S W w hS hW)
        rw [e2] at C7
        rw [e4] at C5
        rw [e5] at C6
        rw [e6] at C7
        rw [e3] at C8
        rw [e7] at C9
        clear htm hts htl hp he hl hi ha hz hS hW e1 e2 e3 e4 e5 e6 e7 e8 a1 t1 b0 i1 z1
        cases b1
        · clear e9
          cases h
          · go_wp2_with fail
            refine (C1 _).out.mono ?_
            rintro e w2 ⟨rfl, hb⟩
            have HB2 := Lib.hid (bnext HB1.out hb)
            clear hb
            go_wp2_with fail
            refine (C2 _).out.mono ?_
            rintro e w3 ⟨rfl, hb⟩
            have HB3 := Lib.hid (bnext HB2.out hb)
            clear hb
            go_wp2_with fail
            refine (C3 _).out.mono ?_
            rintro e w4 ⟨rfl, hb⟩
            have HB4 := Lib.hid (bnext HB3.out hb)
            clear hb
            go_wp2_with fail
            refine (C4 _).out.mono ?_
            rintro e w5 ⟨rfl, hb⟩
            have HB5 := Lib.hid (bnext HB4.out hb)
            clear hb
            go_wp2_with fail
            refine (V3 _).out.mono ?_
            rintro e w' ⟨rfl, rfl⟩
            go_wp2_with fail
            refine (C5 _).out.mono ?_
            rintro e w' ⟨rfl, rfl⟩
            go_wp2_with fail
            refine (C7 _).out.mono ?_
            rintro e w6 ⟨rfl, hb⟩
            have HB6 := Lib.hid (bnext HB5.out hb)
            clear hb
            go_wp2_with fail
            refine (C9 _).out.mono ?_
            rintro e w' ⟨rfl, rfl⟩
            go_wp2_with fail
            go_ret
            exact ⟨rfl, HB6.out⟩
          · go_wp2_with fail
            refine (C1 _).out.mono ?_
            rintro e w2 ⟨rfl, hb⟩
            have HB2 := Lib.hid (bnext HB1.out hb)
            clear hb
            go_wp2_with fail
            refine (C2 _).out.mono ?_
            rintro e w3 ⟨rfl, hb⟩
            have HB3 := Lib.hid (bnext HB2.out hb)
            clear hb
            go_wp2_with fail
            refine (C3 _).out.mono ?_
            rintro e w4 ⟨rfl, hb⟩
            have HB4 := Lib.hid (bnext HB3.out hb)
            clear hb
            go_wp2_with fail
            refine (C4 _).out.mono ?_
            rintro e w5 ⟨rfl, hb⟩
            have HB5 := Lib.hid (bnext HB4.out hb)
            clear hb
            go_wp2_with fail
            refine (V3 _).out.mono ?_
            rintro e w' ⟨rfl, rfl⟩
            go_wp2_with fail
            refine (C5 _).out.mono ?_
            rintro e w' ⟨rfl, rfl⟩
            go_wp2_with fail
            refine (C7 _).out.mono ?_
            rintro e w6 ⟨rfl, hb⟩
            have HB6 := Lib.hid (bnext HB5.out hb)
            clear hb
            go_wp2_with fail
            refine (C9 _).out.mono ?_
            rintro e w' ⟨rfl, rfl⟩
            go_wp2_with fail
            go_ret
            exact ⟨rfl, HB6.out⟩
        · cases b2
          · clear e9
            cases h
            · go_wp2_with fail
              refine (C1 _).out.mono ?_
              rintro e w2 ⟨rfl, hb⟩
              have HB2 := Lib.hid (bnext HB1.out hb)
              clear hb
              go_wp2_with fail
              refine (C2 _).out.mono ?_
              rintro e w3 ⟨rfl, hb⟩
              have HB3 := Lib.hid (bnext HB2.out hb)
              clear hb
              go_wp2_with fail
              refine (C3 _).out.mono ?_
              rintro e w4 ⟨rfl, hb⟩
              have HB4 := Lib.hid (bnext HB3.out hb)
              clear hb
              go_wp2_with fail
              refine (C4 _).out.mono ?_
              rintro e w5 ⟨rfl, hb⟩
              have HB5 := Lib.hid (bnext HB4.out hb)
              clear hb
              go_wp2_with fail
              refine (V3 _).out.mono ?_
              rintro e w' ⟨rfl, rfl⟩
              go_wp2_with fail
              refine (C5 _).out.mono ?_
              rintro e w' ⟨rfl, rfl⟩
              go_wp2_with fail
              refine (C6 _).out.mono ?_
              rintro e w' ⟨rfl, rfl⟩
              go_wp2_with fail
              refine (C7 _).out.mono ?_
              rintro e w6 ⟨rfl, hb⟩
              have HB6 := Lib.hid (bnext HB5.out hb)
              clear hb
              go_wp2_with fail
              refine (C9 _).out.mono ?_
              rintro e w' ⟨rfl, rfl⟩
              go_wp2_with fail
              go_ret
              exact ⟨rfl, HB6.out⟩
            · go_wp2_with fail
              refine (C1 _).out.mono ?_
              rintro e w2 ⟨rfl, hb⟩
              have HB2 := Lib.hid (bnext HB1.out hb)
              clear hb
              go_wp2_with fail
              refine (C2 _).out.mono ?_
              rintro e w3 ⟨rfl, hb⟩
              have HB3 := Lib.hid (bnext HB2.out hb)
              clear hb
              go_wp2_with fail
              refine (C3 _).out.mono ?_
              rintro e w4 ⟨rfl, hb⟩
              have HB4 := Lib.hid (bnext HB3.out hb)
              clear hb
              go_wp2_with fail
              refine (C4 _).out.mono ?_
              rintro e w5 ⟨rfl, hb⟩
              have HB5 := Lib.hid (bnext HB4.out hb)
              clear hb
              go_wp2_with fail
              refine (V3 _).out.mono ?_
              rintro e w' ⟨rfl, rfl⟩
              go_wp2_with fail
              refine (C5 _).out.mono ?_
              rintro e w' ⟨rfl, rfl⟩
              go_wp2_with fail
              refine (C6 _).out.mono ?_
              rintro e w' ⟨rfl, rfl⟩
              go_wp2_with fail
              refine (C7 _).out.mono ?_
              rintro e w6 ⟨rfl, hb⟩
              have HB6 := Lib.hid (bnext HB5.out hb)
              clear hb
              go_wp2_with fail
              refine (C9 _).out.mono ?_
              rintro e w' ⟨rfl, rfl⟩
              go_wp2_with fail
              go_ret
              exact ⟨rfl, HB6.out⟩
          · obtain rfl := e9 rfl rfl
            clear e9
            cases k
            · go_wp2_with fail
              refine (C1 _).out.mono ?_
              rintro e w2 ⟨rfl, hb⟩
              have HB2 := Lib.hid (bnext HB1.out hb)
              clear hb
              go_wp2_with fail
              refine (C2 _).out.mono ?_
              rintro e w3 ⟨rfl, hb⟩
              have HB3 := Lib.hid (bnext HB2.out hb)
              clear hb
              go_wp2_with fail
              refine (C3 _).out.mono ?_
              rintro e w4 ⟨rfl, hb⟩
              have HB4 := Lib.hid (bnext HB3.out hb)
              clear hb
              go_wp2_with fail
              refine (C4 _).out.mono ?_
              rintro e w5 ⟨rfl, hb⟩
              have HB5 := Lib.hid (bnext HB4.out hb)
              clear hb
              go_wp2_with fail
              refine (V3 _).out.mono ?_
              rintro e w' ⟨rfl, rfl⟩
              go_wp2_with fail
              refine (C5 _).out.mono ?_
              rintro e w' ⟨rfl, rfl⟩
              go_wp2_with fail
              refine (C6 _).out.mono ?_
              rintro e w' ⟨rfl, rfl⟩
              go_wp2_with fail
              refine (C7 _).out.mono ?_
              rintro e w6 ⟨rfl, hb⟩
              have HB6 := Lib.hid (bnext HB5.out hb)
              clear hb
              go_wp2_with fail
              refine (C8 _).out.mono ?_
              rintro e w7 ⟨rfl, hb⟩
              have HB7 := Lib.hid (bnext HB6.out hb)
              clear hb
              go_wp2_with fail
              refine (C9 _).out.mono ?_
              rintro e w' ⟨rfl, rfl⟩
              go_wp2_with fail
              go_ret
              exact ⟨rfl, HB7.out⟩
            · go_wp2_with fail
              refine (C1 _).out.mono ?_
              rintro e w2 ⟨rfl, hb⟩
              have HB2 := Lib.hid (bnext HB1.out hb)
              clear hb
              go_wp2_with fail
              refine (C2 _).out.mono ?_
              rintro e w3 ⟨rfl, hb⟩
              have HB3 := Lib.hid (bnext HB2.out hb)
              clear hb
              go_wp2_with fail
              refine (C3 _).out.mono ?_
              rintro e w4 ⟨rfl, hb⟩
              have HB4 := Lib.hid (bnext HB3.out hb)
              clear hb
              go_wp2_with fail
              refine (C4 _).out.mono ?_
              rintro e w5 ⟨rfl, hb⟩
              have HB5 := Lib.hid (bnext HB4.out hb)
              clear hb
              go_wp2_with fail
              refine (V3 _).out.mono ?_
              rintro e w' ⟨rfl, rfl⟩
              go_wp2_with fail
              refine (C5 _).out.mono ?_
              rintro e w' ⟨rfl, rfl⟩
              go_wp2_with fail
              refine (C6 _).out.mono ?_
              rintro e w' ⟨rfl, rfl⟩
              go_wp2_with fail
              refine (C7 _).out.mono ?_
              rintro e w6 ⟨rfl, hb⟩
              have HB6 := Lib.hid (bnext HB5.out hb)
              clear hb
              go_wp2_with fail
              refine (C8 _).out.mono ?_
              rintro e w7 ⟨rfl, hb⟩
              have HB7 := Lib.hid (bnext HB6.out hb)
              clear hb
              go_wp2_with fail
              refine (C9 _).out.mono ?_
              rintro e w' ⟨rfl, rfl⟩
              go_wp2_with fail
              go_ret
              exact ⟨rfl, HB7.out⟩
      · have g1 : (190 : Int) < ((t.size + b.size : Nat) : Int) := by omega
        clear htm hts htl hp he hl hi ha hz hS hW e1 e2 e3 e4 e5 e6 e7 e8 e9 a1 t1 b0 i1 z1
        generalize (b1 && b2 && k) = c at *
        cases c
        · go_wp2_with fail
          refine (C1 _).out.mono ?_
          rintro e w2 ⟨rfl, hb⟩
          have HB2 := Lib.hid (bnext HB1.out hb)
          clear hb
          go_wp2_with fail
          refine (C2 _).out.mono ?_
          rintro e w3 ⟨rfl, hb⟩
          have HB3 := Lib.hid (bnext HB2.out hb)
          clear hb
          go_wp2_with fail
          refine (C3 _).out.mono ?_
          rintro e w4 ⟨rfl, hb⟩
          have HB4 := Lib.hid (bnext HB3.out hb)
          clear hb
          go_wp2_with fail
          refine (C4 _).out.mono ?_
          rintro e w5 ⟨rfl, hb⟩
          have HB5 := Lib.hid (bnext HB4.out hb)
          clear hb
          go_wp2_with fail
          refine (V3 _).out.mono ?_
          rintro e w' ⟨rfl, rfl⟩
          go_wp2_with fail
          go_ret
          exact ⟨rfl, HB5.out⟩
        · go_wp2_with fail
          refine (C1 _).out.mono ?_
          rintro e w2 ⟨rfl, hb⟩
          have HB2 := Lib.hid (bnext HB1.out hb)
          clear hb
          go_wp2_with fail
          refine (C2 _).out.mono ?_
          rintro e w3 ⟨rfl, hb⟩
          have HB3 := Lib.hid (bnext HB2.out hb)
          clear hb
          go_wp2_with fail
          refine (C3 _).out.mono ?_
          rintro e w4 ⟨rfl, hb⟩
          have HB4 := Lib.hid (bnext HB3.out hb)
          clear hb
          go_wp2_with fail
          refine (C4 _).out.mono ?_
          rintro e w5 ⟨rfl, hb⟩
          have HB5 := Lib.hid (bnext HB4.out hb)
          clear hb
          go_wp2_with fail
          refine (V3 _).out.mono ?_
          rintro e w' ⟨rfl, rfl⟩
          go_wp2_with fail
          go_ret
          exact ⟨rfl, HB5.out⟩
    · have C1 := fun w => Lib.hid (implProves_no a t b i z hv w)
      have C2 := fun w => Lib.hid (specProves_no a t b i z hv (Nat.le_trans a1 (by decide)) (Nat.le_trans i1 (by decide)) (Nat.le_trans z1 (by decide)) w)
      by_cases h1 : (IsT t ∧ IsP b) ∧ Set27 a
      · obtain ⟨S, C3⟩ : ∃ S : ByteArray, ∀ w, Hid (Calls Tryz.prog 41 #[.string a, .string t, .string b] w fun e w' => e = .returned (.tuple #[.string S, .bool true]) ∧ Below w.heap.size w w') := by
          obtain ⟨⟨⟨⟨tm, htm, hts⟩, htl⟩, ⟨⟨p, hp, he⟩, hl⟩⟩, ha⟩ := h1
          exact ⟨_, fun w => Lib.hid (implStrong_yes a t b htm hts htl hp he hl ha w)⟩
        by_cases h2 : (IsT t ∧ IsP b) ∧ Set27 z
        · obtain ⟨S4, C4⟩ : ∃ S : ByteArray, ∀ w, Hid (Calls Tryz.prog 35 #[.string t, .string b, .string z] w fun e w' => e = .returned (.tuple #[.string S, .bool true]) ∧ Below w.heap.size w w') := by
            obtain ⟨⟨⟨⟨tm, htm, hts⟩, htl⟩, ⟨⟨p, hp, he⟩, hl⟩⟩, hz⟩ := h2
            exact ⟨_, fun w => Lib.hid (implWeak_yes z t b htm hts htl hp he hl hz w)⟩
          have V3 := fun w => Lib.hid (implPredValid_no i w (fun h => hv ⟨⟨h1.1, h⟩, h1.2, h2.2⟩))
          clear hv h1 h2 a1 t1 b0 i1 z1
          go_wp2_with fail
          refine (C1 _).out.mono ?_
          rintro e w2 ⟨rfl, hb⟩
          have HB2 := Lib.hid (bnext HB1.out hb)
          clear hb
          go_wp2_with fail
          refine (C2 _).out.mono ?_
          rintro e w3 ⟨rfl, hb⟩
          have HB3 := Lib.hid (bnext HB2.out hb)
          clear hb
          go_wp2_with fail
          refine (C3 _).out.mono ?_
          rintro e w4 ⟨rfl, hb⟩
          have HB4 := Lib.hid (bnext HB3.out hb)
          clear hb
          go_wp2_with fail
          refine (C4 _).out.mono ?_
          rintro e w5 ⟨rfl, hb⟩
          have HB5 := Lib.hid (bnext HB4.out hb)
          clear hb
          go_wp2_with fail
          refine (V3 _).out.mono ?_
          rintro e w' ⟨rfl, rfl⟩
          go_wp2_with fail
          go_ret
          exact ⟨rfl, HB5.out⟩
        · have C4 := fun w => Lib.hid (implWeak_no z t b h2 w)
          unfold NoPost at C4
          clear hv h1 h2 a1 t1 b0 i1 z1
          go_wp2_with fail
          refine (C1 _).out.mono ?_
          rintro e w2 ⟨rfl, hb⟩
          have HB2 := Lib.hid (bnext HB1.out hb)
          clear hb
          go_wp2_with fail
          refine (C2 _).out.mono ?_
          rintro e w3 ⟨rfl, hb⟩
          have HB3 := Lib.hid (bnext HB2.out hb)
          clear hb
          go_wp2_with fail
          refine (C3 _).out.mono ?_
          rintro e w4 ⟨rfl, hb⟩
          have HB4 := Lib.hid (bnext HB3.out hb)
          clear hb
          go_wp2_with fail
          refine (C4 _).out.mono ?_
          rintro e w5 ⟨rfl, hb⟩
          have HB5 := Lib.hid (bnext HB4.out hb)
          clear hb
          go_wp2_with fail
          go_ret
          exact ⟨rfl, HB5.out⟩
      · have C3 := fun w => Lib.hid (implStrong_no a t b h1 w)
        unfold NoPost at C3
        by_cases h2 : (IsT t ∧ IsP b) ∧ Set27 z
        · obtain ⟨S4, C4⟩ : ∃ S : ByteArray, ∀ w, Hid (Calls Tryz.prog 35 #[.string t, .string b, .string z] w fun e w' => e = .returned (.tuple #[.string S, .bool true]) ∧ Below w.heap.size w w') := by
            obtain ⟨⟨⟨⟨tm, htm, hts⟩, htl⟩, ⟨⟨p, hp, he⟩, hl⟩⟩, hz⟩ := h2
            exact ⟨_, fun w => Lib.hid (implWeak_yes z t b htm hts htl hp he hl hz w)⟩
          clear hv h1 h2 a1 t1 b0 i1 z1
          go_wp2_with fail
          refine (C1 _).out.mono ?_
          rintro e w2 ⟨rfl, hb⟩
          have HB2 := Lib.hid (bnext HB1.out hb)
          clear hb
          go_wp2_with fail
          refine (C2 _).out.mono ?_
          rintro e w3 ⟨rfl, hb⟩
          have HB3 := Lib.hid (bnext HB2.out hb)
          clear hb
          go_wp2_with fail
          refine (C3 _).out.mono ?_
          rintro e w4 ⟨rfl, hb⟩
          have HB4 := Lib.hid (bnext HB3.out hb)
          clear hb
          go_wp2_with fail
          refine (C4 _).out.mono ?_
          rintro e w5 ⟨rfl, hb⟩
          have HB5 := Lib.hid (bnext HB4.out hb)
          clear hb
          go_wp2_with fail
          go_ret
          exact ⟨rfl, HB5.out⟩
        · have C4 := fun w => Lib.hid (implWeak_no z t b h2 w)
          unfold NoPost at C4
          clear hv h1 h2 a1 t1 b0 i1 z1
          go_wp2_with fail
          refine (C1 _).out.mono ?_
          rintro e w2 ⟨rfl, hb⟩
          have HB2 := Lib.hid (bnext HB1.out hb)
          clear hb
          go_wp2_with fail
          refine (C2 _).out.mono ?_
          rintro e w3 ⟨rfl, hb⟩
          have HB3 := Lib.hid (bnext HB2.out hb)
          clear hb
          go_wp2_with fail
          refine (C3 _).out.mono ?_
          rintro e w4 ⟨rfl, hb⟩
          have HB4 := Lib.hid (bnext HB3.out hb)
          clear hb
          go_wp2_with fail
          refine (C4 _).out.mono ?_
          rintro e w5 ⟨rfl, hb⟩
          have HB5 := Lib.hid (bnext HB4.out hb)
          clear hb
          go_wp2_with fail
          go_ret
          exact ⟨rfl, HB5.out⟩

set_option linter.unusedVariables false in
set_option maxRecDepth 100000 in
theorem liftedInvariants (os : Os) (started : os.Started) (H : Type) (enc : TypeId × Value → H) :
    ReturnsInHanded {} Tryz.checked os 7 .any (Rows.fnInvariantsSpec.pre6 enc Tryz.prog Tryz.f7 Rows.fnInvariantsRow.domain false) (Rows.fnInvariantsSpec.post enc Tryz.prog Tryz.f7 false true false false) := by
  refine returnsInHanded_of_change (C := Tryz.checked) Tryz.own started (by kernel_rfl) Tryz.func7
    (ChangeSpec.witness6 (enc := enc) (C := Tryz.checked) false ⟨#[], #[.slice none 0 0], []⟩ 8 (by kernel_rfl) (by kernel_rfl) (by kernel_rfl) (by kernel_rfl)) ?_
  intro W base args ds gs before hval0 hW hcnd _
  have hval : ∀ (j : Nat) t v, Tryz.f7.params[j]? = some t → args[j]? = some v → Value.okWide Tryz.prog W .any base t v := hval0
  have hW' := hW
  obtain ⟨p, q, hA0, hV, rfl, hfz, hnd⟩ := hW
  have hA : DataW.TrodAll enc Tryz.prog W 0 (fun _ => true) true Tryz.f7.params.toList args.toList ds p := hA0
  rw [Tryz.params7] at hA hval
  obtain ⟨v0, vs0, d0, ds0, p0, q0, hargs, rfl, rfl, h0, r0⟩ := trodAll_cons hA
  obtain ⟨rfl, rfl, rfl⟩ := trodAll_nil r0
  obtain rfl : args = #[v0] := by cases args; simp_all
  obtain ⟨rfl, rfl⟩ := trodVars_none hV
  obtain ⟨a0, len0, cap0, rfl⟩ := okWide_slice Tryz.underlying22 (hval 0 22 v0 rfl rfl)
  have k0 := h0
  have lt0 : ∀ x ∈ p0, x.block < W.heap.size := by obtain ⟨m, hm⟩ := k0; exact DataW.trod_lt m _ _ _ hm
  obtain ⟨z0, w0⟩ : ∃ zs, IsRow W a0 len0 cap0 zs := by
    obtain ⟨fuel, hf⟩ := h0
    rcases open_ints Tryz.underlying22 Tryz.underlying5 (by kernel_rfl) hf with ⟨hcs, _⟩ | ⟨x, l, c, zs, hcs, _, hl, hm, hz, _, hcell, hwz⟩
    · simp [Value.cells] at hcs
      obtain ⟨rfl, rfl, rfl⟩ := hcs
      exact ⟨[], .inl ⟨rfl, rfl, rfl, rfl⟩⟩
    · simp [Value.cells] at hcs
      obtain ⟨rfl, rfl, rfl⟩ := hcs
      exact ⟨zs, .inr ⟨_, rfl, hl, hm, by simpa using hz, hcell, hwz⟩⟩
  clear hA0 hval0
  refine (walkInvariants W w0).mono fun e W' ⟨he, bel⟩ => ?_
  subst he
  exact ⟨_, rfl, _, _, _, [], _, [], hW', trodAll_mk1 (shut_bool Tryz.underlying4 _), (trodAll_cons_mk (Below.trod laidOut (by kernel_rfl) (of_decide_eq_true (by kernel_rfl)) k0 bel lt0) trodAll_mk0), rfl, bel.frame _, fun h => by cases h⟩

theorem invariants_holds : Rows.FnInvariantsSaid :=
  OpenClaim.holds_of_wide 7 Tryz.f7 rfl rfl rfl rfl rfl rfl rfl ⟨rfl, rfl, rfl, rfl, rfl⟩ rfl rfl rfl rfl rfl (by kernel_rfl) Tryz.func7 (by kernel_rfl)
    (of_decide_eq_true (by kernel_rfl)) (by unfold Func.isWrapper; first | (rw [if_pos (by decide +kernel)]; kernel_rfl) | (rw [if_neg (by decide +kernel)]; exact ⟨rfl, rfl⟩))
    (fun os started H enc _ => liftedInvariants os started H enc)

#print axioms invariants_holds
end Go.Proofs.YthmghadepimcnaaGreat
