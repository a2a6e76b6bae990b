/-
  The law of tests of two states is true at all bytes: no condition. The card.
-/
import Derived.Test.YtheclmdpiijakaaDoorCards
import Derived.Test.YtheclmdpiijakaaDoorTie
import Derived.Test.YtheclmdpiijakaaDoorTopE8
import Derived.Test.YtheclmdpiijakaaDoorTopQ8
import Derived.Test.YtheclmdpiijakaaDoorTopX
import Derived.Deep.RegionHeld3
import Derived.ProofKit
import Derived.ChangeOld
import Derived.Deep.DeepHandedRow
import Derived.Lib.SmallJoins
import Derived.ChangeSame
import Derived.JoinedOf
import Derived.JoinedAt
import Derived.RowKit3
import Derived.ShutString
import Derived.OpenShut
import Derived.LaidMore
import Derived.Lay
import Derived.SevenTiedAt
import Derived.Stop.Joined
namespace Go.Proofs.YtheclmdpiijakaaDoor
open Go.ChangeShapes Go.WideShapes Go.ChangeAt Go.RowKit Go.Joins
open Go.WideMaps Go.WideElems Tm
open Go.ChangeMaps (open_string shut_string)

open Go.Lib
/-- The first k bytes changed. -/
def mxf (f : UInt8 → UInt8) (l : List UInt8) (k : Nat) : List UInt8 := (l.take k).map f ++ l.drop k
theorem mxf_len (f : UInt8 → UInt8) (l : List UInt8) (k : Nat) : (mxf f l k).length = l.length := by unfold mxf; simp; omega
theorem mxf_all (f : UInt8 → UInt8) (l : List UInt8) : mxf f l l.length = l.map f := by unfold mxf; simp
theorem mxf_set (f : UInt8 → UInt8) (l : List UInt8) (k : Nat) (hk : k < l.length) : (mxf f l k).set k (f l[k]) = mxf f l (k + 1) := by
  unfold mxf
  rw [List.set_append_right _ _ (by simp; omega)]
  rw [show k - ((l.take k).map f).length = 0 by simp; omega]
  rw [List.drop_eq_getElem_cons hk, List.set_cons_zero, List.take_succ_eq_append_getElem hk, List.map_append, List.append_assoc]
  rfl
theorem mxf_same (f : UInt8 → UInt8) (l : List UInt8) (k : Nat) (hk : k < l.length) (h : f l[k] = l[k]) : mxf f l k = mxf f l (k + 1) := by
  unfold mxf
  rw [List.take_succ_eq_append_getElem hk, List.map_append, List.append_assoc, List.map_cons, h]
  show _ = _ ++ (l[k] :: List.drop (k + 1) l)
  rw [← List.drop_eq_getElem_cons hk]
theorem Cv.other {w : World} {b : Nat} {l : List UInt8} {sp : Array Value} (h : Cv w b l sp) {p : Addr} (hp : b ≠ p.block) (v : Value) : Cv (w.setCell p v) b l sp := by
  unfold Cv at h ⊢
  rw [← h]
  show (w.heap.modify p.block _)[b]? = _
  rw [Array.getElem?_modify, if_neg (fun e => hp e.symm)]
theorem lowc_up {c : UInt8} (h1 : 88 ≤ c.toNat) (h2 : c.toNat ≤ 90) : ((lowc c).toNat : Int) = (c.toNat : Int) + 32 := by
  have e : lowc c = c + 32 := by unfold lowc; rw [if_pos ⟨by rw [UInt8.le_iff_toNat_le]; exact h1, by rw [UInt8.le_iff_toNat_le]; exact h2⟩]
  rw [e, UInt8.toNat_add]
  show (((c.toNat + 32) % 256 : Nat) : Int) = _
  omega
theorem lowc_else {c : UInt8} (h : ¬ (88 ≤ c.toNat ∧ c.toNat ≤ 90)) : lowc c = c := by
  unfold lowc
  rw [if_neg (fun g => h (by have a := UInt8.le_iff_toNat_le.1 g.1; have b := UInt8.le_iff_toNat_le.1 g.2; exact ⟨a, b⟩))]
theorem maplen (f : UInt8 → UInt8) (t : ByteArray) : (bs (t.data.toList.map f)).size = t.size := by
  rw [bs_size, List.length_map]; rfl


set_option maxRecDepth 100000 in
set_option maxHeartbeats 16000000 in
theorem walkEvalWide {a0 : Option Addr} {len0 cap0 : Nat} {z0 : List Int} (w : World) (h0 : IsRow w a0 len0 cap0 z0) :
    Calls Tryd.prog 4 #[.slice a0 len0 cap0] w fun e w' => e = .returned (.bool true) ∧ Below w.heap.size w w' := by
  have D := Lib.hid (dEvalWide h0)
  clear h0
  by_cases hl : (1048576 : Int) < len0
  · go_enter Tryd.func4, Tryd.ntmps4
    go_wp2_with fail
    go_ret
    exact ⟨rfl, Below.refl _ _⟩
  · go_enter Tryd.func4, Tryd.ntmps4
    go_wp2_with fail
    refine D.out.mono ?_
    rintro e w1 ⟨t, x, y, z, X, Y, Z, ht, rfl, hb⟩
    have HB1 := Lib.hid hb
    clear hb D
    by_cases hv : Valid true true t.data.toList ∧ st3 x y z = true ∧ st3 X Y Z = true
    · obtain ⟨hv, hst, hsu⟩ := hv
      have hv' := hv
      obtain ⟨tt, hok, he⟩ := hv
      have hl2 : t.size ≤ 200 := by omega
      have C1 := fun w => Lib.hid (implEvalW_yes t x y z X Y Z w hok he hl2 hst hsu)
      have C2 := fun w => Lib.hid (specEvalW_yes t x y z X Y Z w hok he hl2 hst hsu)
      have C3 := fun w => Lib.hid (implEvalW_yes t x y z x y z w hok he hl2 hst hst)
      have C4 := fun w => Lib.hid (implEvalT_yes (bs (t.data.toList.map lowc)) x y z w (t := reT lowc tt) (ok_map opk_low hok) (by rw [ser_map, ← he]; simp [bs]) (by rw [maplen]; exact hl2) hst)
      have C5 := fun w => Lib.hid (implEvalW_yes (bs (t.data.toList.map (mir true))) X Y Z x y z w (t := reT (mir true) tt) (ok_map opk_mir hok) (by rw [ser_map, ← he]; simp [bs]) (by rw [maplen]; exact hl2) hsu hst)
      rw [tru_low x y z hok] at C4
      rw [tru_mir x y z X Y Z hok] at C5
      generalize tru (two3 x y z X Y Z) tt = b at *
      generalize tru (two3 x y z x y z) tt = c at *
      clear hv' he hok hst hsu hl2
      obtain ⟨u1, u2, ub, uz⟩ := two_blk w1 #[.int .i64 x, .int .i64 y, .int .i64 z] #[.int .i64 X, .int .i64 Y, .int .i64 Z] 32 32
      have hgt : w1.heap.size + 1 < ((w1.alloc (.cells #[.int .i64 x, .int .i64 y, .int .i64 z] 32)).alloc (.cells #[.int .i64 X, .int .i64 Y, .int .i64 Z] 32)).heap.size := u2.lt
      have HB2 := Lib.hid (bnext HB1.out ub)
      have U1 := Lib.hid u1
      have U2 := Lib.hid u2
      obtain ⟨q0, q1, q2⟩ := u1.c3
      obtain ⟨r0, r1, r2⟩ := u2.c3
      clear u1 u2 ub uz
      go_wp2_with fail
      generalize (w1.alloc (.cells #[.int .i64 x, .int .i64 y, .int .i64 z] 32)).alloc (.cells #[.int .i64 X, .int .i64 Y, .int .i64 Z] 32) = w2 at *
      refine (C1 _).out.mono ?_
      rintro e w3 ⟨rfl, hb⟩
      have hgt := Nat.lt_of_lt_of_le hgt hb.size
      replace U1 := Lib.hid (U1.out.kept hb)
      replace U2 := Lib.hid (U2.out.kept hb)
      have HB3 := Lib.hid (bnext HB2.out hb)
      clear hb q0 q1 q2 r0 r1 r2
      obtain ⟨q0, q1, q2⟩ := U1.out.c3
      obtain ⟨r0, r1, r2⟩ := U2.out.c3
      go_wp2_with fail
      refine (C2 _).out.mono ?_
      rintro e w4 ⟨rfl, hb⟩
      have hgt := Nat.lt_of_lt_of_le hgt hb.size
      replace U1 := Lib.hid (U1.out.kept hb)
      replace U2 := Lib.hid (U2.out.kept hb)
      have HB4 := Lib.hid (bnext HB3.out hb)
      clear hb q0 q1 q2 r0 r1 r2
      obtain ⟨q0, q1, q2⟩ := U1.out.c3
      obtain ⟨r0, r1, r2⟩ := U2.out.c3
      have kc1 := Go.Lib.run_convert_string_bytes (P := Tryd.prog) w4 9 22 5 t Tryd.underlying9 Tryd.underlying22 Tryd.underlying5
      have K1 := Cv.new w4 t
      have KB1 := below_bytes w4 5 t
      have hs5 : (bytesWorld w4 5 t).heap.size = w4.heap.size + 1 := by rw [bytesWorld_size]
      generalize grownCap w4 t.size 0 5 = cap1 at *
      generalize bytesWorld w4 5 t = w5 at *
      generalize Array.replicate (cap1 - t.size) (Value.int IntKind.u8 0) = sp1 at *
      have kc2 := Go.Lib.run_convert_string_bytes (P := Tryd.prog) w5 9 22 5 t Tryd.underlying9 Tryd.underlying22 Tryd.underlying5
      have K2 := Cv.new w5 t
      have KB2 := below_bytes w5 5 t
      generalize grownCap w5 t.size 0 5 = cap2 at *
      generalize bytesWorld w5 5 t = w6 at *
      generalize Array.replicate (cap2 - t.size) (Value.int IntKind.u8 0) = sp2 at *
      have HB5 := Lib.hid (bnext (bnext HB4.out KB1) KB2)
      replace U1 := Lib.hid ((U1.out.kept KB1).kept KB2)
      replace U2 := Lib.hid ((U2.out.kept KB1).kept KB2)
      have hbase := HB1.out.size
      have n45 : w4.heap.size ≠ w5.heap.size := by omega
      have n54 : w5.heap.size ≠ w4.heap.size := by omega
      have n14 : w1.heap.size ≠ w4.heap.size := by omega
      have n15 : w1.heap.size ≠ w5.heap.size := by omega
      have m14 : w1.heap.size + 1 ≠ w4.heap.size := by omega
      have m15 : w1.heap.size + 1 ≠ w5.heap.size := by omega
      have b4 : w.heap.size ≤ w4.heap.size := by omega
      have b5 : w.heap.size ≤ w5.heap.size := by omega
      clear hs5
      replace K1 := Lib.hid (K1.kept KB2)
      replace K2 := Lib.hid K2
      have hsz : t.data.toList.length = t.size := rfl
      clear q0 q1 q2 r0 r1 r2 KB1 KB2
      go_wp2_with fail
      clear kc1 kc2
      go_loopw [12, 72, 97] (fun i _ _ wr => ∃ k : Nat, k ≤ t.size ∧ i = .int .i64 k ∧ Hid (Cv wr w4.heap.size (mxf lowc t.data.toList k) sp1) ∧ Hid (Cv wr w5.heap.size (mxf (mir true) t.data.toList k) sp2) ∧ Hid (Blk wr w1.heap.size #[.int .i64 x, .int .i64 y, .int .i64 z] 32) ∧ Hid (Blk wr (w1.heap.size + 1) #[.int .i64 X, .int .i64 Y, .int .i64 Z] 32) ∧ Hid (Below w.heap.size w wr)) (fun i _ _ _ => t.size - (intOf i).toNat)
      case atStart => exact ⟨0, by omega, rfl, K1, K2, U1, U2, HB5⟩
      case round =>
        clear K1 K2 U1 U2
        obtain ⟨k, hk, rfl, R1, R2, V1, V2, RB⟩ := hrel
        by_cases hlt : k < t.size
        · clear C1 C2 C3 C4 C5
          have h0 : (0 : Int) ≤ (k : Int) := by omega
          have h1 : (k : Int) < (t.size : Int) := by omega
          have hl : k < t.data.toList.length := by omega
          have hc : t.data.toList[k] = t[k] := by rfl
          have MS1 := mxf_set lowc t.data.toList k hl
          have MN1 := mxf_same lowc t.data.toList k hl
          have MS2 := mxf_set (mir true) t.data.toList k hl
          have MN2 := mxf_same (mir true) t.data.toList k hl
          rw [hc] at MS1 MN1 MS2 MN2
          replace MS1 := Lib.hid MS1
          replace MN1 := Lib.hid MN1
          replace MS2 := Lib.hid MS2
          replace MN2 := Lib.hid MN2
          obtain ⟨v1, c1⟩ : ∃ v, wr.cell? ⟨w4.heap.size, k, none⟩ = some (.int .u8 v) := ⟨_, R1.out.get k (by rw [mxf_len]; omega)⟩
          have f1 := R1.out.free k (by rw [mxf_len]; omega)
          obtain ⟨v2, c2⟩ : ∃ v, wr.cell? ⟨w5.heap.size, k, none⟩ = some (.int .u8 v) := ⟨_, R2.out.get k (by rw [mxf_len]; omega)⟩
          have f2 := R2.out.free k (by rw [mxf_len]; omega)
          by_cases hA : 88 ≤ t[k].toNat ∧ t[k].toNat ≤ 90
          · have a1 : (88 : Int) ≤ (t[k].toNat : Int) := by omega
            have a2 : (t[k].toNat : Int) ≤ 90 := by omega
            have S1 := R1.out.set k (by rw [mxf_len]; omega) (lowc t[k])
            rw [MS1.out, lowc_up hA.1 hA.2] at S1
            replace R1 := Lib.hid S1
            replace R2 := Lib.hid (R2.out.other (p := ⟨w4.heap.size, k, none⟩) (by first | exact n45 | exact n54 | exact n14 | exact n15 | exact m14 | exact m15) (.int .u8 ((t[k].toNat : Int) + 32)))
            replace V1 := Lib.hid (V1.out.setOther (p := ⟨w4.heap.size, k, none⟩) (by first | exact n45 | exact n54 | exact n14 | exact n15 | exact m14 | exact m15) (.int .u8 ((t[k].toNat : Int) + 32)))
            replace V2 := Lib.hid (V2.out.setOther (p := ⟨w4.heap.size, k, none⟩) (by first | exact n45 | exact n54 | exact n14 | exact n15 | exact m14 | exact m15) (.int .u8 ((t[k].toNat : Int) + 32)))
            replace RB := Lib.hid (RB.out.setCell (p := ⟨w4.heap.size, k, none⟩) (by first | exact b4 | exact b5) (.int .u8 ((t[k].toNat : Int) + 32)))
            obtain ⟨v3, c3⟩ : ∃ v, (wr.setCell ⟨w4.heap.size, k, none⟩ (.int .u8 ((t[k].toNat : Int) + 32))).cell? ⟨w5.heap.size, k, none⟩ = some (.int .u8 v) := ⟨_, R2.out.get k (by rw [mxf_len]; omega)⟩
            have f3 := R2.out.free k (by rw [mxf_len]; omega)
            have S2 := R2.out.set k (by rw [mxf_len]; omega) (mir true t[k])
            rw [MS2.out, mir_up hA.1 hA.2] at S2
            replace R2 := Lib.hid S2
            replace R1 := Lib.hid (R1.out.other (p := ⟨w5.heap.size, k, none⟩) (by first | exact n45 | exact n54 | exact n14 | exact n15 | exact m14 | exact m15) (.int .u8 ((t[k].toNat : Int) + 32)))
            replace V1 := Lib.hid (V1.out.setOther (p := ⟨w5.heap.size, k, none⟩) (by first | exact n45 | exact n54 | exact n14 | exact n15 | exact m14 | exact m15) (.int .u8 ((t[k].toNat : Int) + 32)))
            replace V2 := Lib.hid (V2.out.setOther (p := ⟨w5.heap.size, k, none⟩) (by first | exact n45 | exact n54 | exact n14 | exact n15 | exact m14 | exact m15) (.int .u8 ((t[k].toNat : Int) + 32)))
            replace RB := Lib.hid (RB.out.setCell (p := ⟨w5.heap.size, k, none⟩) (by first | exact b4 | exact b5) (.int .u8 ((t[k].toNat : Int) + 32)))
            clear hA hc S1 S2 MS1 MN1 MS2 MN2
            go_wp2_with fail
            exact ⟨⟨k + 1, by omega, by go_num, R1, R2, V1, V2, RB⟩, by simp [intOf]; omega⟩
          · replace MN1 := Lib.hid (MN1.out (lowc_else hA))
            have R1' := R1.out
            rw [MN1.out] at R1'
            replace R1 := Lib.hid R1'
            by_cases hB : 120 ≤ t[k].toNat ∧ t[k].toNat ≤ 122
            · have a1 : (88 : Int) ≤ (t[k].toNat : Int) := by omega
              have a2 : ¬ (t[k].toNat : Int) ≤ 90 := by omega
              have a3 : (120 : Int) ≤ (t[k].toNat : Int) := by omega
              have a4 : (t[k].toNat : Int) ≤ 122 := by omega
              have S2 := R2.out.set k (by rw [mxf_len]; omega) (mir true t[k])
              rw [MS2.out, mir_low hB.1 hB.2] at S2
              replace R2 := Lib.hid S2
              replace R1 := Lib.hid (R1.out.other (p := ⟨w5.heap.size, k, none⟩) (by first | exact n45 | exact n54 | exact n14 | exact n15 | exact m14 | exact m15) (.int .u8 ((t[k].toNat : Int) - 32)))
              replace V1 := Lib.hid (V1.out.setOther (p := ⟨w5.heap.size, k, none⟩) (by first | exact n45 | exact n54 | exact n14 | exact n15 | exact m14 | exact m15) (.int .u8 ((t[k].toNat : Int) - 32)))
              replace V2 := Lib.hid (V2.out.setOther (p := ⟨w5.heap.size, k, none⟩) (by first | exact n45 | exact n54 | exact n14 | exact n15 | exact m14 | exact m15) (.int .u8 ((t[k].toNat : Int) - 32)))
              replace RB := Lib.hid (RB.out.setCell (p := ⟨w5.heap.size, k, none⟩) (by first | exact b4 | exact b5) (.int .u8 ((t[k].toNat : Int) - 32)))
              clear hA hB hc S2 R1' MS1 MN1 MS2 MN2
              go_wp2_with fail
              exact ⟨⟨k + 1, by omega, by go_num, R1, R2, V1, V2, RB⟩, by simp [intOf]; omega⟩
            · replace MN2 := Lib.hid (MN2.out (mir_else hB (fun h => hA ⟨h.1, h.2.1⟩)))
              have R2' := R2.out
              rw [MN2.out] at R2'
              replace R2 := Lib.hid R2'
              clear c1 f1 c2 f2 R1' R2' MS1 MN1 MS2 MN2 hc
              by_cases h88 : 88 ≤ t[k].toNat
              · have a1 : (88 : Int) ≤ (t[k].toNat : Int) := by omega
                have a2 : ¬ (t[k].toNat : Int) ≤ 90 := by omega
                by_cases h120 : 120 ≤ t[k].toNat
                · have a3 : (120 : Int) ≤ (t[k].toNat : Int) := by omega
                  have a4 : ¬ (t[k].toNat : Int) ≤ 122 := by omega
                  clear hA hB h88 h120
                  go_wp2_with fail
                  exact ⟨⟨k + 1, by omega, by go_num, R1, R2, V1, V2, RB⟩, by simp [intOf]; omega⟩
                · have a3 : ¬ (120 : Int) ≤ (t[k].toNat : Int) := by omega
                  clear hA hB h88 h120
                  go_wp2_with fail
                  exact ⟨⟨k + 1, by omega, by go_num, R1, R2, V1, V2, RB⟩, by simp [intOf]; omega⟩
              · have a1 : ¬ (88 : Int) ≤ (t[k].toNat : Int) := by omega
                have a3 : ¬ (120 : Int) ≤ (t[k].toNat : Int) := by omega
                clear hA hB h88
                go_wp2_with fail
                exact ⟨⟨k + 1, by omega, by go_num, R1, R2, V1, V2, RB⟩, by simp [intOf]; omega⟩
        · have hk2 : k = t.size := by omega
          subst hk2
          have hnl : ¬ (t.size : Int) < (t.size : Int) := by omega
          have E1 := R1.out
          rw [show mxf lowc t.data.toList t.size = t.data.toList.map lowc by rw [← hsz, mxf_all]] at E1
          have E2 := R2.out
          rw [show mxf (mir true) t.data.toList t.size = t.data.toList.map (mir true) by rw [← hsz, mxf_all]] at E2
          replace E1 := Lib.hid E1
          replace E2 := Lib.hid E2
          obtain ⟨q0, q1, q2⟩ := V1.out.c3
          clear R1 R2 hbase hgt
          go_wp2_with fail
          refine (C3 _).out.mono ?_
          rintro e w7 ⟨rfl, hb⟩
          have G1 := (E1.out.kept hb).str t.size cap1 (by rw [List.length_map]; exact hsz.symm)
          replace E2 := Lib.hid (E2.out.kept hb)
          replace V2 := Lib.hid (V2.out.kept hb)
          replace V1 := Lib.hid (V1.out.kept hb)
          replace RB := Lib.hid (bnext RB.out hb)
          clear hb q0 q1 q2
          obtain ⟨q0, q1, q2⟩ := V1.out.c3
          go_wp2_with fail
          refine (C4 _).out.mono ?_
          rintro e w8 ⟨rfl, hb⟩
          have G2 := (E2.out.kept hb).str t.size cap2 (by rw [List.length_map]; exact hsz.symm)
          replace V2 := Lib.hid (V2.out.kept hb)
          replace V1 := Lib.hid (V1.out.kept hb)
          replace RB := Lib.hid (bnext RB.out hb)
          clear hb q0 q1 q2 G1
          obtain ⟨q0, q1, q2⟩ := V1.out.c3
          obtain ⟨r0, r1, r2⟩ := V2.out.c3
          go_wp2_with fail
          refine (C5 _).out.mono ?_
          rintro e w9 ⟨rfl, hb⟩
          replace RB := Lib.hid (bnext RB.out hb)
          clear hb q0 q1 q2 r0 r1 r2 G2 E1 E2 V1 V2
          cases b <;> cases c
          all_goals
            go_wp2_with fail
            go_ret
            exact ⟨rfl, RB.out⟩
    · have NB : ∀ w, Hid (Calls Tryd.prog 13 #[.string t, .agg #[.int .i64 x, .int .i64 y, .int .i64 z], .agg #[.int .i64 X, .int .i64 Y, .int .i64 Z]] w fun e w' => e = .returned (.tuple #[.bool false, .bool false]) ∧ Below w.heap.size w w') ∧ Hid (Calls Tryd.prog 18 #[.string t, .agg #[.int .i64 x, .int .i64 y, .int .i64 z], .agg #[.int .i64 X, .int .i64 Y, .int .i64 Z]] w fun e w' => e = .returned (.tuple #[.bool false, .bool false]) ∧ Below w.heap.size w w') := by
        intro w
        by_cases hw : Valid true true t.data.toList ∧ t.size ≤ 200
        · obtain ⟨⟨tt, hok, he⟩, hl2⟩ := id hw
          cases hst : st3 x y z
          · exact ⟨Lib.hid (implEvalW_sa t x y z X Y Z w hok he hl2 hst), Lib.hid (specEvalW_sa t x y z X Y Z w hok he hl2 hst)⟩
          · cases hsu : st3 X Y Z
            · exact ⟨Lib.hid (implEvalW_sb t x y z X Y Z w hok he hl2 hst hsu), Lib.hid (specEvalW_sb t x y z X Y Z w hok he hl2 hst hsu)⟩
            · exact absurd ⟨hw.1, hst, hsu⟩ hv
        · exact ⟨Lib.hid (implEvalW_no t x y z X Y Z w hw), Lib.hid (specEvalW_no t x y z X Y Z w hw)⟩
      have C1 := fun w => (NB w).1
      have C2 := fun w => (NB w).2
      clear NB hv ht
      obtain ⟨u1, u2, ub, uz⟩ := two_blk w1 #[.int .i64 x, .int .i64 y, .int .i64 z] #[.int .i64 X, .int .i64 Y, .int .i64 Z] 32 32
      have hgt : w1.heap.size + 1 < ((w1.alloc (.cells #[.int .i64 x, .int .i64 y, .int .i64 z] 32)).alloc (.cells #[.int .i64 X, .int .i64 Y, .int .i64 Z] 32)).heap.size := u2.lt
      have HB2 := Lib.hid (bnext HB1.out ub)
      have U1 := Lib.hid u1
      have U2 := Lib.hid u2
      obtain ⟨q0, q1, q2⟩ := u1.c3
      obtain ⟨r0, r1, r2⟩ := u2.c3
      clear u1 u2 ub uz
      go_wp2_with fail
      generalize (w1.alloc (.cells #[.int .i64 x, .int .i64 y, .int .i64 z] 32)).alloc (.cells #[.int .i64 X, .int .i64 Y, .int .i64 Z] 32) = w2 at *
      refine (C1 _).out.mono ?_
      rintro e w3 ⟨rfl, hb⟩
      have hgt := Nat.lt_of_lt_of_le hgt hb.size
      replace U1 := Lib.hid (U1.out.kept hb)
      replace U2 := Lib.hid (U2.out.kept hb)
      have HB3 := Lib.hid (bnext HB2.out hb)
      clear hb q0 q1 q2 r0 r1 r2
      obtain ⟨q0, q1, q2⟩ := U1.out.c3
      obtain ⟨r0, r1, r2⟩ := U2.out.c3
      go_wp2_with fail
      refine (C2 _).out.mono ?_
      rintro e w4 ⟨rfl, hb⟩
      replace U1 := Lib.hid (U1.out.kept hb)
      replace U2 := Lib.hid (U2.out.kept hb)
      have HB4 := Lib.hid (bnext HB3.out hb)
      clear hb q0 q1 q2 r0 r1 r2
      go_wp2_with fail
      go_ret
      exact ⟨rfl, HB4.out⟩

theorem Tryd.own : ownKnob Tryd.prog.godebug = none := by kernel_rfl
theorem laidOut : laidOutB Tryd.prog = true := by kernel_rfl

set_option linter.unusedVariables false in
set_option maxRecDepth 100000 in
set_option maxHeartbeats 2000000 in
theorem lifted (os : Os) (started : os.Started) (H : Type) (enc : TypeId × Value → H) :
    ReturnsInHanded {} Tryd.checked os 4 .any (fun w args => (Rows.fnEvalWideSpec.pre enc Tryd.prog Tryd.f4 Rows.fnEvalWideRow.domain false w args ∧ laidMetH Tryd.prog Rows.fnEvalWideRow.laid w) ∧ sizedMet enc Tryd.prog Tryd.f4 (OpenSpec.ofChange Rows.fnEvalWideSpec) false w args)
      (Rows.fnEvalWideSpec.post enc Tryd.prog Tryd.f4 false true false false) := by
  refine returnsInHanded_of_change_and (C := Tryd.checked) (X := fun w _ => laidMetH Tryd.prog Rows.fnEvalWideRow.laid w) (fun _ _ _ hh h => h.of_heap hh) Tryd.own started (by kernel_rfl) Tryd.func4
    (ChangeSpec.witness_shaped (enc := enc) (C := Tryd.checked) (os := os) (X := fun w _ => laidMetH Tryd.prog Rows.fnEvalWideRow.laid w) false (World.laidAll Tryd.prog os Rows.fnEvalWideRow.laid) #[.slice none 0 0] 8 (World.laidAll_os _ _ _)
      (World.shaped_of_ZipB (by kernel_rfl) (by kernel_rfl)) (by kernel_rfl) (by kernel_rfl) (by kernel_rfl)
      (by rw [MakeChecks.laidMetH_plain _ _ _ (by kernel_rfl)]; exact laidMet_laidAll _ (by kernel_rfl) (by kernel_rfl))) ?_
  intro W base args ds gs before hval0 hW _ _ hL _
  have hval : ∀ (j : Nat) t v, Tryd.f4.params[j]? = some t → args[j]? = some v → Value.okWide Tryd.prog W .any base t v := hval0
  have hW' := hW
  obtain ⟨p, q, hA0, hV, rfl, _, _⟩ := hW
  have hA : DataW.TrodAll enc Tryd.prog W 0 (fun _ => true) true Tryd.f4.params.toList args.toList ds p := hA0
  rw [Tryd.params4] at hA hval
  obtain ⟨v0, vs0, d0, ds0, p0, q0, hargs, rfl, rfl, h0, r0⟩ := trodAll_cons hA
  obtain ⟨rfl, rfl, rfl⟩ := trodAll_nil r0
  obtain rfl : args = #[v0] := by cases args; simp_all
  obtain ⟨rfl, rfl⟩ := trodVars_none hV
  obtain ⟨a0, len0, cap0, rfl⟩ := okWide_slice Tryd.underlying22 (hval 0 22 v0 rfl rfl)
  have k0 := h0
  have lt0 : ∀ x ∈ p0, x.block < W.heap.size := by obtain ⟨m, hm⟩ := k0; exact DataW.trod_lt m _ _ _ hm
  obtain ⟨z0, w0⟩ : ∃ zs, IsRow W a0 len0 cap0 zs := by
    obtain ⟨fuel, hf⟩ := h0
    rcases open_ints Tryd.underlying22 Tryd.underlying5 (by kernel_rfl) hf with ⟨hcs, _⟩ | ⟨x, l, c, zs, hcs, _, hl, hm, hz, _, hcell, hwz⟩
    · simp [Value.cells] at hcs
      obtain ⟨rfl, rfl, rfl⟩ := hcs
      exact ⟨[], .inl ⟨rfl, rfl, rfl, rfl⟩⟩
    · simp [Value.cells] at hcs
      obtain ⟨rfl, rfl, rfl⟩ := hcs
      exact ⟨zs, .inr ⟨_, rfl, hl, hm, by simpa using hz, hcell, hwz⟩⟩
  clear hA0 hval0
  refine (walkEvalWide W w0).mono fun e W' ⟨he, bel⟩ => ?_
  subst he
  exact ⟨_, rfl, _, _, _, [], _, [], hW', trodAll_mk1 (shut_bool Tryd.underlying4 _), (trodAll_cons_mk (Below.trod laidOut (by kernel_rfl) (of_decide_eq_true (by kernel_rfl)) k0 bel lt0) trodAll_mk0), rfl, bel.frame _, fun h => by cases h⟩

-- each of the three walks over the program by itself: together they are too much for the kernel's memory
theorem jf1 : (Rows.fnEvalWideRow.inPlace == Tryd.prog.inPlace 4) = true := by kernel_rfl
theorem jf2 : (Rows.fnEvalWideRow.unfollowed == Tryd.prog.unfollowed 4) = true := by kernel_rfl
theorem jf3 : (Rows.fnEvalWideRow.recurses == Tryd.prog.recurses 4) = true := by kernel_rfl
theorem closed : joinedFacts Tryd.prog 4 Tryd.f4 Rows.fnEvalWideSpec Rows.fnEvalWideRow = true := by
  unfold joinedFacts
  rw [jf1, jf2, jf3]
  kernel_rfl

theorem said : Rows.FnEvalWideSaid :=
  OpenClaim.holds_of_wide 4 Tryd.f4 rfl rfl rfl rfl rfl rfl rfl ⟨rfl, rfl, rfl, rfl, rfl⟩ rfl rfl rfl rfl rfl (by kernel_rfl) Tryd.func4 closed
    (of_decide_eq_true (by kernel_rfl)) (by unfold Func.isWrapper; first | (rw [if_pos (by decide +kernel)]; kernel_rfl) | (rw [if_neg (by decide +kernel)]; exact ⟨rfl, rfl⟩))
    (fun os started H enc _ => by rw [OpenClaim.pre_eq_preRow]; exact lifted os started H enc)

theorem plain (f : FuncId) (fn : Func) (hf : Tryd.pinned.checked.prog.funcNamed Rows.fnEvalWideRow.func = some f) (hfn : Tryd.pinned.checked.prog.funcs[f]? = some fn) :
    true = Tryd.pinned.checked.prog.looks [] ∧ ∀ (j : Nat) t, fn.params[j]? = some t → Tryd.pinned.checked.prog.wantsStandIn t = false := by
  obtain rfl : f = 4 := Option.some.inj ((show Tryd.prog.funcNamed Rows.fnEvalWideRow.func = some 4 by kernel_rfl).symm.trans hf) |>.symm
  obtain rfl : fn = Tryd.f4 := (Option.some.inj (Tryd.func4.symm.trans hfn)).symm
  refine ⟨by kernel_rfl, fun j t ht => ?_⟩
  rw [Tryd.params4] at ht
  obtain rfl : t = 22 := by
    have := Array.mem_of_getElem? ht
    simpa using this
  exact (show Tryd.prog.wantsStandIn 22 = false by kernel_rfl)

theorem evalWide_card : Rows.FnEvalWideCardSaid :=
  Claim7.holds_tied_plain_at .later [] _ _ _ _ said (fun _ h => by cases h) (by kernel_rfl) (fun _ h => by cases h) fnEvalWide_row_tie rfl ⟨rfl, rfl⟩ (by kernel_rfl) rfl plain (by kernel_rfl)

#print axioms evalWide_card
end Go.Proofs.YtheclmdpiijakaaDoor
