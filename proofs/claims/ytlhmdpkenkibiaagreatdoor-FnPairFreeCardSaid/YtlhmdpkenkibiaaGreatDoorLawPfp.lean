import Derived.Test.YtlhmdpkenkibiaaGreatDoorCards
import Derived.Test.YtlhmdpkenkibiaaGreatDoorTie
import Derived.Test.YtlhmdpkenkibiaaGreatDoorPpf
import Derived.Test.YtlhmdpkenkibiaaGreatDoorPpr
import Derived.Test.YtlhmdpkenkibiaaGreatDoorEit
import Derived.Test.YtlhmdpkenkibiaaGreatDoorPpc
import Derived.Test.YtlhmdpkenkibiaaGreatDoorTopG2
import Derived.Deep.RegionHeld3
import Derived.ProofKit
import Derived.ChangeOld
import Derived.Deep.DeepHandedRow
import Derived.Lib.SmallJoins
import Derived.ChangeSame
import Derived.JoinedOf
import Derived.JoinedAt
import Derived.RowKit3
import Derived.ShutString
import Derived.OpenShut
import Derived.LaidMore
import Derived.Lay
import Derived.SevenTiedAt
import Derived.Stop.Joined
namespace Go.Proofs.YtlhmdpkenkibiaaGreatDoor
open Go.ChangeShapes Go.WideShapes Go.ChangeAt Go.RowKit Go.Joins
open Go.WideMaps Go.WideElems Tm
open Go.ChangeMaps (open_string shut_string)
open Go.Great
theorem frR_congr8 {p q : Pg} {A B : Nat → Nat → Bool} (h : ∀ i, i < 27 → ∀ j, j < 27 → A i j = B i j) (i j : Nat) : frR p q A i j = frR p q B i j := by
 rw [Bool.eq_iff_iff, frR_iff, frR_iff]
 exact ⟨fun k a ha c hc hr => (h a ha c hc) ▸ k a ha c hc hr, fun k a ha c hc hr => (h a ha c hc).symm ▸ k a ha c hc hr⟩
theorem fr_in (p q : Pg) (F : Nat → Nat → Bool) (i j : Nat) : inR (fun a c => rT p i a && rT q j c) F = frR p q F i j := by
 rw [Bool.eq_iff_iff, inR_iff, frR_iff]
theorem po_in (p q : Pg) (E F : Nat → Nat → Bool) : inR (poR p q E) F = inR E (frR p q F) := by
 rw [Bool.eq_iff_iff, inR_iff, inR_iff]
 constructor
 ·intro h i hi j hj he
  exact frR_iff.2 fun a ha c hc hr => h a ha c hc (poR_iff.2 ⟨i, hi, j, hj, he, hr⟩)
 ·intro h a ha c hc hp
  obtain ⟨i, hi, j, hj, he, hr⟩ := poR_iff.1 hp
  exact frR_iff.1 (h i hi j hj he) a ha c hc hr
theorem rel_max9 (F : Nat → Nat → Bool) : (bs (relT F)).size ≤ maxLen := by rw [(rel729_bs F).size]; decide
theorem pf_at (p q : Pg) (F : Nat → Nat → Bool) (hp : p.ok false) (lp : p.ser.length ≤ 200) (hq : q.ok false) (lq : q.ser.length ≤ 200) : Gives 29 #[.string (bs p.ser), .string (bs q.ser), .string (bs (relT F))] (.tuple #[.string (bs (relT (frR p q F))), .bool true]) := fun w => by
 have h := implPf_yes (bs p.ser) (bs q.ser) (bs (relT F)) w hp (by simp [bs]) (by rw [bs_size]; exact lp) hq (by simp [bs]) (by rw [bs_size]; exact lq) (rel729_bs F)
 have e : relT (frR p q (relS (bs (relT F)).data.toList)) = relT (frR p q F) := relT_congr fun a _ c _ => frR_congr8 (fun i hi j hj => relS_bs F hi hj) a c
 unfold pfOut at h
 rw [e] at h
 exact Lib.hid h
theorem pfs_at (p q : Pg) (F : Nat → Nat → Bool) (hp : p.ok false) (lp : p.ser.length ≤ 200) (hq : q.ok false) (lq : q.ser.length ≤ 200) : Gives 30 #[.string (bs p.ser), .string (bs q.ser), .string (bs (relT F))] (.tuple #[.string (bs (relT (frR p q F))), .bool true]) := fun w => by
 obtain ⟨b, hb, hc⟩ := ready_any (bs p.ser) (bs q.ser) (bs (relT F)) (rel_max9 F)
 obtain rfl := hb.2 ⟨⟨⟨p, hp, by simp [bs]⟩, by rw [bs_size]; exact lp⟩, ⟨⟨q, hq, by simp [bs]⟩, by rw [bs_size]; exact lq⟩, rel729_bs F⟩
 have h := specPf_yes p q (bs (relT F)) w hp lp hq lq (rel729_bs F) hc
 have e : relT (frR p q (relS (bs (relT F)).data.toList)) = relT (frR p q F) := relT_congr fun a _ c _ => frR_congr8 (fun i hi j hj => relS_bs F hi hj) a c
 unfold pfOut at h
 rw [e] at h
 exact Lib.hid h
set_option maxHeartbeats 4000000 in
theorem drawNotRel8 {a : Option Addr} {len cap : Nat} {zs : List Int} {w : World} (h : IsRow w a len cap zs) :
  Calls Tryz.prog 31 #[.slice a len cap] w fun e w' => ∃ s : ByteArray, s.size ≤ 730 ∧ e = .returned (.string s) ∧ Below w.heap.size w w' := by
 have HO := Lib.hid (open_any h)
 clear h
 go_enter Tryz.func31, Tryz.ntmps31
 go_wp2_with fail
 refine HO.out.mono ?_
 rintro e w1 ⟨rfl, hr, hb⟩
 have HW1 := Lib.hid hb
 have HC := Lib.hid (open6_any hr (by omega))
 clear hr hb
 go_wp2_with fail
 refine HC.out.mono ?_
 rintro e w2 ⟨s, q, s1, s2, hq, rfl, hr, hk⟩
 have HW2 := Lib.hid (HW1.out.trans (hk.below (Nat.le_refl _) HW1.out.size))
 clear hr hk
 go_wp2_with fail
 go_ret
 exact ⟨s, by omega, rfl, HW2.out⟩
theorem pfl_facts (s t y : ByteArray) (h : PV s ∧ PV t ∧ Rel729 y) : ∃ (p q : Pg) (F : Nat → Nat → Bool) (m : ByteArray), y = bs (relT F) ∧ m = bs (relT (frR p q F)) ∧
  (∀ k : Nat, k < 27 → ∀ w, Hid (Calls Tryz.prog 38 #[.string s, .agg #[.int .i64 (ax k), .int .i64 (ay k), .int .i64 (az k)]] w fun e w' => e = .returned (.string (bs (tb (rT p k)))) ∧ Below w.heap.size w w')) ∧
  (∀ k : Nat, k < 27 → ∀ w, Hid (Calls Tryz.prog 38 #[.string t, .agg #[.int .i64 (ax k), .int .i64 (ay k), .int .i64 (az k)]] w fun e w' => e = .returned (.string (bs (tb (rT q k)))) ∧ Below w.heap.size w w')) ∧
  Gives 29 #[.string s, .string t, .string y] (.tuple #[.string m, .bool true]) ∧ Gives 30 #[.string s, .string t, .string y] (.tuple #[.string m, .bool true]) ∧
  (∀ x, Rel729 x → ∃ (b : Bool) (r : ByteArray), Gives 33 #[.string x, .string m] (.bool b) ∧ Gives 34 #[.string x, .string s, .string t] (.string r) ∧ Gives 33 #[.string r, .string y] (.bool b)) := by
 obtain ⟨⟨⟨p, hp, hs⟩, hl⟩, ⟨⟨q, hq, ht⟩, hn⟩, hr⟩ := h
 obtain rfl := bs_ofP hs
 obtain rfl := bs_ofP ht
 have lp : p.ser.length ≤ 200 := by rwa [bs_size] at hl
 have lq : q.ser.length ≤ 200 := by rwa [bs_size] at hn
 have ex := rel_bs hr
 generalize relS y.data.toList = F at ex
 subst ex
 refine ⟨p, q, F, _, rfl, rfl, fun k hk w => Lib.hid (fin_at p hp lp k hk w), fun k hk w => Lib.hid (fin_at q hq lq k hk w), pf_at p q F hp lp hq lq, pfs_at p q F hp lp hq lq, fun x hx => ?_⟩
 have ey := rel_bs hx
 generalize relS x.data.toList = E at ey
 subst ey
 have h := iWithin (poR p q E) F
 rw [po_in] at h
 exact ⟨_, _, iWithin E (frR p q F), ppPairPost_of (pp_at p q E hp lp hq lq), h⟩
set_option maxRecDepth 100000 in
set_option maxHeartbeats 16000000 in
theorem walkPairFree {a0 : Option Addr} {len0 cap0 : Nat} {z0 : List Int} {a1 : Option Addr} {len1 cap1 : Nat} {z1 : List Int} (w : World) (h0 : IsRow w a0 len0 cap0 z0) (h1 : IsRow w a1 len1 cap1 z1) :
  Calls Tryz.prog 9 #[.slice a0 len0 cap0, .slice a1 len1 cap1] w fun e w' => e = .returned (.bool true) ∧ Below w.heap.size w w' := by
 have DD := Lib.hid (drawPairFree h0)
 have DM := fun w' (hb : Below w.heap.size w w') => Lib.hid (drawNotRel8 (h1.kept6 hb))
 clear h0 h1
 by_cases hl : (1048576 : Int) < len0
 ·go_enter Tryz.func9, Tryz.ntmps9
  go_wp2_with fail
  go_ret
  exact ⟨rfl, Below.refl _ _⟩
 by_cases hl2 : (1048576 : Int) < len1
 ·go_enter Tryz.func9, Tryz.ntmps9
  go_wp2_with fail
  go_ret
  exact ⟨rfl, Below.refl _ _⟩
 go_enter Tryz.func9, Tryz.ntmps9
 go_wp2_with fail
 refine DD.out.mono ?_
 rintro e w1 ⟨s, t, y, ls, lt, ly, rfl, hb⟩
 have HB := Lib.hid hb
 clear hb DD
 by_cases h : PV s ∧ PV t ∧ Rel729 y
 ·obtain ⟨p, q, F, m, rfl, rfl, fa, fb, c1, c2, hx⟩ := pfl_facts s t y h
  have FA := Lib.hid fa
  have FB := Lib.hid fb
  have HX := Lib.hid hx
  clear h fa fb hx
  unfold Gives at c1 c2
  have CH := fun i j hi hj w => Lib.hid (hasp_at8 (frR p q F) i j hi hj w)
  have CP := fun A B w => Lib.hid (pairs_any A B w)
  have CW := fun i j => iWithin (fun a c => rT p i a && rT q j c) F
  unfold Gives at CW
  replace CH := Lib.hid CH
  replace CP := Lib.hid CP
  have CW2 : Hid (∀ i j w, Hid (Calls Tryz.prog 33 #[.string (bs (relT (fun a c => rT p i a && rT q j c))), .string (bs (relT F))] w fun e w' => e = .returned (.bool (frR p q F i j)) ∧ Below w.heap.size w w')) := fun i j w => by
   have := CW i j w
   rwa [fr_in] at this
  clear CW
  generalize frR p q F = G at *
  generalize bs (relT G) = m at *
  generalize bs (relT F) = y at *
  go_wp2_with fail
  refine (c1 _).out.mono ?_
  rintro e w2 ⟨rfl, hb⟩
  replace HB := Lib.hid (bnext HB.out hb)
  clear hb
  go_wp2_with fail
  refine (c2 _).out.mono ?_
  rintro e w2 ⟨rfl, hb⟩
  replace HB := Lib.hid (bnext HB.out hb)
  clear hb
  have M := DM _ HB.out
  go_wp2_with fail
  refine M.out.mono ?_
  rintro e w3 ⟨x, lx, rfl, hb⟩
  replace HB := Lib.hid (bnext HB.out hb)
  clear hb M DM
  by_cases hx : Rel729 x
  ·obtain ⟨b, r, d1, d2, d3⟩ := HX.out x hx
   have V := fun w => Lib.hid (by have h := implRelValid_yes x hx w; unfold BoolIs at h; exact h)
   clear HX hx
   unfold Gives at d1 d2 d3
   cases b
   all_goals
    go_wp2_with fail
    refine (V _).out.mono ?_
    rintro e w2 ⟨rfl, hb⟩
    replace HB := Lib.hid (bnext HB.out hb)
    clear hb
    go_wp2_with fail
    refine (d1 _).out.mono ?_
    rintro e w2 ⟨rfl, hb⟩
    replace HB := Lib.hid (bnext HB.out hb)
    clear hb
    go_wp2_with fail
    refine (d2 _).out.mono ?_
    rintro e w2 ⟨rfl, hb⟩
    replace HB := Lib.hid (bnext HB.out hb)
    clear hb
    go_wp2_with fail
    refine (d3 _).out.mono ?_
    rintro e w2 ⟨rfl, hb⟩
    replace HB := Lib.hid (bnext HB.out hb)
    clear hb d1 d2 d3 V c1 c2
    have CS := fun w => Lib.hid (states_any w)
    go_wp2_with fail
    refine (CS _).out.mono ?_
    rintro e w4 ⟨g, cap, hcap, hg, rfl, hs, hb⟩
    have HS := Lib.hid hs
    replace HB := Lib.hid (bnext HB.out hb)
    clear hb hs CS
    go_wp2_with fail
    go_loopw [14, 15, 16] (fun nv _ _ wr => ∃ n : Nat, n ≤ 40 ∧ nv = .int .i64 n ∧ Hid (Below w.heap.size w wr) ∧ Hid (Sts wr g)) (fun nv _ _ _ => 40 - (intOf nv).toNat)
    case atStart => exact ⟨0, by omega, rfl, HB, HS⟩
    case round =>
     clear HB HS
     obtain ⟨n, hn, rfl, HBn, HSn⟩ := hrel
     by_cases hlt : n < 40
     ·obtain ⟨i, hi, ei⟩ : ∃ i : Nat, i < 27 ∧ i = (n * 5 + len1) % 27 := ⟨_, Nat.mod_lt _ (by omega), rfl⟩
      obtain ⟨j, hj, ej⟩ : ∃ j : Nat, j < 27 ∧ j = (n * 11 + 2) % 27 := ⟨_, Nat.mod_lt _ (by omega), rfl⟩
      have e1 : IntKind.i64.wrap ((n : Int) * 5) = (n : Int) * 5 := IntWalk.i64_in _ (by omega)
      have e2 : IntKind.i64.wrap ((n : Int) * 5 + (len1 : Int)) = (n : Int) * 5 + (len1 : Int) := IntWalk.i64_in _ (by omega)
      have e3 : ((n : Int) * 5 + (len1 : Int)).tmod 27 = (i : Int) := by rw [Int.tmod_eq_emod_of_nonneg (by omega)]; omega
      have e4 : IntKind.i64.wrap ((n : Int) * 11) = (n : Int) * 11 := IntWalk.i64_in _ (by omega)
      have e5 : IntKind.i64.wrap ((n : Int) * 11 + 2) = (n : Int) * 11 + 2 := IntWalk.i64_in _ (by omega)
      have e6 : ((n : Int) * 11 + 2).tmod 27 = (j : Int) := by rw [Int.tmod_eq_emod_of_nonneg (by omega)]; omega
      have hi0 : (0 : Int) ≤ (i : Int) := by omega
      have hi1 : (i : Int) < 27 := by omega
      have hj0 : (0 : Int) ≤ (j : Int) := by omega
      have hj1 : (j : Int) < 27 := by omega
      obtain ⟨c0, c1, c2⟩ := HSn.out i hi
      have A1 := CH.out i j hi hj
      have A2 := FA.out i hi
      have A3 := FB.out j hj
      have A4 := CP.out (rT p i) (rT q j)
      have A5 := CW2.out i j
      have K0 := Blk.new wr #[.int .i64 (ax i), .int .i64 (ay i), .int .i64 (az i)] 24
      have KB := (Below.refl wr.heap.size wr).alloc (Nat.le_refl _) (.cells #[.int .i64 (ax i), .int .i64 (ay i), .int .i64 (az i)] 24)
      obtain ⟨d0, d1, d2⟩ := (HSn.out.kept KB) j hj
      have L1 := Blk.new (wr.alloc (.cells #[.int .i64 (ax i), .int .i64 (ay i), .int .i64 (az i)] 24)) #[.int .i64 (ax j), .int .i64 (ay j), .int .i64 (az j)] 24
      have LB := (Below.refl _ (wr.alloc (.cells #[.int .i64 (ax i), .int .i64 (ay i), .int .i64 (az i)] 24))).alloc (Nat.le_refl _) (.cells #[.int .i64 (ax j), .int .i64 (ay j), .int .i64 (az j)] 24)
      have LZ : (wr.alloc (.cells #[.int .i64 (ax i), .int .i64 (ay i), .int .i64 (az i)] 24)).heap.size = wr.heap.size + 1 := by simp
      rw [LZ] at L1
      have L0 := Lib.hid (K0.kept LB)
      have HSx := Lib.hid ((HSn.out.kept KB).kept LB)
      have HBx := Lib.hid (bnext (bnext HBn.out KB) LB)
      replace L1 := Lib.hid L1
      clear ei ej hi hj LZ LB KB K0
      generalize hG : G i j = b at *
      clear hG
      go_wp2_with fail
      clear c0 c1 c2 d0 d1 d2 HSn HBn
      generalize (wr.alloc (.cells #[.int .i64 (ax i), .int .i64 (ay i), .int .i64 (az i)] 24)).alloc (.cells #[.int .i64 (ax j), .int .i64 (ay j), .int .i64 (az j)] 24) = wx at *
      generalize wr.heap.size = B0 at *
      obtain ⟨q0, q1, q2⟩ := L0.out.c3
      obtain ⟨q3, q4, q5⟩ := L1.out.c3
      have hbb := (Below.refl wx.heap.size wx).drew
      have RG : ∀ w', Below wx.heap.size wx w' → Below wx.heap.size wx w' ∧ w'.cell? ⟨B0, 0, none⟩ = some (.int .i64 (ax i)) ∧ w'.cell? ⟨B0, 1, none⟩ = some (.int .i64 (ay i)) ∧ w'.cell? ⟨B0, 2, none⟩ = some (.int .i64 (az i)) ∧ w'.cell? ⟨B0 + 1, 0, none⟩ = some (.int .i64 (ax j)) ∧ w'.cell? ⟨B0 + 1, 1, none⟩ = some (.int .i64 (ay j)) ∧ w'.cell? ⟨B0 + 1, 2, none⟩ = some (.int .i64 (az j)) := fun w' h => ⟨h, ckeep h q0, ckeep h q1, ckeep h q2, ckeep h q3, ckeep h q4, ckeep h q5⟩
      have RG' := Lib.hid RG
      clear RG q0 q1 q2 q3 q4 q5
      cases b
      all_goals
       go_region_held3 (fun w' => Below wx.heap.size wx w' ∧ w'.cell? ⟨B0, 0, none⟩ = some (.int .i64 (ax i)) ∧ w'.cell? ⟨B0, 1, none⟩ = some (.int .i64 (ay i)) ∧ w'.cell? ⟨B0, 2, none⟩ = some (.int .i64 (az i)) ∧ w'.cell? ⟨B0 + 1, 0, none⟩ = some (.int .i64 (ax j)) ∧ w'.cell? ⟨B0 + 1, 1, none⟩ = some (.int .i64 (ay j)) ∧ w'.cell? ⟨B0 + 1, 2, none⟩ = some (.int .i64 (az j))) ((first | assumption | exact RG'.out _ (by assumption) | (go_split_ands; exact RG'.out _ (by assumption)) | (go_split_ands; exact RG'.out _ (bnext (by assumption) hq))))
        (first
         | (go_at_call 36; (with_reducible refine (A1 _).out.mono ?_); rintro e w5 ⟨rfl, hq⟩)
         | (go_at_call 38; (with_reducible refine (A2 _).out.mono ?_); rintro e w5 ⟨rfl, hq⟩)
         | (go_at_call 38; (with_reducible refine (A3 _).out.mono ?_); rintro e w5 ⟨rfl, hq⟩)
         | (go_at_call 37; (with_reducible refine (A4 _).out.mono ?_); rintro e w5 ⟨rfl, hq⟩)
         | (go_at_call 33; (with_reducible refine (A5 _).out.mono ?_); rintro e w5 ⟨rfl, hq⟩))
       all_goals
        go_split_ands
        rename_i hbw _ _ _ _ _ _
        have HSy := Lib.hid (HSx.out.kept hbw)
        have HBy := Lib.hid (bnext HBx.out hbw)
        clear hbb hbw RG'
        go_wp2_with fail
        exact ⟨⟨n + 1, by omega, by go_num, HBy, HSy⟩, by simp [intOf]; omega⟩
     ·have hn2 : n = 40 := by omega
      subst hn2
      clear HSn
      have HB := HBn
      clear HBn
      go_wp2_with fail
      go_ret
      exact ⟨rfl, HB.out⟩
  ·have V := fun w => Lib.hid (by have h := implRelValid_no x hx w; unfold BoolIs at h; exact h)
   clear HX hx
   go_wp2_with fail
   refine (V _).out.mono ?_
   rintro e w2 ⟨rfl, hb⟩
   replace HB := Lib.hid (bnext HB.out hb)
   clear hb V c1 c2
   have CS := fun w => Lib.hid (states_any w)
   go_wp2_with fail
   refine (CS _).out.mono ?_
   rintro e w4 ⟨g, cap, hcap, hg, rfl, hs, hb⟩
   have HS := Lib.hid hs
   replace HB := Lib.hid (bnext HB.out hb)
   clear hb hs CS
   go_wp2_with fail
   go_loopw [14, 15, 16] (fun nv _ _ wr => ∃ n : Nat, n ≤ 40 ∧ nv = .int .i64 n ∧ Hid (Below w.heap.size w wr) ∧ Hid (Sts wr g)) (fun nv _ _ _ => 40 - (intOf nv).toNat)
   case atStart => exact ⟨0, by omega, rfl, HB, HS⟩
   case round =>
    clear HB HS
    obtain ⟨n, hn, rfl, HBn, HSn⟩ := hrel
    by_cases hlt : n < 40
    ·obtain ⟨i, hi, ei⟩ : ∃ i : Nat, i < 27 ∧ i = (n * 5 + len1) % 27 := ⟨_, Nat.mod_lt _ (by omega), rfl⟩
     obtain ⟨j, hj, ej⟩ : ∃ j : Nat, j < 27 ∧ j = (n * 11 + 2) % 27 := ⟨_, Nat.mod_lt _ (by omega), rfl⟩
     have e1 : IntKind.i64.wrap ((n : Int) * 5) = (n : Int) * 5 := IntWalk.i64_in _ (by omega)
     have e2 : IntKind.i64.wrap ((n : Int) * 5 + (len1 : Int)) = (n : Int) * 5 + (len1 : Int) := IntWalk.i64_in _ (by omega)
     have e3 : ((n : Int) * 5 + (len1 : Int)).tmod 27 = (i : Int) := by rw [Int.tmod_eq_emod_of_nonneg (by omega)]; omega
     have e4 : IntKind.i64.wrap ((n : Int) * 11) = (n : Int) * 11 := IntWalk.i64_in _ (by omega)
     have e5 : IntKind.i64.wrap ((n : Int) * 11 + 2) = (n : Int) * 11 + 2 := IntWalk.i64_in _ (by omega)
     have e6 : ((n : Int) * 11 + 2).tmod 27 = (j : Int) := by rw [Int.tmod_eq_emod_of_nonneg (by omega)]; omega
     have hi0 : (0 : Int) ≤ (i : Int) := by omega
     have hi1 : (i : Int) < 27 := by omega
     have hj0 : (0 : Int) ≤ (j : Int) := by omega
     have hj1 : (j : Int) < 27 := by omega
     obtain ⟨c0, c1, c2⟩ := HSn.out i hi
     have A1 := CH.out i j hi hj
     have A2 := FA.out i hi
     have A3 := FB.out j hj
     have A4 := CP.out (rT p i) (rT q j)
     have A5 := CW2.out i j
     have K0 := Blk.new wr #[.int .i64 (ax i), .int .i64 (ay i), .int .i64 (az i)] 24
     have KB := (Below.refl wr.heap.size wr).alloc (Nat.le_refl _) (.cells #[.int .i64 (ax i), .int .i64 (ay i), .int .i64 (az i)] 24)
     obtain ⟨d0, d1, d2⟩ := (HSn.out.kept KB) j hj
     have L1 := Blk.new (wr.alloc (.cells #[.int .i64 (ax i), .int .i64 (ay i), .int .i64 (az i)] 24)) #[.int .i64 (ax j), .int .i64 (ay j), .int .i64 (az j)] 24
     have LB := (Below.refl _ (wr.alloc (.cells #[.int .i64 (ax i), .int .i64 (ay i), .int .i64 (az i)] 24))).alloc (Nat.le_refl _) (.cells #[.int .i64 (ax j), .int .i64 (ay j), .int .i64 (az j)] 24)
     have LZ : (wr.alloc (.cells #[.int .i64 (ax i), .int .i64 (ay i), .int .i64 (az i)] 24)).heap.size = wr.heap.size + 1 := by simp
     rw [LZ] at L1
     have L0 := Lib.hid (K0.kept LB)
     have HSx := Lib.hid ((HSn.out.kept KB).kept LB)
     have HBx := Lib.hid (bnext (bnext HBn.out KB) LB)
     replace L1 := Lib.hid L1
     clear ei ej hi hj LZ LB KB K0
     generalize hG : G i j = b at *
     clear hG
     go_wp2_with fail
     clear c0 c1 c2 d0 d1 d2 HSn HBn
     generalize (wr.alloc (.cells #[.int .i64 (ax i), .int .i64 (ay i), .int .i64 (az i)] 24)).alloc (.cells #[.int .i64 (ax j), .int .i64 (ay j), .int .i64 (az j)] 24) = wx at *
     generalize wr.heap.size = B0 at *
     obtain ⟨q0, q1, q2⟩ := L0.out.c3
     obtain ⟨q3, q4, q5⟩ := L1.out.c3
     have hbb := (Below.refl wx.heap.size wx).drew
     have RG : ∀ w', Below wx.heap.size wx w' → Below wx.heap.size wx w' ∧ w'.cell? ⟨B0, 0, none⟩ = some (.int .i64 (ax i)) ∧ w'.cell? ⟨B0, 1, none⟩ = some (.int .i64 (ay i)) ∧ w'.cell? ⟨B0, 2, none⟩ = some (.int .i64 (az i)) ∧ w'.cell? ⟨B0 + 1, 0, none⟩ = some (.int .i64 (ax j)) ∧ w'.cell? ⟨B0 + 1, 1, none⟩ = some (.int .i64 (ay j)) ∧ w'.cell? ⟨B0 + 1, 2, none⟩ = some (.int .i64 (az j)) := fun w' h => ⟨h, ckeep h q0, ckeep h q1, ckeep h q2, ckeep h q3, ckeep h q4, ckeep h q5⟩
     have RG' := Lib.hid RG
     clear RG q0 q1 q2 q3 q4 q5
     cases b
     all_goals
      go_region_held3 (fun w' => Below wx.heap.size wx w' ∧ w'.cell? ⟨B0, 0, none⟩ = some (.int .i64 (ax i)) ∧ w'.cell? ⟨B0, 1, none⟩ = some (.int .i64 (ay i)) ∧ w'.cell? ⟨B0, 2, none⟩ = some (.int .i64 (az i)) ∧ w'.cell? ⟨B0 + 1, 0, none⟩ = some (.int .i64 (ax j)) ∧ w'.cell? ⟨B0 + 1, 1, none⟩ = some (.int .i64 (ay j)) ∧ w'.cell? ⟨B0 + 1, 2, none⟩ = some (.int .i64 (az j))) ((first | assumption | exact RG'.out _ (by assumption) | (go_split_ands; exact RG'.out _ (by assumption)) | (go_split_ands; exact RG'.out _ (bnext (by assumption) hq))))
       (first
        | (go_at_call 36; (with_reducible refine (A1 _).out.mono ?_); rintro e w5 ⟨rfl, hq⟩)
        | (go_at_call 38; (with_reducible refine (A2 _).out.mono ?_); rintro e w5 ⟨rfl, hq⟩)
        | (go_at_call 38; (with_reducible refine (A3 _).out.mono ?_); rintro e w5 ⟨rfl, hq⟩)
        | (go_at_call 37; (with_reducible refine (A4 _).out.mono ?_); rintro e w5 ⟨rfl, hq⟩)
        | (go_at_call 33; (with_reducible refine (A5 _).out.mono ?_); rintro e w5 ⟨rfl, hq⟩))
      all_goals
       go_split_ands
       rename_i hbw _ _ _ _ _ _
       have HSy := Lib.hid (HSx.out.kept hbw)
       have HBy := Lib.hid (bnext HBx.out hbw)
       clear hbb hbw RG'
       go_wp2_with fail
       exact ⟨⟨n + 1, by omega, by go_num, HBy, HSy⟩, by simp [intOf]; omega⟩
    ·have hn2 : n = 40 := by omega
     subst hn2
     clear HSn
     have HB := HBn
     clear HBn
     go_wp2_with fail
     go_ret
     exact ⟨rfl, HB.out⟩
 ·have c1 := fun w => Lib.hid (implPf_no s t y w h)
  have c2 : ∀ w, Hid (Calls Tryz.prog 30 #[.string s, .string t, .string y] w fun e w' => e = .returned pfNo ∧ Below w.heap.size w w') := fun w => by
   obtain ⟨b, hb, hc⟩ := ready_any s t y (by unfold maxLen; omega)
   obtain rfl : b = false := by cases b with | false => rfl | true => exact absurd (hb.1 rfl) h
   exact Lib.hid (specPf_no s t y w hc)
  unfold pfNo at c1 c2
  clear h
  go_wp2_with fail
  refine (c1 _).out.mono ?_
  rintro e w2 ⟨rfl, hb⟩
  replace HB := Lib.hid (bnext HB.out hb)
  clear hb
  go_wp2_with fail
  refine (c2 _).out.mono ?_
  rintro e w2 ⟨rfl, hb⟩
  replace HB := Lib.hid (bnext HB.out hb)
  clear hb
  go_wp2_with fail
  go_ret
  exact ⟨rfl, HB.out⟩
theorem Tryz.own : ownKnob Tryz.prog.godebug = none := by kernel_rfl
theorem laidOut : laidOutB Tryz.prog = true := by kernel_rfl
set_option linter.unusedVariables false in
set_option maxRecDepth 100000 in
set_option maxHeartbeats 2000000 in
theorem lifted (os : Os) (started : os.Started) (H : Type) (enc : TypeId × Value → H) :
  ReturnsInHanded {} Tryz.checked os 9 .any (fun w args => (Rows.fnPairFreeSpec.pre enc Tryz.prog Tryz.f9 Rows.fnPairFreeRow.domain false w args ∧ laidMetH Tryz.prog Rows.fnPairFreeRow.laid w) ∧ sizedMet enc Tryz.prog Tryz.f9 (OpenSpec.ofChange Rows.fnPairFreeSpec) false w args)
   (Rows.fnPairFreeSpec.post enc Tryz.prog Tryz.f9 false true false false) := by
 refine returnsInHanded_of_change_and (C := Tryz.checked) (X := fun w _ => laidMetH Tryz.prog Rows.fnPairFreeRow.laid w) (fun _ _ _ hh h => h.of_heap hh) Tryz.own started (by kernel_rfl) Tryz.func9
  (ChangeSpec.witness_shaped (enc := enc) (C := Tryz.checked) (os := os) (X := fun w _ => laidMetH Tryz.prog Rows.fnPairFreeRow.laid w) false (World.laidAll Tryz.prog os Rows.fnPairFreeRow.laid) #[.slice none 0 0, .slice none 0 0] 8 (World.laidAll_os _ _ _)
   (World.shaped_of_ZipB (by kernel_rfl) (by kernel_rfl)) (by kernel_rfl) (by kernel_rfl) (by kernel_rfl)
   (by rw [MakeChecks.laidMetH_plain _ _ _ (by kernel_rfl)]; exact laidMet_laidAll _ (by kernel_rfl) (by kernel_rfl))) ?_
 intro W base args ds gs before hval0 hW _ _ hL _
 have hval : ∀ (j : Nat) t v, Tryz.f9.params[j]? = some t → args[j]? = some v → Value.okWide Tryz.prog W .any base t v := hval0
 have hW' := hW
 obtain ⟨p, q, hA0, hV, rfl, _, _⟩ := hW
 have hA : DataW.TrodAll enc Tryz.prog W 0 (fun _ => true) true Tryz.f9.params.toList args.toList ds p := hA0
 rw [Tryz.params9] at hA hval
 obtain ⟨v0, vs0, d0, ds0, p0, q0, hargs, rfl, rfl, h0, r0⟩ := trodAll_cons hA
 obtain ⟨v1, vs1, d1, ds1, p1, q1, rfl, rfl, rfl, h1, r1⟩ := trodAll_cons r0
 obtain ⟨rfl, rfl, rfl⟩ := trodAll_nil r1
 obtain rfl : args = #[v0, v1] := by cases args; simp_all
 obtain ⟨rfl, rfl⟩ := trodVars_none hV
 obtain ⟨a0, len0, cap0, rfl⟩ := okWide_slice Tryz.underlying32 (hval 0 32 v0 rfl rfl)
 have k0 := h0
 have lt0 : ∀ x ∈ p0, x.block < W.heap.size := by obtain ⟨m, hm⟩ := k0; exact DataW.trod_lt m _ _ _ hm
 obtain ⟨z0, w0⟩ : ∃ zs, IsRow W a0 len0 cap0 zs := by
  obtain ⟨fuel, hf⟩ := h0
  rcases open_ints Tryz.underlying32 Tryz.underlying5 (by kernel_rfl) hf with ⟨hcs, _⟩ | ⟨x, l, c, zs, hcs, _, hl, hm, hz, _, hcell, hwz⟩
  ·simp [Value.cells] at hcs
   obtain ⟨rfl, rfl, rfl⟩ := hcs
   exact ⟨[], .inl ⟨rfl, rfl, rfl, rfl⟩⟩
  ·simp [Value.cells] at hcs
   obtain ⟨rfl, rfl, rfl⟩ := hcs
   exact ⟨zs, .inr ⟨_, rfl, hl, hm, by simpa using hz, hcell, hwz⟩⟩
 obtain ⟨a1, len1, cap1, rfl⟩ := okWide_slice Tryz.underlying32 (hval 1 32 v1 rfl rfl)
 have k1 := h1
 have lt1 : ∀ x ∈ p1, x.block < W.heap.size := by obtain ⟨m, hm⟩ := k1; exact DataW.trod_lt m _ _ _ hm
 obtain ⟨z1, w1⟩ : ∃ zs, IsRow W a1 len1 cap1 zs := by
  obtain ⟨fuel, hf⟩ := h1
  rcases open_ints Tryz.underlying32 Tryz.underlying5 (by kernel_rfl) hf with ⟨hcs, _⟩ | ⟨x, l, c, zs, hcs, _, hl, hm, hz, _, hcell, hwz⟩
  ·simp [Value.cells] at hcs
   obtain ⟨rfl, rfl, rfl⟩ := hcs
   exact ⟨[], .inl ⟨rfl, rfl, rfl, rfl⟩⟩
  ·simp [Value.cells] at hcs
   obtain ⟨rfl, rfl, rfl⟩ := hcs
   exact ⟨zs, .inr ⟨_, rfl, hl, hm, by simpa using hz, hcell, hwz⟩⟩
 clear hA0 hval0
 refine (walkPairFree W w0 w1).mono fun e W' ⟨he, bel⟩ => ?_
 subst he
 exact ⟨_, rfl, _, _, _, [], _, [], hW', trodAll_mk1 (shut_bool Tryz.underlying4 _), (trodAll_cons_mk (Below.trod laidOut (by kernel_rfl) (of_decide_eq_true (by kernel_rfl)) k0 bel lt0) (trodAll_cons_mk (Below.trod laidOut (by kernel_rfl) (of_decide_eq_true (by kernel_rfl)) k1 bel lt1) trodAll_mk0)), rfl, bel.frame _, fun h => by cases h⟩
-- each of the three walks over the program by itself: together they are too much for the kernel's memory
theorem jf1 : (Rows.fnPairFreeRow.inPlace == Tryz.prog.inPlace 9) = true := by kernel_rfl
theorem jf2 : (Rows.fnPairFreeRow.unfollowed == Tryz.prog.unfollowed 9) = true := by kernel_rfl
theorem jf3 : (Rows.fnPairFreeRow.recurses == Tryz.prog.recurses 9) = true := by kernel_rfl
theorem jf4 : (Rows.fnPairFreeRow.named == Tryz.prog.varsNamed 9) = true := by kernel_rfl
theorem jf5 : laidOutB Tryz.prog = true := by kernel_rfl
theorem jf6 : mapsRowed Tryz.prog = true := by kernel_rfl
theorem jf7 : Tryz.prog.stopsHeard = true := by kernel_rfl
theorem jg : false = (Rows.fnPairFreeRow).goesBy Tryz.pinned.checked.prog := by kernel_rfl
theorem closed : joinedFacts Tryz.prog 9 Tryz.f9 Rows.fnPairFreeSpec Rows.fnPairFreeRow = true := by
 unfold joinedFacts
 rw [jf1, jf2, jf3, jf4, jf5, jf6, jf7]
 kernel_rfl
theorem said : Rows.FnPairFreeSaid :=
 OpenClaim.holds_of_wide 9 Tryz.f9 rfl rfl rfl rfl rfl rfl rfl ⟨rfl, rfl, rfl, rfl, rfl⟩ rfl rfl rfl rfl rfl (by kernel_rfl) Tryz.func9 closed
  (of_decide_eq_true (by kernel_rfl)) (by unfold Func.isWrapper; first | (rw [if_pos (by decide +kernel)]; kernel_rfl) | (rw [if_neg (by decide +kernel)]; exact ⟨rfl, rfl⟩))
  (fun os started H enc _ => by rw [OpenClaim.pre_eq_preRow]; exact lifted os started H enc)
theorem plain (f : FuncId) (fn : Func) (hf : Tryz.pinned.checked.prog.funcNamed Rows.fnPairFreeRow.func = some f) (hfn : Tryz.pinned.checked.prog.funcs[f]? = some fn) :
  true = Tryz.pinned.checked.prog.looks [] ∧ ∀ (j : Nat) t, fn.params[j]? = some t → Tryz.pinned.checked.prog.wantsStandIn t = false := by
 obtain rfl : f = 9 := Option.some.inj ((show Tryz.prog.funcNamed Rows.fnPairFreeRow.func = some 9 by kernel_rfl).symm.trans hf) |>.symm
 obtain rfl : fn = Tryz.f9 := (Option.some.inj (Tryz.func9.symm.trans hfn)).symm
 refine ⟨by kernel_rfl, fun j t ht => ?_⟩
 rw [Tryz.params9] at ht
 obtain rfl : t = 32 := by
  have := Array.mem_of_getElem? ht
  simpa using this
 exact (show Tryz.prog.wantsStandIn 32 = false by kernel_rfl)
theorem pairFree_card : Rows.FnPairFreeCardSaid :=
 Claim7.holds_tied_plain_at .later [] _ _ _ _ said (fun _ h => by cases h) (by kernel_rfl) (fun _ h => by cases h) fnPairFree_row_tie rfl ⟨rfl, rfl⟩ (by kernel_rfl) rfl plain jg
#print axioms pairFree_card
end Go.Proofs.YtlhmdpkenkibiaaGreatDoor
