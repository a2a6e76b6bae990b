/-
  The law of programs in sequence, two by two, is true at all bytes: no condition. The card.
-/
import Derived.Test.YtlhmdpkenkibiaaGreatDoorJfa
import Derived.Test.YtlhmdpkenkibiaaGreatDoorPpf
import Derived.Test.YtlhmdpkenkibiaaGreatDoorEit
import Derived.Test.YtlhmdpkenkibiaaGreatDoorCpq
import Derived.Test.YtlhmdpkenkibiaaGreatDoorTopG2
import Derived.Deep.RegionHeld3
import Derived.ProofKit
import Derived.ChangeOld
import Derived.Deep.DeepHandedRow
import Derived.Lib.SmallJoins
import Derived.ChangeSame
import Derived.JoinedOf
import Derived.JoinedAt
import Derived.RowKit3
import Derived.ShutString
import Derived.OpenShut
import Derived.LaidMore
import Derived.Lay
import Derived.SevenTiedAt
import Derived.Stop.Joined
namespace Go.Proofs.YtlhmdpkenkibiaaGreatDoor
open Go.ChangeShapes Go.WideShapes Go.ChangeAt Go.RowKit Go.Joins
open Go.WideMaps Go.WideElems Tm
open Go.ChangeMaps (open_string shut_string)
open Go.Great

theorem jf_spec (s0 s1 s2 s3 s4 y x : ByteArray) (b1 b2 : Bool) (hx : b1 = false → x = ⟨#[]⟩ ∧ b2 = false)
    (c1 : ∀ w, Calls Tryz.prog 30 #[.string s2, .string s3, .string s4] w fun e w' => e = .returned (.tuple #[.string y, .bool b1]) ∧ Below w.heap.size w w')
    (c2 : ∀ w, Calls Tryz.prog 30 #[.string s0, .string s1, .string y] w fun e w' => e = .returned (.tuple #[.string x, .bool b2]) ∧ Below w.heap.size w w') (w : World) :
    Calls Tryz.prog 52 #[.string s0, .string s1, .string s2, .string s3, .string s4] w fun e w' => e = .returned (.tuple #[.string x, .bool b2]) ∧ Below w.heap.size w w' := by
  have C1 := Lib.hid c1
  have C2 := Lib.hid c2
  clear c1 c2
  cases b1 with
  | false =>
    obtain ⟨rfl, rfl⟩ := hx rfl
    clear hx
    go_enter Tryz.func52, Tryz.ntmps52
    go_wp2_with fail
    refine (C1.out _).mono ?_
    rintro e w2 ⟨rfl, hb⟩
    have HB2 := Lib.hid hb
    clear hb
    go_wp2_with fail
    go_ret2
    exact ⟨rfl, HB2.out⟩
  | true =>
    clear hx
    go_enter Tryz.func52, Tryz.ntmps52
    go_wp2_with fail
    refine (C1.out _).mono ?_
    rintro e w2 ⟨rfl, hb⟩
    have HB2 := Lib.hid hb
    clear hb
    go_wp2_with fail
    refine (C2.out _).mono ?_
    rintro e w3 ⟨rfl, hb⟩
    have HB3 := Lib.hid (bnext HB2.out hb)
    clear hb
    go_wp2_with fail
    go_ret2
    exact ⟨rfl, HB3.out⟩
theorem jf_impl (s0 s1 s2 s3 s4 y x : ByteArray) (b1 b2 : Bool)
    (c1 : ∀ w, Calls Tryz.prog 29 #[.string s2, .string s3, .string s4] w fun e w' => e = .returned (.tuple #[.string y, .bool b1]) ∧ Below w.heap.size w w')
    (c2 : ∀ w, Calls Tryz.prog 29 #[.string s0, .string s1, .string y] w fun e w' => e = .returned (.tuple #[.string x, .bool b2]) ∧ Below w.heap.size w w') (w : World) :
    Calls Tryz.prog 51 #[.string s0, .string s1, .string s2, .string s3, .string s4] w fun e w' => e = .returned (.tuple #[.string x, .bool b2]) ∧ Below w.heap.size w w' := by
  have C1 := Lib.hid c1
  have C2 := Lib.hid c2
  clear c1 c2
  go_enter Tryz.func51, Tryz.ntmps51
  go_wp2_with fail
  refine (C1.out _).mono ?_
  rintro e w2 ⟨rfl, hb⟩
  have HB2 := Lib.hid hb
  clear hb
  go_wp2_with fail
  refine (C2.out _).mono ?_
  rintro e w3 ⟨rfl, hb⟩
  have HB3 := Lib.hid (bnext HB2.out hb)
  clear hb
  go_wp2_with fail
  go_ret2
  exact ⟨rfl, HB3.out⟩


theorem jfl_facts (s t s2 t2 y : ByteArray) (h : (PV s ∧ PV t) ∧ PV s2 ∧ PV t2 ∧ Rel729 y) : ∃ (p q : Pg) (H : Nat → Nat → Bool) (m m2 a1 a2 : ByteArray) (b1 b2 : Bool),
    (∀ k : Nat, k < 27 → ∀ w, Hid (Calls Tryz.prog 38 #[.string s, .agg #[.int .i64 (ax k), .int .i64 (ay k), .int .i64 (az k)]] w fun e w' => e = .returned (.string (bs (tb (rT p k)))) ∧ Below w.heap.size w w')) ∧
    (∀ k : Nat, k < 27 → ∀ w, Hid (Calls Tryz.prog 38 #[.string t, .agg #[.int .i64 (ax k), .int .i64 (ay k), .int .i64 (az k)]] w fun e w' => e = .returned (.string (bs (tb (rT q k)))) ∧ Below w.heap.size w w')) ∧
    Gives 51 #[.string s, .string t, .string s2, .string t2, .string y] (.tuple #[.string (bs (relT H)), .bool true]) ∧ Gives 52 #[.string s, .string t, .string s2, .string t2, .string y] (.tuple #[.string (bs (relT H)), .bool true]) ∧
    Gives 53 #[.string s, .string s2] (.tuple #[.string a1, .bool b1]) ∧ Gives 53 #[.string t, .string t2] (.tuple #[.string a2, .bool b2]) ∧
    ((b1 && b2) = true → Gives 54 #[.string a1, .string a2, .string y] (.string (bs (relT H)))) ∧
    Gives 54 #[.string s2, .string t2, .string y] (.string m) ∧ Gives 54 #[.string ⟨#[115]⟩, .string t, .string m] (.string m2) ∧ Gives 54 #[.string s, .string ⟨#[115]⟩, .string m2] (.string (bs (relT H))) := by
  obtain ⟨⟨⟨⟨p, hp, hs⟩, hl⟩, ⟨⟨q, hq, ht⟩, hn⟩⟩, ⟨⟨p2, hp2, hs2⟩, hl2⟩, ⟨⟨q2, hq2, ht2⟩, hn2⟩, hr⟩ := h
  obtain ⟨a1, b1, e1, j1⟩ := jp_two s s2 hp hs hl hp2 hs2 hl2
  obtain ⟨a2, b2, e2, j2⟩ := jp_two t t2 hq ht hn hq2 ht2 hn2
  obtain rfl := bs_ofP hs
  obtain rfl := bs_ofP ht
  obtain rfl := bs_ofP hs2
  obtain rfl := bs_ofP ht2
  have lp : p.ser.length ≤ 200 := by rwa [bs_size] at hl
  have lq : q.ser.length ≤ 200 := by rwa [bs_size] at hn
  have lp2 : p2.ser.length ≤ 200 := by rwa [bs_size] at hl2
  have lq2 : q2.ser.length ≤ 200 := by rwa [bs_size] at hn2
  have ex := rel_bs hr
  generalize relS y.data.toList = F at ex
  subst ex
  have g1 := pf_at p2 q2 F hp2 lp2 hq2 lq2
  have g2 := pf_at p q (frR p2 q2 F) hp lp hq lq
  have g3 := pfs_at p2 q2 F hp2 lp2 hq2 lq2
  have g4 := pfs_at p q (frR p2 q2 F) hp lp hq lq
  have hleft := ppPairFree_of (pf_at p .skip (frR .skip q (frR p2 q2 F)) hp lp trivial (by decide))
  rw [rb_congr fun i _ j hj => fr_left p q (frR p2 q2 F) hj] at hleft
  refine ⟨p, q, frR p q (frR p2 q2 F), _, _, a1, a2, b1, b2, fun k hk w => Lib.hid (fin_at p hp lp k hk w), fun k hk w => Lib.hid (fin_at q hq lq k hk w),
    fun w => Lib.hid (jf_impl _ _ _ _ _ _ _ true true (fun w => (g1 w).out) (fun w => (g2 w).out) w), fun w => Lib.hid (jf_spec _ _ _ _ _ _ _ true true (fun h => by cases h) (fun w => (g3 w).out) (fun w => (g4 w).out) w),
    fun w => Lib.hid (j1 w), fun w => Lib.hid (j2 w), fun hb => ?_, ppPairFree_of g1, ppPairFree_of (pf_at .skip q (frR p2 q2 F) trivial (by decide) hq lq), hleft⟩
  rw [Bool.and_eq_true] at hb
  obtain ⟨rfl, l1⟩ := e1 hb.1
  obtain ⟨rfl, l2⟩ := e2 hb.2
  have g5 := ppPairFree_of (pf_at (.seq p p2) (.seq q q2) F ⟨hp, hp2⟩ l1 ⟨hq, hq2⟩ l2)
  rwa [rb_congr fun i hi j hj => fr_seq p q p2 q2 hp hq F hi hj] at g5

theorem jfn_both (s t s2 t2 y : ByteArray) (h : ¬ ((PV s ∧ PV t) ∧ PV s2 ∧ PV t2 ∧ Rel729 y)) (hy : y.size ≤ maxLen) :
    (∀ w, Hid (Calls Tryz.prog 51 #[.string s, .string t, .string s2, .string t2, .string y] w fun e w' => e = .returned (.tuple #[.string ⟨#[]⟩, .bool false]) ∧ Below w.heap.size w w')) ∧
    ∀ w, Hid (Calls Tryz.prog 52 #[.string s, .string t, .string s2, .string t2, .string y] w fun e w' => e = .returned (.tuple #[.string ⟨#[]⟩, .bool false]) ∧ Below w.heap.size w w') := by
  have no : ∀ (a b c : ByteArray), ¬ (PV a ∧ PV b ∧ Rel729 c) → c.size ≤ maxLen → (∀ w, Calls Tryz.prog 30 #[.string a, .string b, .string c] w fun e w' => e = .returned (.tuple #[.string ⟨#[]⟩, .bool false]) ∧ Below w.heap.size w w') := fun a b c k hc w => by
    obtain ⟨b', hb, hd⟩ := ready_any a b c hc
    obtain rfl : b' = false := by cases b' with | false => rfl | true => exact absurd (hb.1 rfl) k
    exact specPf_no a b c w hd
  by_cases k : PV s2 ∧ PV t2 ∧ Rel729 y
  · have k2 : ¬ (PV s ∧ PV t) := fun k2 => h ⟨k2, k⟩
    obtain ⟨z, b1, hz, _, c1, d1⟩ := pf_any2 s2 t2 y hy
    have k3 : ¬ (PV s ∧ PV t ∧ Rel729 z) := fun k3 => k2 ⟨k3.1, k3.2.1⟩
    exact ⟨fun w => Lib.hid (jf_impl s t s2 t2 y z _ b1 false d1 (fun w => implPf_no s t z w k3) w), fun w => Lib.hid (jf_spec s t s2 t2 y z _ b1 false (fun _ => ⟨rfl, rfl⟩) c1 (no s t z k3 hz) w)⟩
  · have k3 : ¬ (PV s ∧ PV t ∧ Rel729 ⟨#[]⟩) := fun k3 => by have := k3.2.2.size; cases this
    exact ⟨fun w => Lib.hid (jf_impl s t s2 t2 y _ _ false false (fun w => implPf_no s2 t2 y w k) (fun w => implPf_no s t _ w k3) w), fun w => Lib.hid (jf_spec s t s2 t2 y _ _ false false (fun _ => ⟨rfl, rfl⟩) (no s2 t2 y k hy) (no s t _ k3 (by decide)) w)⟩
set_option maxRecDepth 100000 in
set_option maxHeartbeats 4000000 in
theorem both7 {a p : Nat} {w : World} (hr : Rd a p w) (hp : p ≤ 190000) :
    Calls Tryz.prog 122 #[.pointer (some ⟨a, 0, none⟩)] w fun e w' => ∃ (s t : ByteArray) (q : Nat), s.size ≤ 100000 ∧ t.size ≤ 100000 ∧ q ≤ p + 2000 ∧ e = .returned (.tuple #[.string s, .string t]) ∧ Rd a q w' ∧ Kp a w w' := by
  have HR := Lib.hid hr
  clear hr
  have C := Lib.hid (pick_any 2 HR.out (by omega) (by omega) (by omega))
  go_enter Tryz.func122, Tryz.ntmps122
  go_wp2_with fail
  refine C.out.mono ?_
  rintro e w1 ⟨k, k0, k1, rfl, hr, hk⟩
  have HR1 := Lib.hid hr
  have HK1 := Lib.hid hk
  clear hr hk C
  have HC := Lib.hid (pair7 (k == 0) HR1.out (by omega))
  go_wp2_with fail
  refine HC.out.mono ?_
  rintro e w2 ⟨s, t, q, ⟨s1, s2⟩, ⟨t1, t2⟩, hq, rfl, hr, hk⟩
  have HR2 := Lib.hid hr
  have HK2 := Lib.hid (HK1.out.trans hk)
  clear hr hk HC
  have HC := Lib.hid (bad3 s s1 (by omega) HR2.out (by omega))
  go_wp2_with fail
  refine HC.out.mono ?_
  rintro e w8 ⟨x', q8, x1', x2', hq8, rfl, hr, hk⟩
  have HR8 := Lib.hid hr
  have HK8 := Lib.hid (HK2.out.trans hk)
  clear hr hk HC
  have HC := Lib.hid (bad3 t t1 (by omega) HR8.out (by omega))
  go_wp2_with fail
  refine HC.out.mono ?_
  rintro e w9 ⟨y', q9, y1', y2', hq9, rfl, hr, hk⟩
  have HR9 := Lib.hid hr
  have HK9 := Lib.hid (HK8.out.trans hk)
  clear hr hk HC
  go_wp2_with fail
  go_ret2
  exact ⟨_, _, q9, by omega, by omega, by omega, rfl, HR9.out, HK9.out⟩
set_option maxRecDepth 100000 in
set_option maxHeartbeats 4000000 in
theorem drawJoinedFree {a : Option Addr} {len cap : Nat} {zs : List Int} {w : World} (h : IsRow w a len cap zs) :
    Calls Tryz.prog 50 #[.slice a len cap] w fun e w' => ∃ s t s2 t2 y : ByteArray, s.size ≤ 100000 ∧ t.size ≤ 100000 ∧ s2.size ≤ 100000 ∧ t2.size ≤ 100000 ∧ y.size ≤ 730 ∧ e = .returned (.tuple #[.string s, .string t, .string s2, .string t2, .string y]) ∧ Below w.heap.size w w' := by
  have HO := Lib.hid (open_any h)
  clear h
  go_enter Tryz.func50, Tryz.ntmps50
  go_wp2_with fail
  refine HO.out.mono ?_
  rintro e w1 ⟨rfl, hr, hb⟩
  have HW1 := Lib.hid hb
  have HC := Lib.hid (both7 hr (by omega))
  clear hr hb
  go_wp2_with fail
  refine HC.out.mono ?_
  rintro e w2 ⟨s, t, q2, ls, lt, hq2, rfl, hr, hk⟩
  have HR2 := Lib.hid hr
  have HK2 := Lib.hid hk
  clear hr hk
  have HC := Lib.hid (both7 HR2.out (by omega))
  go_wp2_with fail
  refine HC.out.mono ?_
  rintro e w3 ⟨s2, t2, q3, ls2, lt2, hq3, rfl, hr, hk⟩
  have HR3 := Lib.hid hr
  have HK3 := Lib.hid (HK2.out.trans hk)
  clear hr hk
  have HC := Lib.hid (open6_any HR3.out (by omega))
  go_wp2_with fail
  refine HC.out.mono ?_
  rintro e w4 ⟨y, q4, y1, y2, hq4, rfl, hr, hk⟩
  have HW4 := Lib.hid (HW1.out.trans ((HK3.out.trans hk).below (Nat.le_refl _) HW1.out.size))
  clear hr hk
  go_wp2_with fail
  refine bodyPost_ret (v := .tuple #[.string s, .string t, .string s2, .string t2, .string y]) (by simp [results, Tryz.results50, go_sem]) rfl ?_
  exact ⟨s, t, s2, t2, y, ls, lt, ls2, lt2, y2, rfl, HW4.out⟩
set_option maxRecDepth 100000 in
set_option maxHeartbeats 16000000 in
theorem walkJoinedFree {a0 : Option Addr} {len0 cap0 : Nat} {z0 : List Int} (w : World) (h0 : IsRow w a0 len0 cap0 z0) :
    Calls Tryz.prog 12 #[.slice a0 len0 cap0] w fun e w' => e = .returned (.bool true) ∧ Below w.heap.size w w' := by
  have DD := Lib.hid (drawJoinedFree h0)
  clear h0
  by_cases hl : (1048576 : Int) < len0
  · go_enter Tryz.func12, Tryz.ntmps12
    go_wp2_with fail
    go_ret
    exact ⟨rfl, Below.refl _ _⟩
  go_enter Tryz.func12, Tryz.ntmps12
  go_wp2_with fail
  refine DD.out.mono ?_
  rintro e w1 ⟨s, t, s2, t2, y, ls, lt, ls2, lt2, ly, rfl, hb⟩
  have HB := Lib.hid hb
  clear hb DD
  by_cases h : (PV s ∧ PV t) ∧ PV s2 ∧ PV t2 ∧ Rel729 y
  · obtain ⟨p, q, G, m, m2, a1, a2, b1, b2, fa, fb, c1, c2, c3, c4, c5, c6, c7, c8⟩ := jfl_facts s t s2 t2 y h
    have FA := Lib.hid fa
    have FB := Lib.hid fb
    have C5 := Lib.hid c5
    clear h fa fb c5
    unfold Gives at c1 c2 c3 c4 c6 c7 c8
    have CH := Lib.hid (fun i j hi hj w => Lib.hid (hasp_at8 G i j hi hj w))
    generalize bs (relT G) = m0 at *
    cases hbb : (b1 && b2) with
    | false =>
      have HBB := Lib.hid hbb
      clear hbb C5
      cases b1 with
      | false =>
        clear HBB
        go_wp2_with fail
        refine (c1 _).out.mono ?_
        rintro e w2 ⟨rfl, hb⟩
        replace HB := Lib.hid (bnext HB.out hb)
        clear hb
        go_wp2_with fail
        refine (c2 _).out.mono ?_
        rintro e w2 ⟨rfl, hb⟩
        replace HB := Lib.hid (bnext HB.out hb)
        clear hb
        go_wp2_with fail
        refine (c3 _).out.mono ?_
        rintro e w2 ⟨rfl, hb⟩
        replace HB := Lib.hid (bnext HB.out hb)
        clear hb
        go_wp2_with fail
        refine (c4 _).out.mono ?_
        rintro e w2 ⟨rfl, hb⟩
        replace HB := Lib.hid (bnext HB.out hb)
        clear hb
        go_wp2_with fail
        go_ret
        exact ⟨rfl, HB.out⟩
      | true =>
        obtain rfl : b2 = false := by have := HBB.out; simpa using this
        clear HBB
        go_wp2_with fail
        refine (c1 _).out.mono ?_
        rintro e w2 ⟨rfl, hb⟩
        replace HB := Lib.hid (bnext HB.out hb)
        clear hb
        go_wp2_with fail
        refine (c2 _).out.mono ?_
        rintro e w2 ⟨rfl, hb⟩
        replace HB := Lib.hid (bnext HB.out hb)
        clear hb
        go_wp2_with fail
        refine (c3 _).out.mono ?_
        rintro e w2 ⟨rfl, hb⟩
        replace HB := Lib.hid (bnext HB.out hb)
        clear hb
        go_wp2_with fail
        refine (c4 _).out.mono ?_
        rintro e w2 ⟨rfl, hb⟩
        replace HB := Lib.hid (bnext HB.out hb)
        clear hb
        go_wp2_with fail
        go_ret
        exact ⟨rfl, HB.out⟩
    | true =>
      have c5 := C5.out hbb
      unfold Gives at c5
      rw [Bool.and_eq_true] at hbb
      obtain ⟨rfl, rfl⟩ := hbb
      clear C5
      go_wp2_with fail
      refine (c1 _).out.mono ?_
      rintro e w2 ⟨rfl, hb⟩
      replace HB := Lib.hid (bnext HB.out hb)
      clear hb
      go_wp2_with fail
      refine (c2 _).out.mono ?_
      rintro e w2 ⟨rfl, hb⟩
      replace HB := Lib.hid (bnext HB.out hb)
      clear hb
      go_wp2_with fail
      refine (c3 _).out.mono ?_
      rintro e w2 ⟨rfl, hb⟩
      replace HB := Lib.hid (bnext HB.out hb)
      clear hb
      go_wp2_with fail
      refine (c4 _).out.mono ?_
      rintro e w2 ⟨rfl, hb⟩
      replace HB := Lib.hid (bnext HB.out hb)
      clear hb
      go_wp2_with fail
      refine (c5 _).out.mono ?_
      rintro e w2 ⟨rfl, hb⟩
      replace HB := Lib.hid (bnext HB.out hb)
      clear hb
      go_wp2_with fail
      refine (c6 _).out.mono ?_
      rintro e w2 ⟨rfl, hb⟩
      replace HB := Lib.hid (bnext HB.out hb)
      clear hb
      go_wp2_with fail
      refine (c7 _).out.mono ?_
      rintro e w2 ⟨rfl, hb⟩
      replace HB := Lib.hid (bnext HB.out hb)
      clear hb
      go_wp2_with fail
      refine (c8 _).out.mono ?_
      rintro e w2 ⟨rfl, hb⟩
      replace HB := Lib.hid (bnext HB.out hb)
      clear hb
      clear c1 c2 c3 c4 c5 c6 c7 c8
      have CS := fun w => Lib.hid (states_any w)
      go_wp2_with fail
      refine (CS _).out.mono ?_
      rintro e w4 ⟨g, cap, hcap, hg, rfl, hs, hb⟩
      have HS := Lib.hid hs
      replace HB := Lib.hid (bnext HB.out hb)
      clear hb hs CS
      go_wp2_with fail
      go_loopw [19, 20, 21] (fun nv _ _ wr => ∃ n : Nat, n ≤ 40 ∧ nv = .int .i64 n ∧ Hid (Below w.heap.size w wr) ∧ Hid (Sts wr g)) (fun nv _ _ _ => 40 - (intOf nv).toNat)
      case atStart => exact ⟨0, by omega, rfl, HB, HS⟩
      case round =>
        clear HB HS
        obtain ⟨n, hn, rfl, HBn, HSn⟩ := hrel
        by_cases hlt : n < 40
        · obtain ⟨i, hi, ei⟩ : ∃ i : Nat, i < 27 ∧ i = (n * 5) % 27 := ⟨_, Nat.mod_lt _ (by omega), rfl⟩
          obtain ⟨j, hj, ej⟩ : ∃ j : Nat, j < 27 ∧ j = (n * 11 + 2) % 27 := ⟨_, Nat.mod_lt _ (by omega), rfl⟩
          have e1 : IntKind.i64.wrap ((n : Int) * 5) = (n : Int) * 5 := IntWalk.i64_in _ (by omega)
          have e3 : ((n : Int) * 5).tmod 27 = (i : Int) := by rw [Int.tmod_eq_emod_of_nonneg (by omega)]; omega
          have e4 : IntKind.i64.wrap ((n : Int) * 11) = (n : Int) * 11 := IntWalk.i64_in _ (by omega)
          have e5 : IntKind.i64.wrap ((n : Int) * 11 + 2) = (n : Int) * 11 + 2 := IntWalk.i64_in _ (by omega)
          have e6 : ((n : Int) * 11 + 2).tmod 27 = (j : Int) := by rw [Int.tmod_eq_emod_of_nonneg (by omega)]; omega
          have hi0 : (0 : Int) ≤ (i : Int) := by omega
          have hi1 : (i : Int) < 27 := by omega
          have hj0 : (0 : Int) ≤ (j : Int) := by omega
          have hj1 : (j : Int) < 27 := by omega
          obtain ⟨c0, c1, c2⟩ := HSn.out i hi
          have A1 := CH.out i j hi hj
          have A2 := FA.out i hi
          have A3 := FB.out j hj
          have A4 := fun w => Lib.hid (cnt_at (rT p i) w)
          have A5 := fun w => Lib.hid (cnt_at (rT q j) w)
          have K0 := Blk.new wr #[.int .i64 (ax i), .int .i64 (ay i), .int .i64 (az i)] 24
          have KB := (Below.refl wr.heap.size wr).alloc (Nat.le_refl _) (.cells #[.int .i64 (ax i), .int .i64 (ay i), .int .i64 (az i)] 24)
          obtain ⟨d0, d1, d2⟩ := (HSn.out.kept KB) j hj
          have L1 := Blk.new (wr.alloc (.cells #[.int .i64 (ax i), .int .i64 (ay i), .int .i64 (az i)] 24)) #[.int .i64 (ax j), .int .i64 (ay j), .int .i64 (az j)] 24
          have LB := (Below.refl _ (wr.alloc (.cells #[.int .i64 (ax i), .int .i64 (ay i), .int .i64 (az i)] 24))).alloc (Nat.le_refl _) (.cells #[.int .i64 (ax j), .int .i64 (ay j), .int .i64 (az j)] 24)
          have LZ : (wr.alloc (.cells #[.int .i64 (ax i), .int .i64 (ay i), .int .i64 (az i)] 24)).heap.size = wr.heap.size + 1 := by simp
          rw [LZ] at L1
          have L0 := Lib.hid (K0.kept LB)
          have HSx := Lib.hid ((HSn.out.kept KB).kept LB)
          have HBx := Lib.hid (bnext (bnext HBn.out KB) LB)
          replace L1 := Lib.hid L1
          clear ei ej hi hj LZ LB KB K0
          generalize hG : G i j = b at *
          generalize cnt 27 (rT p i) = na at *
          generalize cnt 27 (rT q j) = nb at *
          generalize bs (tb (rT p i)) = fa at *
          generalize bs (tb (rT q j)) = fb at *
          clear hG
          obtain ⟨q0, q1, q2⟩ := L0.out.c3
          obtain ⟨q3, q4, q5⟩ := L1.out.c3
          go_wp2_with fail
          clear c0 c1 c2 d0 d1 d2 HSn HBn q0 q1 q2 q3 q4 q5
          generalize (wr.alloc (.cells #[.int .i64 (ax i), .int .i64 (ay i), .int .i64 (az i)] 24)).alloc (.cells #[.int .i64 (ax j), .int .i64 (ay j), .int .i64 (az j)] 24) = wx at *
          generalize wr.heap.size = B0 at *
          refine (A1 _).out.mono ?_
          rintro e wx2 ⟨rfl, hb⟩
          replace L0 := Lib.hid (L0.out.kept hb)
          replace L1 := Lib.hid (L1.out.kept hb)
          replace HSx := Lib.hid (HSx.out.kept hb)
          replace HBx := Lib.hid (bnext HBx.out hb)
          clear hb
          cases b
          case' false =>
            obtain ⟨wx, hwx⟩ : ∃ wx, wx = wx2 := ⟨_, rfl⟩
            rw [← hwx] at L0 L1 HSx HBx ⊢
            clear hwx
          case' true =>
            obtain ⟨q0, q1, q2⟩ := L0.out.c3
            obtain ⟨q3, q4, q5⟩ := L1.out.c3
            go_wp2_with fail
            refine (A1 _).out.mono ?_
            rintro e wx3 ⟨rfl, hb⟩
            replace L0 := Lib.hid (L0.out.kept hb)
            replace L1 := Lib.hid (L1.out.kept hb)
            replace HSx := Lib.hid (HSx.out.kept hb)
            replace HBx := Lib.hid (bnext HBx.out hb)
            clear hb q0 q1 q2 q3 q4 q5
            obtain ⟨wx, hwx⟩ : ∃ wx, wx = wx3 := ⟨_, rfl⟩
            rw [← hwx] at L0 L1 HSx HBx ⊢
            clear hwx
          all_goals
            by_cases hna : na = 0
            · subst hna
              obtain ⟨q0, q1, q2⟩ := L0.out.c3
              obtain ⟨q3, q4, q5⟩ := L1.out.c3
              go_wp2_with fail
              have hbb := (Below.refl wx.heap.size wx).drew
              have RG : ∀ w', Below wx.heap.size wx w' → (fun w' => Below wx.heap.size wx w' ∧ w'.cell? ⟨B0, 0, none⟩ = some (.int .i64 (ax i)) ∧ w'.cell? ⟨B0, 1, none⟩ = some (.int .i64 (ay i)) ∧ w'.cell? ⟨B0, 2, none⟩ = some (.int .i64 (az i)) ∧ w'.cell? ⟨B0 + 1, 0, none⟩ = some (.int .i64 (ax j)) ∧ w'.cell? ⟨B0 + 1, 1, none⟩ = some (.int .i64 (ay j)) ∧ w'.cell? ⟨B0 + 1, 2, none⟩ = some (.int .i64 (az j))) w' := fun w' h => ⟨h, ckeep h q0, ckeep h q1, ckeep h q2, ckeep h q3, ckeep h q4, ckeep h q5⟩
              have RG' := Lib.hid RG
              clear RG q0 q1 q2 q3 q4 q5
              refine wp_region_held_drew (S := fun w' => Below wx.heap.size wx w' ∧ w'.cell? ⟨B0, 0, none⟩ = some (.int .i64 (ax i)) ∧ w'.cell? ⟨B0, 1, none⟩ = some (.int .i64 (ay i)) ∧ w'.cell? ⟨B0, 2, none⟩ = some (.int .i64 (az i)) ∧ w'.cell? ⟨B0 + 1, 0, none⟩ = some (.int .i64 (ax j)) ∧ w'.cell? ⟨B0 + 1, 1, none⟩ = some (.int .i64 (ay j)) ∧ w'.cell? ⟨B0 + 1, 2, none⟩ = some (.int .i64 (az j))) (by kernel_rfl) (RG'.out _ hbb) (fun hHeld => ?_)
              refine wpAnyH_take (i := 0) (oi := { dst := some 130, op := _, type := _, pos := _, after := _, guard := _ }) (v := ?_) rfl (by kernel_rfl) (by kernel_rfl) (by kernel_rfl) (fun _ _ _ h => h) (Or.inl ⟨by kernel_rfl, ?_⟩) hHeld ?_
              rotate_left
              · intro w hSw
                (try dsimp only at hSw)
                go_simp
                first | done | with_reducible rfl
              try simp only [Act.put]
              try simp only [List.setIfInBounds_toArray]
              refine wpAnyH_take (i := 1) (oi := { dst := some 131, op := _, type := _, pos := _, after := _, guard := _ }) (v := ?_) rfl (by kernel_rfl) (by kernel_rfl) (by kernel_rfl) (fun _ _ _ h => h) (Or.inl ⟨by kernel_rfl, ?_⟩) hHeld ?_
              rotate_left
              · intro w hSw
                (try dsimp only at hSw)
                go_simp
                first | done | with_reducible rfl
              try simp only [Act.put]
              try simp only [List.setIfInBounds_toArray]
              refine wpAnyH_ready (rs := [2]) (by kernel_rfl) (by simp) ?_
              refine AllReadyH.cons rfl (fun K hK => ?_) AllReadyH.nil
              go_simp
              (with_reducible refine (A2 _).out.mono ?_)
              rintro e w9 ⟨rfl, hq⟩
              go_wp2_with fail
              refine hK.out _ _ (RG'.out _ (bnext hHeld.1 hq)) (fun hHeld => ?_)
              clear hK K hq
              try simp only [Act.put]
              try simp only [List.setIfInBounds_toArray]
              refine wpAnyH_ready (rs := [3]) (by kernel_rfl) (by simp) ?_
              refine AllReadyH.cons rfl (fun K hK => ?_) AllReadyH.nil
              go_simp
              (with_reducible refine (A4 _).out.mono ?_)
              rintro e w9 ⟨rfl, hq⟩
              go_wp2_with fail
              refine hK.out _ _ (RG'.out _ (bnext hHeld.1 hq)) (fun hHeld => ?_)
              clear hK K hq
              try simp only [Act.put]
              try simp only [List.setIfInBounds_toArray]
              refine wpAnyH_take (i := 4) (oi := { dst := some 134, op := _, type := _, pos := _, after := _, guard := _ }) (v := ?_) rfl (by kernel_rfl) (by kernel_rfl) (by kernel_rfl) (fun _ _ _ h => h) (Or.inl ⟨by kernel_rfl, ?_⟩) hHeld ?_
              rotate_left
              · intro w hSw
                (try dsimp only at hSw)
                go_simp
                first | done | with_reducible rfl
              try simp only [Act.put]
              try simp only [List.setIfInBounds_toArray]
              refine wpAnyH_take (i := 5) (oi := { dst := some 135, op := _, type := _, pos := _, after := _, guard := _ }) (v := ?_) rfl (by kernel_rfl) (by kernel_rfl) (by kernel_rfl) (fun _ _ _ h => h) (Or.inl ⟨by kernel_rfl, ?_⟩) hHeld ?_
              rotate_left
              · intro w hSw
                (try dsimp only at hSw)
                go_simp
                first | done | with_reducible rfl
              try simp only [Act.put]
              try simp only [List.setIfInBounds_toArray]
              refine wpAnyH_take (i := 6) (oi := { dst := some 136, op := _, type := _, pos := _, after := _, guard := _ }) rfl (by kernel_rfl) (by kernel_rfl) (by kernel_rfl) (fun _ _ _ h => h) (Or.inr ⟨by kernel_rfl, rfl⟩) hHeld ?_
              try simp only [Act.put]
              try simp only [List.setIfInBounds_toArray]
              refine wpAnyH_take (i := 7) (oi := { dst := some 137, op := _, type := _, pos := _, after := _, guard := _ }) rfl (by kernel_rfl) (by kernel_rfl) (by kernel_rfl) (fun _ _ _ h => h) (Or.inr ⟨by kernel_rfl, rfl⟩) hHeld ?_
              try simp only [Act.put]
              try simp only [List.setIfInBounds_toArray]
              refine wpAnyH_ready (rs := [8]) (by kernel_rfl) (by simp) ?_
              refine AllReadyH.cons (o := { dst := some 138, op := _, type := _, pos := _, after := _, guard := _ }) rfl (fun K hK => ?_) AllReadyH.nil
              refine Eq.mpr (if_neg (Bool.eq_false_iff.mp (by kernel_rfl))) ?_
              refine hK.out _ _ hHeld (fun hHeld => ?_)
              clear hK K
              try simp only [Act.put]
              try simp only [List.setIfInBounds_toArray]
              refine wpAnyH_ready (rs := [9]) (by kernel_rfl) (by simp) ?_
              refine AllReadyH.cons (o := { dst := some 139, op := _, type := _, pos := _, after := _, guard := _ }) rfl (fun K hK => ?_) AllReadyH.nil
              refine Eq.mpr (if_neg (Bool.eq_false_iff.mp (by kernel_rfl))) ?_
              refine hK.out _ _ hHeld (fun hHeld => ?_)
              clear hK K
              try simp only [Act.put]
              try simp only [List.setIfInBounds_toArray]
              refine wpAnyH_take (i := 10) (oi := { dst := some 140, op := _, type := _, pos := _, after := _, guard := _ }) rfl (by kernel_rfl) (by kernel_rfl) (by kernel_rfl) (fun _ _ _ h => h) (Or.inr ⟨by kernel_rfl, rfl⟩) hHeld ?_
              try simp only [Act.put]
              try simp only [List.setIfInBounds_toArray]
              refine wpAnyH_take (i := 11) (oi := { dst := some 141, op := _, type := _, pos := _, after := _, guard := _ }) (v := ?_) rfl (by kernel_rfl) (by kernel_rfl) (by kernel_rfl) (fun _ _ _ h => h) (Or.inl ⟨by kernel_rfl, ?_⟩) hHeld ?_
              rotate_left
              · intro w hSw
                (try dsimp only at hSw)
                go_simp
                first | done | with_reducible rfl
              try simp only [Act.put]
              try simp only [List.setIfInBounds_toArray]
              refine wpAnyH_take (i := 12) (oi := { dst := some 142, op := _, type := _, pos := _, after := _, guard := _ }) (v := ?_) rfl (by kernel_rfl) (by kernel_rfl) (by kernel_rfl) (fun _ _ _ h => h) (Or.inl ⟨by kernel_rfl, ?_⟩) hHeld ?_
              rotate_left
              · intro w hSw
                (try dsimp only at hSw)
                go_simp
                first | done | with_reducible rfl
              try simp only [Act.put]
              try simp only [List.setIfInBounds_toArray]
              try simp only [List.set_cons_zero, List.set_cons_succ]
              refine wpAnyH_take (i := 13) (oi := { dst := some 143, op := _, type := _, pos := _, after := _, guard := _ }) rfl (by kernel_rfl) (by kernel_rfl) (by kernel_rfl) (fun _ _ _ h => h) (Or.inr ⟨by kernel_rfl, rfl⟩) hHeld ?_
              try simp only [Act.put]
              try simp only [List.setIfInBounds_toArray]
              refine wpAnyH_take (i := 14) (oi := { dst := some 144, op := _, type := _, pos := _, after := _, guard := _ }) rfl (by kernel_rfl) (by kernel_rfl) (by kernel_rfl) (fun _ _ _ h => h) (Or.inr ⟨by kernel_rfl, rfl⟩) hHeld ?_
              try simp only [Act.put]
              try simp only [List.setIfInBounds_toArray]
              refine wpAnyH_take (i := 15) (oi := { dst := some 145, op := _, type := _, pos := _, after := _, guard := _ }) rfl (by kernel_rfl) (by kernel_rfl) (by kernel_rfl) (fun _ _ _ h => h) (Or.inr ⟨by kernel_rfl, rfl⟩) hHeld ?_
              try simp only [Act.put]
              try simp only [List.setIfInBounds_toArray]
              refine wpAnyH_take (i := 17) (oi := { dst := some 147, op := _, type := _, pos := _, after := _, guard := _ }) rfl (by kernel_rfl) (by kernel_rfl) (by kernel_rfl) (fun _ _ _ h => h) (Or.inr ⟨by kernel_rfl, rfl⟩) hHeld ?_
              try simp only [Act.put]
              try simp only [List.setIfInBounds_toArray]
              refine wpAnyH_take (i := 18) (oi := { dst := some 148, op := _, type := _, pos := _, after := _, guard := _ }) rfl (by kernel_rfl) (by kernel_rfl) (by kernel_rfl) (fun _ _ _ h => h) (Or.inr ⟨by kernel_rfl, rfl⟩) hHeld ?_
              try simp only [Act.put]
              try simp only [List.setIfInBounds_toArray]
              refine wpAnyH_take (i := 19) (oi := { dst := some 149, op := _, type := _, pos := _, after := _, guard := _ }) rfl (by kernel_rfl) (by kernel_rfl) (by kernel_rfl) (fun _ _ _ h => h) (Or.inr ⟨by kernel_rfl, rfl⟩) hHeld ?_
              try simp only [Act.put]
              try simp only [List.setIfInBounds_toArray]
              refine wpAnyH_ready (rs := [16]) (by kernel_rfl) (by simp) ?_
              refine AllReadyH.cons (o := { dst := some 146, op := _, type := _, pos := _, after := _, guard := _ }) rfl (fun K hK => ?_) AllReadyH.nil
              refine Eq.mpr (if_neg (Bool.eq_false_iff.mp (by kernel_rfl))) ?_
              refine hK.out _ _ hHeld (fun hHeld => ?_)
              clear hK K
              try simp only [Act.put]
              try simp only [List.setIfInBounds_toArray]
              refine wpAnyH_ready (rs := [20]) (by kernel_rfl) (by simp) ?_
              refine AllReadyH.cons (o := { dst := some 150, op := _, type := _, pos := _, after := _, guard := _ }) rfl (fun K hK => ?_) AllReadyH.nil
              refine Eq.mpr (if_neg (Bool.eq_false_iff.mp (by kernel_rfl))) ?_
              refine hK.out _ _ hHeld (fun hHeld => ?_)
              clear hK K
              try simp only [Act.put]
              try simp only [List.setIfInBounds_toArray]
              refine wpAnyH_take (i := 21) (oi := { dst := some 151, op := _, type := _, pos := _, after := _, guard := _ }) rfl (by kernel_rfl) (by kernel_rfl) (by kernel_rfl) (fun _ _ _ h => h) (Or.inr ⟨by kernel_rfl, rfl⟩) hHeld ?_
              try simp only [Act.put]
              try simp only [List.setIfInBounds_toArray]
              refine wpAnyH_take (i := 22) (oi := { dst := some 152, op := _, type := _, pos := _, after := _, guard := _ }) (v := ?_) rfl (by kernel_rfl) (by kernel_rfl) (by kernel_rfl) (fun _ _ _ h => h) (Or.inl ⟨by kernel_rfl, ?_⟩) hHeld ?_
              rotate_left
              · intro w hSw
                (try dsimp only at hSw)
                go_simp
                first | done | with_reducible rfl
              try simp only [Act.put]
              try simp only [List.setIfInBounds_toArray]
              refine wpAnyH_done (by kernel_rfl) ?_ _
              have HSy := Lib.hid (HSx.out.kept hHeld.1)
              have HBy := Lib.hid (bnext HBx.out hHeld.1)
              clear hHeld RG' hbb
              try simp only [List.set_cons_zero, List.set_cons_succ]
              go_wp2_with fail
              exact ⟨⟨n + 1, by omega, by go_num, HBy, HSy⟩, by simp [intOf]; omega⟩
            · have n1 : 0 < na := Nat.pos_of_ne_zero hna
              have n1i : decide ((0 : Int) < (na : Int)) = true := decide_eq_true (by omega)
              clear hna
              by_cases hnb : nb = 0
              · subst hnb
                obtain ⟨q0, q1, q2⟩ := L0.out.c3
                obtain ⟨q3, q4, q5⟩ := L1.out.c3
                go_wp2_with fail
                have hbb := (Below.refl wx.heap.size wx).drew
                have RG : ∀ w', Below wx.heap.size wx w' → (fun w' => Below wx.heap.size wx w' ∧ w'.cell? ⟨B0, 0, none⟩ = some (.int .i64 (ax i)) ∧ w'.cell? ⟨B0, 1, none⟩ = some (.int .i64 (ay i)) ∧ w'.cell? ⟨B0, 2, none⟩ = some (.int .i64 (az i)) ∧ w'.cell? ⟨B0 + 1, 0, none⟩ = some (.int .i64 (ax j)) ∧ w'.cell? ⟨B0 + 1, 1, none⟩ = some (.int .i64 (ay j)) ∧ w'.cell? ⟨B0 + 1, 2, none⟩ = some (.int .i64 (az j))) w' := fun w' h => ⟨h, ckeep h q0, ckeep h q1, ckeep h q2, ckeep h q3, ckeep h q4, ckeep h q5⟩
                have RG' := Lib.hid RG
                clear RG q0 q1 q2 q3 q4 q5
                refine wp_region_held_drew (S := fun w' => Below wx.heap.size wx w' ∧ w'.cell? ⟨B0, 0, none⟩ = some (.int .i64 (ax i)) ∧ w'.cell? ⟨B0, 1, none⟩ = some (.int .i64 (ay i)) ∧ w'.cell? ⟨B0, 2, none⟩ = some (.int .i64 (az i)) ∧ w'.cell? ⟨B0 + 1, 0, none⟩ = some (.int .i64 (ax j)) ∧ w'.cell? ⟨B0 + 1, 1, none⟩ = some (.int .i64 (ay j)) ∧ w'.cell? ⟨B0 + 1, 2, none⟩ = some (.int .i64 (az j))) (by kernel_rfl) (RG'.out _ hbb) (fun hHeld => ?_)
                refine wpAnyH_take (i := 0) (oi := { dst := some 130, op := _, type := _, pos := _, after := _, guard := _ }) (v := ?_) rfl (by kernel_rfl) (by kernel_rfl) (by kernel_rfl) (fun _ _ _ h => h) (Or.inl ⟨by kernel_rfl, ?_⟩) hHeld ?_
                rotate_left
                · intro w hSw
                  (try dsimp only at hSw)
                  go_simp
                  first | done | with_reducible rfl
                try simp only [Act.put]
                try simp only [List.setIfInBounds_toArray]
                refine wpAnyH_take (i := 1) (oi := { dst := some 131, op := _, type := _, pos := _, after := _, guard := _ }) (v := ?_) rfl (by kernel_rfl) (by kernel_rfl) (by kernel_rfl) (fun _ _ _ h => h) (Or.inl ⟨by kernel_rfl, ?_⟩) hHeld ?_
                rotate_left
                · intro w hSw
                  (try dsimp only at hSw)
                  go_simp
                  first | done | with_reducible rfl
                try simp only [Act.put]
                try simp only [List.setIfInBounds_toArray]
                refine wpAnyH_ready (rs := [2]) (by kernel_rfl) (by simp) ?_
                refine AllReadyH.cons rfl (fun K hK => ?_) AllReadyH.nil
                go_simp
                (with_reducible refine (A2 _).out.mono ?_)
                rintro e w9 ⟨rfl, hq⟩
                go_wp2_with fail
                refine hK.out _ _ (RG'.out _ (bnext hHeld.1 hq)) (fun hHeld => ?_)
                clear hK K hq
                try simp only [Act.put]
                try simp only [List.setIfInBounds_toArray]
                refine wpAnyH_ready (rs := [3]) (by kernel_rfl) (by simp) ?_
                refine AllReadyH.cons rfl (fun K hK => ?_) AllReadyH.nil
                go_simp
                (with_reducible refine (A4 _).out.mono ?_)
                rintro e w9 ⟨rfl, hq⟩
                go_wp2_with fail
                refine hK.out _ _ (RG'.out _ (bnext hHeld.1 hq)) (fun hHeld => ?_)
                clear hK K hq
                try simp only [Act.put]
                try simp only [List.setIfInBounds_toArray]
                refine wpAnyH_take (i := 4) (oi := { dst := some 134, op := _, type := _, pos := _, after := _, guard := _ }) (v := ?_) rfl (by kernel_rfl) (by kernel_rfl) (by kernel_rfl) (fun _ _ _ h => h) (Or.inl ⟨by kernel_rfl, ?_⟩) hHeld ?_
                rotate_left
                · intro w hSw
                  (try dsimp only at hSw)
                  go_simp
                  first | done | with_reducible rfl
                try simp only [Act.put]
                try simp only [List.setIfInBounds_toArray]
                refine wpAnyH_take (i := 5) (oi := { dst := some 135, op := _, type := _, pos := _, after := _, guard := _ }) (v := ?_) rfl (by kernel_rfl) (by kernel_rfl) (by kernel_rfl) (fun _ _ _ h => h) (Or.inl ⟨by kernel_rfl, ?_⟩) hHeld ?_
                rotate_left
                · intro w hSw
                  (try dsimp only at hSw)
                  go_simp
                  first | done | with_reducible rfl
                try simp only [Act.put]
                try simp only [List.setIfInBounds_toArray]
                refine wpAnyH_take (i := 6) (oi := { dst := some 136, op := _, type := _, pos := _, after := _, guard := _ }) (v := ?_) rfl (by kernel_rfl) (by kernel_rfl) (by kernel_rfl) (fun _ _ _ h => h) (Or.inl ⟨by kernel_rfl, ?_⟩) hHeld ?_
                rotate_left
                · intro w hSw
                  (try dsimp only at hSw)
                  go_simp
                  first | done | with_reducible rfl
                try simp only [Act.put]
                try simp only [List.setIfInBounds_toArray]
                refine wpAnyH_take (i := 7) (oi := { dst := some 137, op := _, type := _, pos := _, after := _, guard := _ }) (v := ?_) rfl (by kernel_rfl) (by kernel_rfl) (by kernel_rfl) (fun _ _ _ h => h) (Or.inl ⟨by kernel_rfl, ?_⟩) hHeld ?_
                rotate_left
                · intro w hSw
                  (try dsimp only at hSw)
                  go_simp
                  first | done | with_reducible rfl
                try simp only [Act.put]
                try simp only [List.setIfInBounds_toArray]
                refine wpAnyH_ready (rs := [8]) (by kernel_rfl) (by simp) ?_
                refine AllReadyH.cons rfl (fun K hK => ?_) AllReadyH.nil
                go_simp
                (with_reducible refine (A3 _).out.mono ?_)
                rintro e w9 ⟨rfl, hq⟩
                go_wp2_with fail
                refine hK.out _ _ (RG'.out _ (bnext hHeld.1 hq)) (fun hHeld => ?_)
                clear hK K hq
                try simp only [Act.put]
                try simp only [List.setIfInBounds_toArray]
                refine wpAnyH_ready (rs := [9]) (by kernel_rfl) (by simp) ?_
                refine AllReadyH.cons rfl (fun K hK => ?_) AllReadyH.nil
                go_simp
                (with_reducible refine (A5 _).out.mono ?_)
                rintro e w9 ⟨rfl, hq⟩
                go_wp2_with fail
                refine hK.out _ _ (RG'.out _ (bnext hHeld.1 hq)) (fun hHeld => ?_)
                clear hK K hq
                try simp only [Act.put]
                try simp only [List.setIfInBounds_toArray]
                refine wpAnyH_take (i := 10) (oi := { dst := some 140, op := _, type := _, pos := _, after := _, guard := _ }) (v := ?_) rfl (by kernel_rfl) (by kernel_rfl) (by kernel_rfl) (fun _ _ _ h => h) (Or.inl ⟨by kernel_rfl, ?_⟩) hHeld ?_
                rotate_left
                · intro w hSw
                  (try dsimp only at hSw)
                  go_simp
                  first | done | with_reducible rfl
                try simp only [Act.put]
                try simp only [List.setIfInBounds_toArray]
                refine wpAnyH_take (i := 11) (oi := { dst := some 141, op := _, type := _, pos := _, after := _, guard := _ }) (v := ?_) rfl (by kernel_rfl) (by kernel_rfl) (by kernel_rfl) (fun _ _ _ h => h) (Or.inl ⟨by kernel_rfl, ?_⟩) hHeld ?_
                rotate_left
                · intro w hSw
                  (try dsimp only at hSw)
                  go_simp
                  first | done | with_reducible rfl
                try simp only [Act.put]
                try simp only [List.setIfInBounds_toArray]
                refine wpAnyH_take (i := 12) (oi := { dst := some 142, op := _, type := _, pos := _, after := _, guard := _ }) (v := ?_) rfl (by kernel_rfl) (by kernel_rfl) (by kernel_rfl) (fun _ _ _ h => h) (Or.inl ⟨by kernel_rfl, ?_⟩) hHeld ?_
                rotate_left
                · intro w hSw
                  (try dsimp only at hSw)
                  go_simp
                  first | done | with_reducible rfl
                try simp only [Act.put]
                try simp only [List.setIfInBounds_toArray]
                try simp only [List.set_cons_zero, List.set_cons_succ]
                refine wpAnyH_take (i := 13) (oi := { dst := some 143, op := _, type := _, pos := _, after := _, guard := _ }) rfl (by kernel_rfl) (by kernel_rfl) (by kernel_rfl) (fun _ _ _ h => h) (Or.inr ⟨by kernel_rfl, rfl⟩) hHeld ?_
                try simp only [Act.put]
                try simp only [List.setIfInBounds_toArray]
                refine wpAnyH_take (i := 14) (oi := { dst := some 144, op := _, type := _, pos := _, after := _, guard := _ }) rfl (by kernel_rfl) (by kernel_rfl) (by kernel_rfl) (fun _ _ _ h => h) (Or.inr ⟨by kernel_rfl, rfl⟩) hHeld ?_
                try simp only [Act.put]
                try simp only [List.setIfInBounds_toArray]
                refine wpAnyH_take (i := 15) (oi := { dst := some 145, op := _, type := _, pos := _, after := _, guard := _ }) rfl (by kernel_rfl) (by kernel_rfl) (by kernel_rfl) (fun _ _ _ h => h) (Or.inr ⟨by kernel_rfl, rfl⟩) hHeld ?_
                try simp only [Act.put]
                try simp only [List.setIfInBounds_toArray]
                refine wpAnyH_take (i := 17) (oi := { dst := some 147, op := _, type := _, pos := _, after := _, guard := _ }) rfl (by kernel_rfl) (by kernel_rfl) (by kernel_rfl) (fun _ _ _ h => h) (Or.inr ⟨by kernel_rfl, rfl⟩) hHeld ?_
                try simp only [Act.put]
                try simp only [List.setIfInBounds_toArray]
                refine wpAnyH_take (i := 18) (oi := { dst := some 148, op := _, type := _, pos := _, after := _, guard := _ }) rfl (by kernel_rfl) (by kernel_rfl) (by kernel_rfl) (fun _ _ _ h => h) (Or.inr ⟨by kernel_rfl, rfl⟩) hHeld ?_
                try simp only [Act.put]
                try simp only [List.setIfInBounds_toArray]
                refine wpAnyH_take (i := 19) (oi := { dst := some 149, op := _, type := _, pos := _, after := _, guard := _ }) rfl (by kernel_rfl) (by kernel_rfl) (by kernel_rfl) (fun _ _ _ h => h) (Or.inr ⟨by kernel_rfl, rfl⟩) hHeld ?_
                try simp only [Act.put]
                try simp only [List.setIfInBounds_toArray]
                refine wpAnyH_ready (rs := [16]) (by kernel_rfl) (by simp) ?_
                refine AllReadyH.cons (o := { dst := some 146, op := _, type := _, pos := _, after := _, guard := _ }) rfl (fun K hK => ?_) AllReadyH.nil
                refine Eq.mpr (if_neg (Bool.eq_false_iff.mp (by kernel_rfl))) ?_
                refine hK.out _ _ hHeld (fun hHeld => ?_)
                clear hK K
                try simp only [Act.put]
                try simp only [List.setIfInBounds_toArray]
                refine wpAnyH_ready (rs := [20]) (by kernel_rfl) (by simp) ?_
                refine AllReadyH.cons (o := { dst := some 150, op := _, type := _, pos := _, after := _, guard := _ }) rfl (fun K hK => ?_) AllReadyH.nil
                refine Eq.mpr (if_neg (Bool.eq_false_iff.mp (by kernel_rfl))) ?_
                refine hK.out _ _ hHeld (fun hHeld => ?_)
                clear hK K
                try simp only [Act.put]
                try simp only [List.setIfInBounds_toArray]
                refine wpAnyH_take (i := 21) (oi := { dst := some 151, op := _, type := _, pos := _, after := _, guard := _ }) rfl (by kernel_rfl) (by kernel_rfl) (by kernel_rfl) (fun _ _ _ h => h) (Or.inr ⟨by kernel_rfl, rfl⟩) hHeld ?_
                try simp only [Act.put]
                try simp only [List.setIfInBounds_toArray]
                refine wpAnyH_take (i := 22) (oi := { dst := some 152, op := _, type := _, pos := _, after := _, guard := _ }) (v := ?_) rfl (by kernel_rfl) (by kernel_rfl) (by kernel_rfl) (fun _ _ _ h => h) (Or.inl ⟨by kernel_rfl, ?_⟩) hHeld ?_
                rotate_left
                · intro w hSw
                  (try dsimp only at hSw)
                  go_simp
                  first | done | with_reducible rfl
                try simp only [Act.put]
                try simp only [List.setIfInBounds_toArray]
                refine wpAnyH_done (by kernel_rfl) ?_ _
                have HSy := Lib.hid (HSx.out.kept hHeld.1)
                have HBy := Lib.hid (bnext HBx.out hHeld.1)
                clear hHeld RG' hbb
                try simp only [List.set_cons_zero, List.set_cons_succ]
                go_wp2_with fail
                exact ⟨⟨n + 1, by omega, by go_num, HBy, HSy⟩, by simp [intOf]; omega⟩
              · have n2 : 0 < nb := Nat.pos_of_ne_zero hnb
                have n2i : decide ((0 : Int) < (nb : Int)) = true := decide_eq_true (by omega)
                clear hnb
                obtain ⟨q0, q1, q2⟩ := L0.out.c3
                obtain ⟨q3, q4, q5⟩ := L1.out.c3
                go_wp2_with fail
                have hbb := (Below.refl wx.heap.size wx).drew
                have RG : ∀ w', Below wx.heap.size wx w' → (fun w' => Below wx.heap.size wx w' ∧ w'.cell? ⟨B0, 0, none⟩ = some (.int .i64 (ax i)) ∧ w'.cell? ⟨B0, 1, none⟩ = some (.int .i64 (ay i)) ∧ w'.cell? ⟨B0, 2, none⟩ = some (.int .i64 (az i)) ∧ w'.cell? ⟨B0 + 1, 0, none⟩ = some (.int .i64 (ax j)) ∧ w'.cell? ⟨B0 + 1, 1, none⟩ = some (.int .i64 (ay j)) ∧ w'.cell? ⟨B0 + 1, 2, none⟩ = some (.int .i64 (az j))) w' := fun w' h => ⟨h, ckeep h q0, ckeep h q1, ckeep h q2, ckeep h q3, ckeep h q4, ckeep h q5⟩
                have RG' := Lib.hid RG
                clear RG q0 q1 q2 q3 q4 q5
                refine wp_region_held_drew (S := fun w' => Below wx.heap.size wx w' ∧ w'.cell? ⟨B0, 0, none⟩ = some (.int .i64 (ax i)) ∧ w'.cell? ⟨B0, 1, none⟩ = some (.int .i64 (ay i)) ∧ w'.cell? ⟨B0, 2, none⟩ = some (.int .i64 (az i)) ∧ w'.cell? ⟨B0 + 1, 0, none⟩ = some (.int .i64 (ax j)) ∧ w'.cell? ⟨B0 + 1, 1, none⟩ = some (.int .i64 (ay j)) ∧ w'.cell? ⟨B0 + 1, 2, none⟩ = some (.int .i64 (az j))) (by kernel_rfl) (RG'.out _ hbb) (fun hHeld => ?_)
                refine wpAnyH_take (i := 0) (oi := { dst := some 130, op := _, type := _, pos := _, after := _, guard := _ }) (v := ?_) rfl (by kernel_rfl) (by kernel_rfl) (by kernel_rfl) (fun _ _ _ h => h) (Or.inl ⟨by kernel_rfl, ?_⟩) hHeld ?_
                rotate_left
                · intro w hSw
                  (try dsimp only at hSw)
                  go_simp
                  first | done | with_reducible rfl
                try simp only [Act.put]
                try simp only [List.setIfInBounds_toArray]
                refine wpAnyH_take (i := 1) (oi := { dst := some 131, op := _, type := _, pos := _, after := _, guard := _ }) (v := ?_) rfl (by kernel_rfl) (by kernel_rfl) (by kernel_rfl) (fun _ _ _ h => h) (Or.inl ⟨by kernel_rfl, ?_⟩) hHeld ?_
                rotate_left
                · intro w hSw
                  (try dsimp only at hSw)
                  go_simp
                  first | done | with_reducible rfl
                try simp only [Act.put]
                try simp only [List.setIfInBounds_toArray]
                refine wpAnyH_ready (rs := [2]) (by kernel_rfl) (by simp) ?_
                refine AllReadyH.cons rfl (fun K hK => ?_) AllReadyH.nil
                go_simp
                (with_reducible refine (A2 _).out.mono ?_)
                rintro e w9 ⟨rfl, hq⟩
                go_wp2_with fail
                refine hK.out _ _ (RG'.out _ (bnext hHeld.1 hq)) (fun hHeld => ?_)
                clear hK K hq
                try simp only [Act.put]
                try simp only [List.setIfInBounds_toArray]
                refine wpAnyH_ready (rs := [3]) (by kernel_rfl) (by simp) ?_
                refine AllReadyH.cons rfl (fun K hK => ?_) AllReadyH.nil
                go_simp
                (with_reducible refine (A4 _).out.mono ?_)
                rintro e w9 ⟨rfl, hq⟩
                go_wp2_with fail
                refine hK.out _ _ (RG'.out _ (bnext hHeld.1 hq)) (fun hHeld => ?_)
                clear hK K hq
                try simp only [Act.put]
                try simp only [List.setIfInBounds_toArray]
                refine wpAnyH_take (i := 4) (oi := { dst := some 134, op := _, type := _, pos := _, after := _, guard := _ }) (v := ?_) rfl (by kernel_rfl) (by kernel_rfl) (by kernel_rfl) (fun _ _ _ h => h) (Or.inl ⟨by kernel_rfl, ?_⟩) hHeld ?_
                rotate_left
                · intro w hSw
                  (try dsimp only at hSw)
                  go_simp
                  first | done | with_reducible rfl
                try simp only [Act.put]
                try simp only [List.setIfInBounds_toArray]
                refine wpAnyH_take (i := 5) (oi := { dst := some 135, op := _, type := _, pos := _, after := _, guard := _ }) (v := ?_) rfl (by kernel_rfl) (by kernel_rfl) (by kernel_rfl) (fun _ _ _ h => h) (Or.inl ⟨by kernel_rfl, ?_⟩) hHeld ?_
                rotate_left
                · intro w hSw
                  (try dsimp only at hSw)
                  go_simp
                  first | done | with_reducible rfl
                try simp only [Act.put]
                try simp only [List.setIfInBounds_toArray]
                refine wpAnyH_take (i := 6) (oi := { dst := some 136, op := _, type := _, pos := _, after := _, guard := _ }) (v := ?_) rfl (by kernel_rfl) (by kernel_rfl) (by kernel_rfl) (fun _ _ _ h => h) (Or.inl ⟨by kernel_rfl, ?_⟩) hHeld ?_
                rotate_left
                · intro w hSw
                  (try dsimp only at hSw)
                  go_simp
                  first | done | with_reducible rfl
                try simp only [Act.put]
                try simp only [List.setIfInBounds_toArray]
                refine wpAnyH_take (i := 7) (oi := { dst := some 137, op := _, type := _, pos := _, after := _, guard := _ }) (v := ?_) rfl (by kernel_rfl) (by kernel_rfl) (by kernel_rfl) (fun _ _ _ h => h) (Or.inl ⟨by kernel_rfl, ?_⟩) hHeld ?_
                rotate_left
                · intro w hSw
                  (try dsimp only at hSw)
                  go_simp
                  first | done | with_reducible rfl
                try simp only [Act.put]
                try simp only [List.setIfInBounds_toArray]
                refine wpAnyH_ready (rs := [8]) (by kernel_rfl) (by simp) ?_
                refine AllReadyH.cons rfl (fun K hK => ?_) AllReadyH.nil
                go_simp
                (with_reducible refine (A3 _).out.mono ?_)
                rintro e w9 ⟨rfl, hq⟩
                go_wp2_with fail
                refine hK.out _ _ (RG'.out _ (bnext hHeld.1 hq)) (fun hHeld => ?_)
                clear hK K hq
                try simp only [Act.put]
                try simp only [List.setIfInBounds_toArray]
                refine wpAnyH_ready (rs := [9]) (by kernel_rfl) (by simp) ?_
                refine AllReadyH.cons rfl (fun K hK => ?_) AllReadyH.nil
                go_simp
                (with_reducible refine (A5 _).out.mono ?_)
                rintro e w9 ⟨rfl, hq⟩
                go_wp2_with fail
                refine hK.out _ _ (RG'.out _ (bnext hHeld.1 hq)) (fun hHeld => ?_)
                clear hK K hq
                try simp only [Act.put]
                try simp only [List.setIfInBounds_toArray]
                refine wpAnyH_take (i := 10) (oi := { dst := some 140, op := _, type := _, pos := _, after := _, guard := _ }) (v := ?_) rfl (by kernel_rfl) (by kernel_rfl) (by kernel_rfl) (fun _ _ _ h => h) (Or.inl ⟨by kernel_rfl, ?_⟩) hHeld ?_
                rotate_left
                · intro w hSw
                  (try dsimp only at hSw)
                  go_simp
                  first | done | with_reducible rfl
                try simp only [Act.put]
                try simp only [List.setIfInBounds_toArray]
                refine wpAnyH_take (i := 11) (oi := { dst := some 141, op := _, type := _, pos := _, after := _, guard := _ }) (v := ?_) rfl (by kernel_rfl) (by kernel_rfl) (by kernel_rfl) (fun _ _ _ h => h) (Or.inl ⟨by kernel_rfl, ?_⟩) hHeld ?_
                rotate_left
                · intro w hSw
                  (try dsimp only at hSw)
                  go_simp
                  first | done | with_reducible rfl
                try simp only [Act.put]
                try simp only [List.setIfInBounds_toArray]
                refine wpAnyH_take (i := 12) (oi := { dst := some 142, op := _, type := _, pos := _, after := _, guard := _ }) (v := ?_) rfl (by kernel_rfl) (by kernel_rfl) (by kernel_rfl) (fun _ _ _ h => h) (Or.inl ⟨by kernel_rfl, ?_⟩) hHeld ?_
                rotate_left
                · intro w hSw
                  (try dsimp only at hSw)
                  go_simp
                  first | done | with_reducible rfl
                try simp only [Act.put]
                try simp only [List.setIfInBounds_toArray]
                refine wpAnyH_take (i := 13) (oi := { dst := some 143, op := _, type := _, pos := _, after := _, guard := _ }) (v := ?_) rfl (by kernel_rfl) (by kernel_rfl) (by kernel_rfl) (fun _ _ _ h => h) (Or.inl ⟨by kernel_rfl, ?_⟩) hHeld ?_
                rotate_left
                · intro w hSw
                  (try dsimp only at hSw)
                  go_simp
                  first | done | with_reducible rfl
                try simp only [Act.put]
                try simp only [List.setIfInBounds_toArray]
                refine wpAnyH_take (i := 14) (oi := { dst := some 144, op := _, type := _, pos := _, after := _, guard := _ }) (v := ?_) rfl (by kernel_rfl) (by kernel_rfl) (by kernel_rfl) (fun _ _ _ h => h) (Or.inl ⟨by kernel_rfl, ?_⟩) hHeld ?_
                rotate_left
                · intro w hSw
                  (try dsimp only at hSw)
                  go_simp
                  first | done | with_reducible rfl
                try simp only [Act.put]
                try simp only [List.setIfInBounds_toArray]
                refine wpAnyH_take (i := 15) (oi := { dst := some 145, op := _, type := _, pos := _, after := _, guard := _ }) (v := ?_) rfl (by kernel_rfl) (by kernel_rfl) (by kernel_rfl) (fun _ _ _ h => h) (Or.inl ⟨by kernel_rfl, ?_⟩) hHeld ?_
                rotate_left
                · intro w hSw
                  (try dsimp only at hSw)
                  go_simp
                  first | done | with_reducible rfl
                try simp only [Act.put]
                try simp only [List.setIfInBounds_toArray]
                refine wpAnyH_take (i := 17) (oi := { dst := some 147, op := _, type := _, pos := _, after := _, guard := _ }) (v := ?_) rfl (by kernel_rfl) (by kernel_rfl) (by kernel_rfl) (fun _ _ _ h => h) (Or.inl ⟨by kernel_rfl, ?_⟩) hHeld ?_
                rotate_left
                · intro w hSw
                  (try dsimp only at hSw)
                  go_simp
                  first | done | with_reducible rfl
                try simp only [Act.put]
                try simp only [List.setIfInBounds_toArray]
                refine wpAnyH_take (i := 18) (oi := { dst := some 148, op := _, type := _, pos := _, after := _, guard := _ }) (v := ?_) rfl (by kernel_rfl) (by kernel_rfl) (by kernel_rfl) (fun _ _ _ h => h) (Or.inl ⟨by kernel_rfl, ?_⟩) hHeld ?_
                rotate_left
                · intro w hSw
                  (try dsimp only at hSw)
                  go_simp
                  first | done | with_reducible rfl
                try simp only [Act.put]
                try simp only [List.setIfInBounds_toArray]
                refine wpAnyH_take (i := 19) (oi := { dst := some 149, op := _, type := _, pos := _, after := _, guard := _ }) (v := ?_) rfl (by kernel_rfl) (by kernel_rfl) (by kernel_rfl) (fun _ _ _ h => h) (Or.inl ⟨by kernel_rfl, ?_⟩) hHeld ?_
                rotate_left
                · intro w hSw
                  (try dsimp only at hSw)
                  go_simp
                  first | done | with_reducible rfl
                try simp only [Act.put]
                try simp only [List.setIfInBounds_toArray]
                refine wpAnyH_ready (rs := [16]) (by kernel_rfl) (by simp) ?_
                refine AllReadyH.cons rfl (fun K hK => ?_) AllReadyH.nil
                go_simp
                (with_reducible refine (A1 _).out.mono ?_)
                rintro e w9 ⟨rfl, hq⟩
                go_wp2_with fail
                refine hK.out _ _ (RG'.out _ (bnext hHeld.1 hq)) (fun hHeld => ?_)
                clear hK K hq
                try simp only [Act.put]
                try simp only [List.setIfInBounds_toArray]
                refine wpAnyH_ready (rs := [20]) (by kernel_rfl) (by simp) ?_
                refine AllReadyH.cons rfl (fun K hK => ?_) AllReadyH.nil
                go_simp
                (with_reducible refine (A1 _).out.mono ?_)
                rintro e w9 ⟨rfl, hq⟩
                go_wp2_with fail
                refine hK.out _ _ (RG'.out _ (bnext hHeld.1 hq)) (fun hHeld => ?_)
                clear hK K hq
                try simp only [Act.put]
                try simp only [List.setIfInBounds_toArray]
                refine wpAnyH_take (i := 21) (oi := { dst := some 151, op := _, type := _, pos := _, after := _, guard := _ }) (v := ?_) rfl (by kernel_rfl) (by kernel_rfl) (by kernel_rfl) (fun _ _ _ h => h) (Or.inl ⟨by kernel_rfl, ?_⟩) hHeld ?_
                rotate_left
                · intro w hSw
                  (try dsimp only at hSw)
                  go_simp
                  first | done | with_reducible rfl
                try simp only [Act.put]
                try simp only [List.setIfInBounds_toArray]
                refine wpAnyH_take (i := 22) (oi := { dst := some 152, op := _, type := _, pos := _, after := _, guard := _ }) (v := ?_) rfl (by kernel_rfl) (by kernel_rfl) (by kernel_rfl) (fun _ _ _ h => h) (Or.inl ⟨by kernel_rfl, ?_⟩) hHeld ?_
                rotate_left
                · intro w hSw
                  (try dsimp only at hSw)
                  go_simp
                  first | done | with_reducible rfl
                try simp only [Act.put]
                try simp only [List.setIfInBounds_toArray]
                refine wpAnyH_done (by kernel_rfl) ?_ _
                have HSy := Lib.hid (HSx.out.kept hHeld.1)
                have HBy := Lib.hid (bnext HBx.out hHeld.1)
                clear hHeld RG' hbb
                try simp only [List.set_cons_zero, List.set_cons_succ]
                go_wp2_with fail
                exact ⟨⟨n + 1, by omega, by go_num, HBy, HSy⟩, by simp [intOf]; omega⟩
        · have hn2 : n = 40 := by omega
          subst hn2
          clear HSn
          have HB := HBn
          clear HBn
          go_wp2_with fail
          go_ret
          exact ⟨rfl, HB.out⟩
  · have c1 : ∀ w, Hid (Calls Tryz.prog 51 #[.string s, .string t, .string s2, .string t2, .string y] w fun e w' => e = .returned (.tuple #[.string ⟨#[]⟩, .bool false]) ∧ Below w.heap.size w w') := (jfn_both s t s2 t2 y h (by unfold maxLen; omega)).1
    have c2 : ∀ w, Hid (Calls Tryz.prog 52 #[.string s, .string t, .string s2, .string t2, .string y] w fun e w' => e = .returned (.tuple #[.string ⟨#[]⟩, .bool false]) ∧ Below w.heap.size w w') := (jfn_both s t s2 t2 y h (by unfold maxLen; omega)).2
    clear h
    go_wp2_with fail
    refine (c1 _).out.mono ?_
    rintro e w2 ⟨rfl, hb⟩
    replace HB := Lib.hid (bnext HB.out hb)
    clear hb
    go_wp2_with fail
    refine (c2 _).out.mono ?_
    rintro e w2 ⟨rfl, hb⟩
    replace HB := Lib.hid (bnext HB.out hb)
    clear hb
    go_wp2_with fail
    go_ret
    exact ⟨rfl, HB.out⟩
end Go.Proofs.YtlhmdpkenkibiaaGreatDoor
