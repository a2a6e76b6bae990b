import Derived.Test.YtgkoljphndgoeaaGreatDoorCards
import Derived.Test.YtgkoljphndgoeaaGreatDoorTie
import Derived.Test.YtgkoljphndgoeaaGreatDoorTopS2
import Derived.Test.YtgkoljphndgoeaaGreatDoorFd1
import Derived.Test.YtgkoljphndgoeaaGreatDoorPpS
import Derived.Test.YtgkoljphndgoeaaGreatDoorTopD
import Derived.Test.YtgkoljphndgoeaaGreatDoorTopG2
import Derived.Deep.RegionHeld3
import Derived.ProofKit
import Derived.ChangeOld
import Derived.Deep.DeepHandedRow
import Derived.Lib.SmallJoins
import Derived.ChangeSame
import Derived.JoinedOf
import Derived.JoinedAt
import Derived.RowKit3
import Derived.ShutString
import Derived.OpenShut
import Derived.LaidMore
import Derived.Lay
import Derived.SevenTiedAt
import Derived.Stop.Joined
namespace Go.Proofs.YtgkoljphndgoeaaGreatDoor
open Go.ChangeShapes Go.WideShapes Go.ChangeAt Go.RowKit Go.Joins
open Go.WideMaps Go.WideElems Tm
open Go.ChangeMaps (open_string shut_string)
open Go.Great
theorem fdl_facts (s t : ByteArray) (h : PV s ∧ PV t) : ∃ (p q : Pg) (K : Nat), K < 27 ∧ Fd (oc p) (oc q) K ∧
  Gives 42 #[.string s, .string t] (.tuple #[.agg #[.int .i64 (ax K), .int .i64 (ay K), .int .i64 (az K)], .string (whatD (oc p K) (oc q K))]) ∧
  Gives 43 #[.string s, .string t] (.tuple #[.agg #[.int .i64 (ax K), .int .i64 (ay K), .int .i64 (az K)], .string (whatD (oc p K) (oc q K))]) ∧
  (∀ k : Nat, k < 27 → ∀ w, Hid (Calls Tryz.prog 45 #[.string s, .agg #[.int .i64 (ax k), .int .i64 (ay k), .int .i64 (az k)]] w fun e w' => e = .returned (.tuple #[.agg #[.string (bs (tb (rT p k))), .bool (rL p k), .bool (rK p k)], .bool true]) ∧ Below w.heap.size w w')) ∧
  (∀ k : Nat, k < 27 → ∀ w, Hid (Calls Tryz.prog 45 #[.string t, .agg #[.int .i64 (ax k), .int .i64 (ay k), .int .i64 (az k)]] w fun e w' => e = .returned (.tuple #[.agg #[.string (bs (tb (rT q k))), .bool (rL q k), .bool (rK q k)], .bool true]) ∧ Below w.heap.size w w')) := by
 obtain ⟨⟨⟨p, hp, hs⟩, hl⟩, ⟨q, hq, ht⟩, hn⟩ := h
 obtain rfl := bs_ofP hs
 obtain rfl := bs_ofP ht
 have lp : p.ser.length ≤ 200 := by rwa [bs_size] at hl
 have lq : q.ser.length ≤ 200 := by rwa [bs_size] at hn
 have hfd : Fd (oc p) (oc q) (fdK (oc p) (oc q)) := Classical.choose_spec (fd_ex (oc p) (oc q))
 have hK : fdK (oc p) (oc q) < 27 := by rcases hfd with ⟨h, _⟩ | ⟨h, _⟩ <;> omega
 refine ⟨p, q, fdK (oc p) (oc q), hK, hfd, fun w => Lib.hid (implFd_yes (bs p.ser) (bs q.ser) w hp (by simp [bs]) hl hq (by simp [bs]) hn), fun w => Lib.hid (specFd_yes p q w hp lp hq lq), fun k hk w => Lib.hid ?_, fun k hk w => Lib.hid ?_⟩
 ·exact implRf_yes (bs p.ser) (ax k) (ay k) (az k) k w hp (by simp [bs]) hl (at_st3 (i := (k : Int)) (by omega) (by omega)) (by unfold ax ay az; omega)
 ·exact implRf_yes (bs q.ser) (ax k) (ay k) (az k) k w hq (by simp [bs]) hn (at_st3 (i := (k : Int)) (by omega) (by omega)) (by unfold ax ay az; omega)
theorem bs_nb {F G : Nat → Bool} : bs (tb F) = bs (tb G) ↔ nb 27 F = nb 27 G := by
 constructor
 ·intro h
  have t : tb F = tb G := by have := congrArg (fun x : ByteArray => x.data.toList) h; simpa [bs] using this
  exact nb_congr fun i hi => tbn_inj (n := 27) t i hi
 ·intro h
  rw [tb_congr (nb_inj h)]
theorem bs_ne {F G : Nat → Bool} (h : nb 27 F ≠ nb 27 G) : ((bs (tb F)).toList == (bs (tb G)).toList) = false := by
 cases e : ((bs (tb F)).toList == (bs (tb G)).toList)
 ·rfl
 ·rw [beq_iff_eq, ByteArray.toList_eq, ByteArray.toList_eq] at e
  exact absurd (bs_nb.1 (ByteArray.ext (Array.ext' e))) h
theorem eqO_same {p q : Pg} {k : Nat} (h : eqO (oc p k) (oc q k) = true) : bs (tb (rT q k)) = bs (tb (rT p k)) ∧ rL q k = rL p k ∧ rK q k = rK p k := by
 unfold eqO oc at h
 simp only [Bool.and_eq_true, beq_iff_eq] at h
 exact ⟨(bs_nb.2 h.1.1).symm, h.1.2.symm, h.2.symm⟩
theorem fd_cases {p q : Pg} {K : Nat} (h : Fd (oc p) (oc q) K) : ∃ N, N ≤ 27 ∧ (∀ k, k < N → eqO (oc p k) (oc q k) = true) ∧
  ((N = 27 ∧ whatD (oc p K) (oc q K) = tNone) ∨ (N = K ∧ K < 27 ∧
   ((whatD (oc p K) (oc q K) = tFinals ∧ ((bs (tb (rT p K))).toList == (bs (tb (rT q K))).toList) = false) ∨
    (whatD (oc p K) (oc q K) = tLoops ∧ bs (tb (rT q K)) = bs (tb (rT p K)) ∧ rL p K = !rL q K) ∨
    (whatD (oc p K) (oc q K) = tBlocks ∧ bs (tb (rT q K)) = bs (tb (rT p K)) ∧ rL q K = rL p K ∧ rK p K = !rK q K)))) := by
 rcases h with ⟨hK, h1, h2⟩ | ⟨rfl, h2⟩
 ·refine ⟨K, by omega, h2, .inr ⟨rfl, hK, ?_⟩⟩
  unfold whatD
  unfold eqO at h1
  by_cases e1 : nb 27 (oc p K).1 = nb 27 (oc q K).1
  ·rw [if_pos e1]
   by_cases e2 : (oc p K).2.1 = (oc q K).2.1
   ·rw [if_pos e2]
    by_cases e3 : (oc p K).2.2 = (oc q K).2.2
    ·rw [e1, e2, e3] at h1; simp at h1
    ·rw [if_neg e3]
     refine .inr (.inr ⟨rfl, (bs_nb.2 e1).symm, e2.symm, ?_⟩)
     have e3' : rK p K ≠ rK q K := e3
     revert e3'
     cases rK p K <;> cases rK q K <;> simp
   ·rw [if_neg e2]
    refine .inr (.inl ⟨rfl, (bs_nb.2 e1).symm, ?_⟩)
    have e2' : rL p K ≠ rL q K := e2
    revert e2'
    cases rL p K <;> cases rL q K <;> simp
  ·rw [if_neg e1]
   exact .inl ⟨rfl, bs_ne e1⟩
 ·exact ⟨27, Nat.le_refl _, h2, .inl ⟨rfl, what_eq (h2 0 (by omega))⟩⟩
set_option maxHeartbeats 4000000 in
theorem drawFd {a : Option Addr} {len cap : Nat} {zs : List Int} {w : World} (h : IsRow w a len cap zs) :
  Calls Tryz.prog 41 #[.slice a len cap] w fun e w' => ∃ s t : ByteArray, s.size ≤ 100000 ∧ t.size ≤ 100000 ∧ e = .returned (.tuple #[.string s, .string t]) ∧ Below w.heap.size w w' := by
 have HO := Lib.hid (open_any h)
 clear h
 go_enter Tryz.func41, Tryz.ntmps41
 go_wp2_with fail
 refine HO.out.mono ?_
 rintro e w1 ⟨rfl, hr, hb⟩
 have HW1 := Lib.hid hb
 have HC := Lib.hid (pair10 hr (by omega))
 clear hr hb
 go_wp2_with fail
 refine HC.out.mono ?_
 rintro e w2 ⟨s, t, q, t1, t2, hq, rfl, hr, hk⟩
 have HW2 := Lib.hid (HW1.out.trans (hk.below (Nat.le_refl _) HW1.out.size))
 clear hr hk
 go_wp2_with fail
 go_ret2
 exact ⟨s, t, t1, t2, rfl, HW2.out⟩
set_option maxRecDepth 100000 in
set_option maxHeartbeats 16000000 in
theorem walkFirstDifference {a0 : Option Addr} {len0 cap0 : Nat} {z0 : List Int} (w : World) (h0 : IsRow w a0 len0 cap0 z0) :
  Calls Tryz.prog 8 #[.slice a0 len0 cap0] w fun e w' => e = .returned (.bool true) ∧ Below w.heap.size w w' := by
 have DD := Lib.hid (drawFd h0)
 clear h0
 by_cases hl : (1048576 : Int) < len0
 ·go_enter Tryz.func8, Tryz.ntmps8
  go_wp2_with fail
  go_ret
  exact ⟨rfl, Below.refl _ _⟩
 go_enter Tryz.func8, Tryz.ntmps8
 go_wp2_with fail
 refine DD.out.mono ?_
 rintro e w1 ⟨s, t, ls, lt, rfl, hb⟩
 have HB := Lib.hid hb
 clear hb DD
 by_cases h : PV s ∧ PV t
 ·obtain ⟨p, q, K, hK, hfd, c1, c2, fa, fb⟩ := fdl_facts s t h
  unfold Gives at c1 c2
  clear h
  obtain ⟨N, hN, hsame, hcase⟩ := fd_cases hfd
  clear hfd
  have FA := Lib.hid fa
  have FB := Lib.hid fb
  have HSM := Lib.hid hsame
  clear fa fb hsame
  rcases hcase with ⟨rfl, hx⟩ | ⟨hNK, _, ⟨hx, d1⟩ | ⟨hx, d1, d2⟩ | ⟨hx, d1, d2, d3⟩⟩
  ·rw [hx] at c1 c2
   unfold tNone at c1 c2
   clear hx
   have t0 : ((⟨#[110, 111, 110, 101]⟩ : ByteArray).toList == []) = false := by decide +kernel
   have t1 : ((⟨#[110, 111, 110, 101]⟩ : ByteArray).toList == [110, 111, 110, 101]) = true := by decide +kernel
   have t2 : ((⟨#[110, 111, 110, 101]⟩ : ByteArray).toList == [102, 105, 110, 97, 108, 115]) = false := by decide +kernel
   have t3 : ((⟨#[110, 111, 110, 101]⟩ : ByteArray).toList == [108, 111, 111, 112, 115]) = false := by decide +kernel
   have t4 : ((⟨#[110, 111, 110, 101]⟩ : ByteArray).toList == [98, 108, 111, 99, 107, 115]) = false := by decide +kernel
   go_wp2_with fail
   refine (c1 _).out.mono ?_
   rintro e w2 ⟨rfl, hb⟩
   have KK := Lib.hid (Blk.new w2 #[.int .i64 (ax K), .int .i64 (ay K), .int .i64 (az K)] 43)
   have ba := (Below.refl w2.heap.size w2).alloc (Nat.le_refl _) (.cells #[.int .i64 (ax K), .int .i64 (ay K), .int .i64 (az K)] 43)
   replace HB := Lib.hid (bnext (bnext HB.out hb) ba)
   clear hb ba
   go_wp2_with fail
   generalize w2.alloc (.cells #[.int .i64 (ax K), .int .i64 (ay K), .int .i64 (az K)] 43) = w3 at *
   generalize w2.heap.size = bk at *
   refine (c2 _).out.mono ?_
   rintro e w4 ⟨rfl, hb⟩
   have KW := Lib.hid (Blk.new w4 #[.int .i64 (ax K), .int .i64 (ay K), .int .i64 (az K)] 43)
   have ba := (Below.refl w4.heap.size w4).alloc (Nat.le_refl _) (.cells #[.int .i64 (ax K), .int .i64 (ay K), .int .i64 (az K)] 43)
   replace HB := Lib.hid (bnext (bnext HB.out hb) ba)
   replace KK := Lib.hid ((KK.out.kept hb).kept ba)
   clear hb ba c1 c2
   obtain ⟨f0, f1, f2⟩ := KK.out.c3
   obtain ⟨g0, g1, g2⟩ := KW.out.c3
   have CS := fun w => Lib.hid (states_any w)
   go_wp2_with fail
   clear f0 f1 f2 g0 g1 g2 KW
   generalize w4.alloc (.cells #[.int .i64 (ax K), .int .i64 (ay K), .int .i64 (az K)] 43) = w5 at *
   refine (CS _).out.mono ?_
   rintro e w6 ⟨g, cap, hcap, hg, rfl, hs, hb⟩
   have HS := Lib.hid hs
   replace HB := Lib.hid (bnext HB.out hb)
   replace KK := Lib.hid (KK.out.kept hb)
   clear hb hs CS
   go_wp2_with fail
   go_loopw [10, 12, 14] (fun nv _ _ wr => ∃ n : Nat, n ≤ 27 ∧ nv = .int .i64 n ∧ Hid (Below w.heap.size w wr) ∧ Hid (Sts wr g) ∧ Hid (Blk wr bk #[.int .i64 (ax K), .int .i64 (ay K), .int .i64 (az K)] 43)) (fun nv _ _ _ => 27 - (intOf nv).toNat)
   case atStart => exact ⟨0, Nat.zero_le _, rfl, HB, HS, KK⟩
   case round =>
    clear HB HS KK
    obtain ⟨n, hn, rfl, HB, HS, KK⟩ := hrel
    by_cases hlt : n < 27
    ·have hn27 : n < 27 := by omega
     have hn0 : (0 : Int) ≤ (n : Int) := by omega
     have hn1 : (n : Int) < 27 := by omega
     obtain ⟨c0, c1, c2⟩ := HS.out n hn27
     have A1 := FA.out n hn27
     have A2 := FB.out n hn27
     obtain ⟨e1, e2, e3⟩ := eqO_same (HSM.out n hlt)
     rw [e1, e2, e3] at A2
     clear e1 e2 e3
     generalize bs (tb (rT p n)) = x at A1 A2
     generalize rL p n = l at A1 A2
     generalize rK p n = k at A1 A2
     go_wp2_with fail
     refine (A1 _).out.mono ?_
     rintro e w2 ⟨rfl, hb⟩
     have KA := Lib.hid (Blk.new w2 #[.string x, .bool l, .bool k] 49)
     have ba := (Below.refl w2.heap.size w2).alloc (Nat.le_refl _) (.cells #[.string x, .bool l, .bool k] 49)
     have HB2 := Lib.hid (bnext (bnext HB.out hb) ba)
     have HS2 := Lib.hid ((HS.out.kept hb).kept ba)
     have KK2 := Lib.hid ((KK.out.kept hb).kept ba)
     clear hb ba c0 c1 c2
     obtain ⟨c0, c1, c2⟩ := HS2.out n hn27
     obtain ⟨d0, d1, d2⟩ := KA.out.c3
     go_wp2_with fail
     generalize w2.alloc (.cells #[.string x, .bool l, .bool k] 49) = w3 at *
     generalize w2.heap.size = ba at *
     refine (A2 _).out.mono ?_
     rintro e w4 ⟨rfl, hb⟩
     have KB := Lib.hid (Blk.new w4 #[.string x, .bool l, .bool k] 49)
     have bb := (Below.refl w4.heap.size w4).alloc (Nat.le_refl _) (.cells #[.string x, .bool l, .bool k] 49)
     replace KA := Lib.hid ((KA.out.kept hb).kept bb)
     have HB4 := Lib.hid (bnext (bnext HB2.out hb) bb)
     have HS4 := Lib.hid ((HS2.out.kept hb).kept bb)
     have KK4 := Lib.hid ((KK2.out.kept hb).kept bb)
     clear hb bb c0 c1 c2 d0 d1 d2 HB HS KK HB2 HS2 KK2
     obtain ⟨c0, c1, c2⟩ := HS4.out n hn27
     obtain ⟨d0, d1, d2⟩ := KA.out.c3
     obtain ⟨e0, e1, e2⟩ := KB.out.c3
     obtain ⟨f0, f1, f2⟩ := KK4.out.c3
     go_wp2_with fail
     exact ⟨⟨n + 1, by omega, by go_num, HB4, HS4, KK4⟩, by simp [intOf]; omega⟩
    ·have hnN : n = 27 := by omega
     subst hnN
     clear hlt
     go_wp2_with fail
     go_ret
     exact ⟨rfl, HB.out⟩
  ·rw [hx] at c1 c2
   subst hNK
   unfold tFinals at c1 c2
   clear hx
   have t0 : ((⟨#[102, 105, 110, 97, 108, 115]⟩ : ByteArray).toList == []) = false := by decide +kernel
   have t1 : ((⟨#[102, 105, 110, 97, 108, 115]⟩ : ByteArray).toList == [110, 111, 110, 101]) = false := by decide +kernel
   have t2 : ((⟨#[102, 105, 110, 97, 108, 115]⟩ : ByteArray).toList == [102, 105, 110, 97, 108, 115]) = true := by decide +kernel
   have t3 : ((⟨#[102, 105, 110, 97, 108, 115]⟩ : ByteArray).toList == [108, 111, 111, 112, 115]) = false := by decide +kernel
   have t4 : ((⟨#[102, 105, 110, 97, 108, 115]⟩ : ByteArray).toList == [98, 108, 111, 99, 107, 115]) = false := by decide +kernel
   go_wp2_with fail
   refine (c1 _).out.mono ?_
   rintro e w2 ⟨rfl, hb⟩
   have KK := Lib.hid (Blk.new w2 #[.int .i64 (ax N), .int .i64 (ay N), .int .i64 (az N)] 43)
   have ba := (Below.refl w2.heap.size w2).alloc (Nat.le_refl _) (.cells #[.int .i64 (ax N), .int .i64 (ay N), .int .i64 (az N)] 43)
   replace HB := Lib.hid (bnext (bnext HB.out hb) ba)
   clear hb ba
   go_wp2_with fail
   generalize w2.alloc (.cells #[.int .i64 (ax N), .int .i64 (ay N), .int .i64 (az N)] 43) = w3 at *
   generalize w2.heap.size = bk at *
   refine (c2 _).out.mono ?_
   rintro e w4 ⟨rfl, hb⟩
   have KW := Lib.hid (Blk.new w4 #[.int .i64 (ax N), .int .i64 (ay N), .int .i64 (az N)] 43)
   have ba := (Below.refl w4.heap.size w4).alloc (Nat.le_refl _) (.cells #[.int .i64 (ax N), .int .i64 (ay N), .int .i64 (az N)] 43)
   replace HB := Lib.hid (bnext (bnext HB.out hb) ba)
   replace KK := Lib.hid ((KK.out.kept hb).kept ba)
   clear hb ba c1 c2
   obtain ⟨f0, f1, f2⟩ := KK.out.c3
   obtain ⟨g0, g1, g2⟩ := KW.out.c3
   have CS := fun w => Lib.hid (states_any w)
   go_wp2_with fail
   clear f0 f1 f2 g0 g1 g2 KW
   generalize w4.alloc (.cells #[.int .i64 (ax N), .int .i64 (ay N), .int .i64 (az N)] 43) = w5 at *
   refine (CS _).out.mono ?_
   rintro e w6 ⟨g, cap, hcap, hg, rfl, hs, hb⟩
   have HS := Lib.hid hs
   replace HB := Lib.hid (bnext HB.out hb)
   replace KK := Lib.hid (KK.out.kept hb)
   clear hb hs CS
   go_wp2_with fail
   go_loopw [10, 12, 14] (fun nv _ _ wr => ∃ n : Nat, n ≤ N ∧ nv = .int .i64 n ∧ Hid (Below w.heap.size w wr) ∧ Hid (Sts wr g) ∧ Hid (Blk wr bk #[.int .i64 (ax N), .int .i64 (ay N), .int .i64 (az N)] 43)) (fun nv _ _ _ => 27 - (intOf nv).toNat)
   case atStart => exact ⟨0, Nat.zero_le _, rfl, HB, HS, KK⟩
   case round =>
    clear HB HS KK
    obtain ⟨n, hn, rfl, HB, HS, KK⟩ := hrel
    by_cases hlt : n < N
    ·have hn27 : n < 27 := by omega
     have hn0 : (0 : Int) ≤ (n : Int) := by omega
     have hn1 : (n : Int) < 27 := by omega
     obtain ⟨c0, c1, c2⟩ := HS.out n hn27
     have A1 := FA.out n hn27
     have A2 := FB.out n hn27
     obtain ⟨e1, e2, e3⟩ := eqO_same (HSM.out n hlt)
     rw [e1, e2, e3] at A2
     clear e1 e2 e3
     generalize bs (tb (rT p n)) = x at A1 A2
     generalize rL p n = l at A1 A2
     generalize rK p n = k at A1 A2
     go_wp2_with fail
     refine (A1 _).out.mono ?_
     rintro e w2 ⟨rfl, hb⟩
     have KA := Lib.hid (Blk.new w2 #[.string x, .bool l, .bool k] 49)
     have ba := (Below.refl w2.heap.size w2).alloc (Nat.le_refl _) (.cells #[.string x, .bool l, .bool k] 49)
     have HB2 := Lib.hid (bnext (bnext HB.out hb) ba)
     have HS2 := Lib.hid ((HS.out.kept hb).kept ba)
     have KK2 := Lib.hid ((KK.out.kept hb).kept ba)
     clear hb ba c0 c1 c2
     obtain ⟨c0, c1, c2⟩ := HS2.out n hn27
     obtain ⟨d0, d1, d2⟩ := KA.out.c3
     go_wp2_with fail
     generalize w2.alloc (.cells #[.string x, .bool l, .bool k] 49) = w3 at *
     generalize w2.heap.size = ba at *
     refine (A2 _).out.mono ?_
     rintro e w4 ⟨rfl, hb⟩
     have KB := Lib.hid (Blk.new w4 #[.string x, .bool l, .bool k] 49)
     have bb := (Below.refl w4.heap.size w4).alloc (Nat.le_refl _) (.cells #[.string x, .bool l, .bool k] 49)
     replace KA := Lib.hid ((KA.out.kept hb).kept bb)
     have HB4 := Lib.hid (bnext (bnext HB2.out hb) bb)
     have HS4 := Lib.hid ((HS2.out.kept hb).kept bb)
     have KK4 := Lib.hid ((KK2.out.kept hb).kept bb)
     clear hb bb c0 c1 c2 d0 d1 d2 HB HS KK HB2 HS2 KK2
     obtain ⟨c0, c1, c2⟩ := HS4.out n hn27
     obtain ⟨d0, d1, d2⟩ := KA.out.c3
     obtain ⟨e0, e1, e2⟩ := KB.out.c3
     obtain ⟨f0, f1, f2⟩ := KK4.out.c3
     go_wp2_with fail
     exact ⟨⟨n + 1, by omega, by go_num, HB4, HS4, KK4⟩, by simp [intOf]; omega⟩
    ·have hnN : n = N := by omega
     subst hnN
     clear hlt
     have hn27 := hK
     have hn0 : (0 : Int) ≤ (n : Int) := by omega
     have hn1 : (n : Int) < 27 := by omega
     obtain ⟨c0, c1, c2⟩ := HS.out n hn27
     have A1 := FA.out n hn27
     have A2 := FB.out n hn27
     clear HSM FA FB
     generalize bs (tb (rT p n)) = x at *
     generalize bs (tb (rT q n)) = y at *
     generalize rL p n = l at *
     generalize rK p n = k at *
     generalize rL q n = l' at *
     generalize rK q n = k' at *
     go_wp2_with fail
     refine (A1 _).out.mono ?_
     rintro e w2 ⟨rfl, hb⟩
     have KA := Lib.hid (Blk.new w2 #[.string x, .bool l, .bool k] 49)
     have ba := (Below.refl w2.heap.size w2).alloc (Nat.le_refl _) (.cells #[.string x, .bool l, .bool k] 49)
     have HB2 := Lib.hid (bnext (bnext HB.out hb) ba)
     have HS2 := Lib.hid ((HS.out.kept hb).kept ba)
     have KK2 := Lib.hid ((KK.out.kept hb).kept ba)
     clear hb ba c0 c1 c2
     obtain ⟨c0, c1, c2⟩ := HS2.out n hn27
     obtain ⟨d0, d1, d2⟩ := KA.out.c3
     go_wp2_with fail
     generalize w2.alloc (.cells #[.string x, .bool l, .bool k] 49) = w3 at *
     generalize w2.heap.size = ba at *
     refine (A2 _).out.mono ?_
     rintro e w4 ⟨rfl, hb⟩
     have KB := Lib.hid (Blk.new w4 #[.string y, .bool l', .bool k'] 49)
     have bb := (Below.refl w4.heap.size w4).alloc (Nat.le_refl _) (.cells #[.string y, .bool l', .bool k'] 49)
     replace KA := Lib.hid ((KA.out.kept hb).kept bb)
     have HB4 := Lib.hid (bnext (bnext HB2.out hb) bb)
     have HS4 := Lib.hid ((HS2.out.kept hb).kept bb)
     have KK4 := Lib.hid ((KK2.out.kept hb).kept bb)
     clear hb bb c0 c1 c2 d0 d1 d2 HB HS KK HB2 HS2 KK2
     obtain ⟨c0, c1, c2⟩ := HS4.out n hn27
     obtain ⟨d0, d1, d2⟩ := KA.out.c3
     obtain ⟨e0, e1, e2⟩ := KB.out.c3
     obtain ⟨f0, f1, f2⟩ := KK4.out.c3
     go_wp2_with fail
     go_quiet (fail)
     go_wp2_with fail
     go_ret
     exact ⟨rfl, bdrewN HB4.out nq⟩
  ·rw [hx] at c1 c2
   subst hNK
   unfold tLoops at c1 c2
   clear hx
   have t0 : ((⟨#[108, 111, 111, 112, 115]⟩ : ByteArray).toList == []) = false := by decide +kernel
   have t1 : ((⟨#[108, 111, 111, 112, 115]⟩ : ByteArray).toList == [110, 111, 110, 101]) = false := by decide +kernel
   have t2 : ((⟨#[108, 111, 111, 112, 115]⟩ : ByteArray).toList == [102, 105, 110, 97, 108, 115]) = false := by decide +kernel
   have t3 : ((⟨#[108, 111, 111, 112, 115]⟩ : ByteArray).toList == [108, 111, 111, 112, 115]) = true := by decide +kernel
   have t4 : ((⟨#[108, 111, 111, 112, 115]⟩ : ByteArray).toList == [98, 108, 111, 99, 107, 115]) = false := by decide +kernel
   go_wp2_with fail
   refine (c1 _).out.mono ?_
   rintro e w2 ⟨rfl, hb⟩
   have KK := Lib.hid (Blk.new w2 #[.int .i64 (ax N), .int .i64 (ay N), .int .i64 (az N)] 43)
   have ba := (Below.refl w2.heap.size w2).alloc (Nat.le_refl _) (.cells #[.int .i64 (ax N), .int .i64 (ay N), .int .i64 (az N)] 43)
   replace HB := Lib.hid (bnext (bnext HB.out hb) ba)
   clear hb ba
   go_wp2_with fail
   generalize w2.alloc (.cells #[.int .i64 (ax N), .int .i64 (ay N), .int .i64 (az N)] 43) = w3 at *
   generalize w2.heap.size = bk at *
   refine (c2 _).out.mono ?_
   rintro e w4 ⟨rfl, hb⟩
   have KW := Lib.hid (Blk.new w4 #[.int .i64 (ax N), .int .i64 (ay N), .int .i64 (az N)] 43)
   have ba := (Below.refl w4.heap.size w4).alloc (Nat.le_refl _) (.cells #[.int .i64 (ax N), .int .i64 (ay N), .int .i64 (az N)] 43)
   replace HB := Lib.hid (bnext (bnext HB.out hb) ba)
   replace KK := Lib.hid ((KK.out.kept hb).kept ba)
   clear hb ba c1 c2
   obtain ⟨f0, f1, f2⟩ := KK.out.c3
   obtain ⟨g0, g1, g2⟩ := KW.out.c3
   have CS := fun w => Lib.hid (states_any w)
   go_wp2_with fail
   clear f0 f1 f2 g0 g1 g2 KW
   generalize w4.alloc (.cells #[.int .i64 (ax N), .int .i64 (ay N), .int .i64 (az N)] 43) = w5 at *
   refine (CS _).out.mono ?_
   rintro e w6 ⟨g, cap, hcap, hg, rfl, hs, hb⟩
   have HS := Lib.hid hs
   replace HB := Lib.hid (bnext HB.out hb)
   replace KK := Lib.hid (KK.out.kept hb)
   clear hb hs CS
   go_wp2_with fail
   go_loopw [10, 12, 14] (fun nv _ _ wr => ∃ n : Nat, n ≤ N ∧ nv = .int .i64 n ∧ Hid (Below w.heap.size w wr) ∧ Hid (Sts wr g) ∧ Hid (Blk wr bk #[.int .i64 (ax N), .int .i64 (ay N), .int .i64 (az N)] 43)) (fun nv _ _ _ => 27 - (intOf nv).toNat)
   case atStart => exact ⟨0, Nat.zero_le _, rfl, HB, HS, KK⟩
   case round =>
    clear HB HS KK
    obtain ⟨n, hn, rfl, HB, HS, KK⟩ := hrel
    by_cases hlt : n < N
    ·have hn27 : n < 27 := by omega
     have hn0 : (0 : Int) ≤ (n : Int) := by omega
     have hn1 : (n : Int) < 27 := by omega
     obtain ⟨c0, c1, c2⟩ := HS.out n hn27
     have A1 := FA.out n hn27
     have A2 := FB.out n hn27
     obtain ⟨e1, e2, e3⟩ := eqO_same (HSM.out n hlt)
     rw [e1, e2, e3] at A2
     clear e1 e2 e3
     generalize bs (tb (rT p n)) = x at A1 A2
     generalize rL p n = l at A1 A2
     generalize rK p n = k at A1 A2
     go_wp2_with fail
     refine (A1 _).out.mono ?_
     rintro e w2 ⟨rfl, hb⟩
     have KA := Lib.hid (Blk.new w2 #[.string x, .bool l, .bool k] 49)
     have ba := (Below.refl w2.heap.size w2).alloc (Nat.le_refl _) (.cells #[.string x, .bool l, .bool k] 49)
     have HB2 := Lib.hid (bnext (bnext HB.out hb) ba)
     have HS2 := Lib.hid ((HS.out.kept hb).kept ba)
     have KK2 := Lib.hid ((KK.out.kept hb).kept ba)
     clear hb ba c0 c1 c2
     obtain ⟨c0, c1, c2⟩ := HS2.out n hn27
     obtain ⟨d0, d1, d2⟩ := KA.out.c3
     go_wp2_with fail
     generalize w2.alloc (.cells #[.string x, .bool l, .bool k] 49) = w3 at *
     generalize w2.heap.size = ba at *
     refine (A2 _).out.mono ?_
     rintro e w4 ⟨rfl, hb⟩
     have KB := Lib.hid (Blk.new w4 #[.string x, .bool l, .bool k] 49)
     have bb := (Below.refl w4.heap.size w4).alloc (Nat.le_refl _) (.cells #[.string x, .bool l, .bool k] 49)
     replace KA := Lib.hid ((KA.out.kept hb).kept bb)
     have HB4 := Lib.hid (bnext (bnext HB2.out hb) bb)
     have HS4 := Lib.hid ((HS2.out.kept hb).kept bb)
     have KK4 := Lib.hid ((KK2.out.kept hb).kept bb)
     clear hb bb c0 c1 c2 d0 d1 d2 HB HS KK HB2 HS2 KK2
     obtain ⟨c0, c1, c2⟩ := HS4.out n hn27
     obtain ⟨d0, d1, d2⟩ := KA.out.c3
     obtain ⟨e0, e1, e2⟩ := KB.out.c3
     obtain ⟨f0, f1, f2⟩ := KK4.out.c3
     go_wp2_with fail
     exact ⟨⟨n + 1, by omega, by go_num, HB4, HS4, KK4⟩, by simp [intOf]; omega⟩
    ·have hnN : n = N := by omega
     subst hnN
     clear hlt
     have hn27 := hK
     have hn0 : (0 : Int) ≤ (n : Int) := by omega
     have hn1 : (n : Int) < 27 := by omega
     obtain ⟨c0, c1, c2⟩ := HS.out n hn27
     have A1 := FA.out n hn27
     have A2 := FB.out n hn27
     rw [d2] at A1
     rw [d1] at A2
     clear HSM FA FB d1 d2
     generalize bs (tb (rT p n)) = x at *
     generalize rK p n = k at *
     generalize rL q n = l' at *
     generalize rK q n = k' at *
     have hl1 : (l' == !l') = false := by cases l' <;> rfl
     have hl2 : ((!l') == l') = false := by cases l' <;> rfl
     go_wp2_with fail
     refine (A1 _).out.mono ?_
     rintro e w2 ⟨rfl, hb⟩
     have KA := Lib.hid (Blk.new w2 #[.string x, .bool (!l'), .bool k] 49)
     have ba := (Below.refl w2.heap.size w2).alloc (Nat.le_refl _) (.cells #[.string x, .bool (!l'), .bool k] 49)
     have HB2 := Lib.hid (bnext (bnext HB.out hb) ba)
     have HS2 := Lib.hid ((HS.out.kept hb).kept ba)
     have KK2 := Lib.hid ((KK.out.kept hb).kept ba)
     clear hb ba c0 c1 c2
     obtain ⟨c0, c1, c2⟩ := HS2.out n hn27
     obtain ⟨d0, d1, d2⟩ := KA.out.c3
     go_wp2_with fail
     generalize w2.alloc (.cells #[.string x, .bool (!l'), .bool k] 49) = w3 at *
     generalize w2.heap.size = ba at *
     refine (A2 _).out.mono ?_
     rintro e w4 ⟨rfl, hb⟩
     have KB := Lib.hid (Blk.new w4 #[.string x, .bool l', .bool k'] 49)
     have bb := (Below.refl w4.heap.size w4).alloc (Nat.le_refl _) (.cells #[.string x, .bool l', .bool k'] 49)
     replace KA := Lib.hid ((KA.out.kept hb).kept bb)
     have HB4 := Lib.hid (bnext (bnext HB2.out hb) bb)
     have HS4 := Lib.hid ((HS2.out.kept hb).kept bb)
     have KK4 := Lib.hid ((KK2.out.kept hb).kept bb)
     clear hb bb c0 c1 c2 d0 d1 d2 HB HS KK HB2 HS2 KK2
     obtain ⟨c0, c1, c2⟩ := HS4.out n hn27
     obtain ⟨d0, d1, d2⟩ := KA.out.c3
     obtain ⟨e0, e1, e2⟩ := KB.out.c3
     obtain ⟨f0, f1, f2⟩ := KK4.out.c3
     go_wp2_with fail
     go_quiet (fail)
     go_wp2_with fail
     go_ret
     exact ⟨rfl, bdrewN HB4.out nq⟩
  ·rw [hx] at c1 c2
   subst hNK
   unfold tBlocks at c1 c2
   clear hx
   have t0 : ((⟨#[98, 108, 111, 99, 107, 115]⟩ : ByteArray).toList == []) = false := by decide +kernel
   have t1 : ((⟨#[98, 108, 111, 99, 107, 115]⟩ : ByteArray).toList == [110, 111, 110, 101]) = false := by decide +kernel
   have t2 : ((⟨#[98, 108, 111, 99, 107, 115]⟩ : ByteArray).toList == [102, 105, 110, 97, 108, 115]) = false := by decide +kernel
   have t3 : ((⟨#[98, 108, 111, 99, 107, 115]⟩ : ByteArray).toList == [108, 111, 111, 112, 115]) = false := by decide +kernel
   have t4 : ((⟨#[98, 108, 111, 99, 107, 115]⟩ : ByteArray).toList == [98, 108, 111, 99, 107, 115]) = true := by decide +kernel
   go_wp2_with fail
   refine (c1 _).out.mono ?_
   rintro e w2 ⟨rfl, hb⟩
   have KK := Lib.hid (Blk.new w2 #[.int .i64 (ax N), .int .i64 (ay N), .int .i64 (az N)] 43)
   have ba := (Below.refl w2.heap.size w2).alloc (Nat.le_refl _) (.cells #[.int .i64 (ax N), .int .i64 (ay N), .int .i64 (az N)] 43)
   replace HB := Lib.hid (bnext (bnext HB.out hb) ba)
   clear hb ba
   go_wp2_with fail
   generalize w2.alloc (.cells #[.int .i64 (ax N), .int .i64 (ay N), .int .i64 (az N)] 43) = w3 at *
   generalize w2.heap.size = bk at *
   refine (c2 _).out.mono ?_
   rintro e w4 ⟨rfl, hb⟩
   have KW := Lib.hid (Blk.new w4 #[.int .i64 (ax N), .int .i64 (ay N), .int .i64 (az N)] 43)
   have ba := (Below.refl w4.heap.size w4).alloc (Nat.le_refl _) (.cells #[.int .i64 (ax N), .int .i64 (ay N), .int .i64 (az N)] 43)
   replace HB := Lib.hid (bnext (bnext HB.out hb) ba)
   replace KK := Lib.hid ((KK.out.kept hb).kept ba)
   clear hb ba c1 c2
   obtain ⟨f0, f1, f2⟩ := KK.out.c3
   obtain ⟨g0, g1, g2⟩ := KW.out.c3
   have CS := fun w => Lib.hid (states_any w)
   go_wp2_with fail
   clear f0 f1 f2 g0 g1 g2 KW
   generalize w4.alloc (.cells #[.int .i64 (ax N), .int .i64 (ay N), .int .i64 (az N)] 43) = w5 at *
   refine (CS _).out.mono ?_
   rintro e w6 ⟨g, cap, hcap, hg, rfl, hs, hb⟩
   have HS := Lib.hid hs
   replace HB := Lib.hid (bnext HB.out hb)
   replace KK := Lib.hid (KK.out.kept hb)
   clear hb hs CS
   go_wp2_with fail
   go_loopw [10, 12, 14] (fun nv _ _ wr => ∃ n : Nat, n ≤ N ∧ nv = .int .i64 n ∧ Hid (Below w.heap.size w wr) ∧ Hid (Sts wr g) ∧ Hid (Blk wr bk #[.int .i64 (ax N), .int .i64 (ay N), .int .i64 (az N)] 43)) (fun nv _ _ _ => 27 - (intOf nv).toNat)
   case atStart => exact ⟨0, Nat.zero_le _, rfl, HB, HS, KK⟩
   case round =>
    clear HB HS KK
    obtain ⟨n, hn, rfl, HB, HS, KK⟩ := hrel
    by_cases hlt : n < N
    ·have hn27 : n < 27 := by omega
     have hn0 : (0 : Int) ≤ (n : Int) := by omega
     have hn1 : (n : Int) < 27 := by omega
     obtain ⟨c0, c1, c2⟩ := HS.out n hn27
     have A1 := FA.out n hn27
     have A2 := FB.out n hn27
     obtain ⟨e1, e2, e3⟩ := eqO_same (HSM.out n hlt)
     rw [e1, e2, e3] at A2
     clear e1 e2 e3
     generalize bs (tb (rT p n)) = x at A1 A2
     generalize rL p n = l at A1 A2
     generalize rK p n = k at A1 A2
     go_wp2_with fail
     refine (A1 _).out.mono ?_
     rintro e w2 ⟨rfl, hb⟩
     have KA := Lib.hid (Blk.new w2 #[.string x, .bool l, .bool k] 49)
     have ba := (Below.refl w2.heap.size w2).alloc (Nat.le_refl _) (.cells #[.string x, .bool l, .bool k] 49)
     have HB2 := Lib.hid (bnext (bnext HB.out hb) ba)
     have HS2 := Lib.hid ((HS.out.kept hb).kept ba)
     have KK2 := Lib.hid ((KK.out.kept hb).kept ba)
     clear hb ba c0 c1 c2
     obtain ⟨c0, c1, c2⟩ := HS2.out n hn27
     obtain ⟨d0, d1, d2⟩ := KA.out.c3
     go_wp2_with fail
     generalize w2.alloc (.cells #[.string x, .bool l, .bool k] 49) = w3 at *
     generalize w2.heap.size = ba at *
     refine (A2 _).out.mono ?_
     rintro e w4 ⟨rfl, hb⟩
     have KB := Lib.hid (Blk.new w4 #[.string x, .bool l, .bool k] 49)
     have bb := (Below.refl w4.heap.size w4).alloc (Nat.le_refl _) (.cells #[.string x, .bool l, .bool k] 49)
     replace KA := Lib.hid ((KA.out.kept hb).kept bb)
     have HB4 := Lib.hid (bnext (bnext HB2.out hb) bb)
     have HS4 := Lib.hid ((HS2.out.kept hb).kept bb)
     have KK4 := Lib.hid ((KK2.out.kept hb).kept bb)
     clear hb bb c0 c1 c2 d0 d1 d2 HB HS KK HB2 HS2 KK2
     obtain ⟨c0, c1, c2⟩ := HS4.out n hn27
     obtain ⟨d0, d1, d2⟩ := KA.out.c3
     obtain ⟨e0, e1, e2⟩ := KB.out.c3
     obtain ⟨f0, f1, f2⟩ := KK4.out.c3
     go_wp2_with fail
     exact ⟨⟨n + 1, by omega, by go_num, HB4, HS4, KK4⟩, by simp [intOf]; omega⟩
    ·have hnN : n = N := by omega
     subst hnN
     clear hlt
     have hn27 := hK
     have hn0 : (0 : Int) ≤ (n : Int) := by omega
     have hn1 : (n : Int) < 27 := by omega
     obtain ⟨c0, c1, c2⟩ := HS.out n hn27
     have A1 := FA.out n hn27
     have A2 := FB.out n hn27
     rw [d3] at A1
     rw [d1, d2] at A2
     clear HSM FA FB d1 d2 d3
     generalize bs (tb (rT p n)) = x at *
     generalize rL p n = l at *
     generalize rK q n = k' at *
     have hl1 : (k' == !k') = false := by cases k' <;> rfl
     have hl2 : ((!k') == k') = false := by cases k' <;> rfl
     go_wp2_with fail
     refine (A1 _).out.mono ?_
     rintro e w2 ⟨rfl, hb⟩
     have KA := Lib.hid (Blk.new w2 #[.string x, .bool l, .bool (!k')] 49)
     have ba := (Below.refl w2.heap.size w2).alloc (Nat.le_refl _) (.cells #[.string x, .bool l, .bool (!k')] 49)
     have HB2 := Lib.hid (bnext (bnext HB.out hb) ba)
     have HS2 := Lib.hid ((HS.out.kept hb).kept ba)
     have KK2 := Lib.hid ((KK.out.kept hb).kept ba)
     clear hb ba c0 c1 c2
     obtain ⟨c0, c1, c2⟩ := HS2.out n hn27
     obtain ⟨d0, d1, d2⟩ := KA.out.c3
     go_wp2_with fail
     generalize w2.alloc (.cells #[.string x, .bool l, .bool (!k')] 49) = w3 at *
     generalize w2.heap.size = ba at *
     refine (A2 _).out.mono ?_
     rintro e w4 ⟨rfl, hb⟩
     have KB := Lib.hid (Blk.new w4 #[.string x, .bool l, .bool k'] 49)
     have bb := (Below.refl w4.heap.size w4).alloc (Nat.le_refl _) (.cells #[.string x, .bool l, .bool k'] 49)
     replace KA := Lib.hid ((KA.out.kept hb).kept bb)
     have HB4 := Lib.hid (bnext (bnext HB2.out hb) bb)
     have HS4 := Lib.hid ((HS2.out.kept hb).kept bb)
     have KK4 := Lib.hid ((KK2.out.kept hb).kept bb)
     clear hb bb c0 c1 c2 d0 d1 d2 HB HS KK HB2 HS2 KK2
     obtain ⟨c0, c1, c2⟩ := HS4.out n hn27
     obtain ⟨d0, d1, d2⟩ := KA.out.c3
     obtain ⟨e0, e1, e2⟩ := KB.out.c3
     obtain ⟨f0, f1, f2⟩ := KK4.out.c3
     go_wp2_with fail
     go_quiet (fail)
     go_wp2_with fail
     go_ret
     exact ⟨rfl, bdrewN HB4.out nq⟩
 ·have c1 := fun w => Lib.hid (implFd_no s t w h)
  have c2 := fun w => Lib.hid (specFd_no s t w h)
  unfold fdNo at c1 c2
  clear h
  go_wp2_with fail
  refine (c1 _).out.mono ?_
  rintro e w2 ⟨rfl, hb⟩
  have KK := Lib.hid (Blk.new w2 #[.int .i64 0, .int .i64 0, .int .i64 0] 43)
  have ba := (Below.refl w2.heap.size w2).alloc (Nat.le_refl _) (.cells #[.int .i64 0, .int .i64 0, .int .i64 0] 43)
  replace HB := Lib.hid (bnext (bnext HB.out hb) ba)
  clear hb ba
  go_wp2_with fail
  generalize w2.alloc (.cells #[.int .i64 0, .int .i64 0, .int .i64 0] 43) = w3 at *
  generalize w2.heap.size = bk at *
  refine (c2 _).out.mono ?_
  rintro e w4 ⟨rfl, hb⟩
  have KW := Lib.hid (Blk.new w4 #[.int .i64 0, .int .i64 0, .int .i64 0] 43)
  have ba := (Below.refl w4.heap.size w4).alloc (Nat.le_refl _) (.cells #[.int .i64 0, .int .i64 0, .int .i64 0] 43)
  replace HB := Lib.hid (bnext (bnext HB.out hb) ba)
  replace KK := Lib.hid ((KK.out.kept hb).kept ba)
  clear hb ba c1 c2
  obtain ⟨f0, f1, f2⟩ := KK.out.c3
  obtain ⟨g0, g1, g2⟩ := KW.out.c3
  go_wp2_with fail
  go_ret
  exact ⟨rfl, HB.out⟩
theorem Tryz.own : ownKnob Tryz.prog.godebug = none := by kernel_rfl
theorem laidOut : laidOutB Tryz.prog = true := by kernel_rfl
set_option linter.unusedVariables false in
set_option maxRecDepth 100000 in
set_option maxHeartbeats 2000000 in
theorem lifted (os : Os) (started : os.Started) (H : Type) (enc : TypeId × Value → H) :
  ReturnsInHanded {} Tryz.checked os 8 .any (fun w args => (Rows.fnFirstDifferenceSpec.pre enc Tryz.prog Tryz.f8 Rows.fnFirstDifferenceRow.domain false w args ∧ laidMetH Tryz.prog Rows.fnFirstDifferenceRow.laid w) ∧ sizedMet enc Tryz.prog Tryz.f8 (OpenSpec.ofChange Rows.fnFirstDifferenceSpec) false w args)
   (Rows.fnFirstDifferenceSpec.post enc Tryz.prog Tryz.f8 false true false false) := by
 refine returnsInHanded_of_change_and (C := Tryz.checked) (X := fun w _ => laidMetH Tryz.prog Rows.fnFirstDifferenceRow.laid w) (fun _ _ _ hh h => h.of_heap hh) Tryz.own started (by kernel_rfl) Tryz.func8
  (ChangeSpec.witness_shaped (enc := enc) (C := Tryz.checked) (os := os) (X := fun w _ => laidMetH Tryz.prog Rows.fnFirstDifferenceRow.laid w) false (World.laidAll Tryz.prog os Rows.fnFirstDifferenceRow.laid) #[.slice none 0 0] 8 (World.laidAll_os _ _ _)
   (World.shaped_of_ZipB (by kernel_rfl) (by kernel_rfl)) (by kernel_rfl) (by kernel_rfl) (by kernel_rfl)
   (by rw [MakeChecks.laidMetH_plain _ _ _ (by kernel_rfl)]; exact laidMet_laidAll _ (by kernel_rfl) (by kernel_rfl))) ?_
 intro W base args ds gs before hval0 hW _ _ hL _
 have hval : ∀ (j : Nat) t v, Tryz.f8.params[j]? = some t → args[j]? = some v → Value.okWide Tryz.prog W .any base t v := hval0
 have hW' := hW
 obtain ⟨p, q, hA0, hV, rfl, _, _⟩ := hW
 have hA : DataW.TrodAll enc Tryz.prog W 0 (fun _ => true) true Tryz.f8.params.toList args.toList ds p := hA0
 rw [Tryz.params8] at hA hval
 obtain ⟨v0, vs0, d0, ds0, p0, q0, hargs, rfl, rfl, h0, r0⟩ := trodAll_cons hA
 obtain ⟨rfl, rfl, rfl⟩ := trodAll_nil r0
 obtain rfl : args = #[v0] := by cases args; simp_all
 obtain ⟨rfl, rfl⟩ := trodVars_none hV
 obtain ⟨a0, len0, cap0, rfl⟩ := okWide_slice Tryz.underlying22 (hval 0 22 v0 rfl rfl)
 have k0 := h0
 have lt0 : ∀ x ∈ p0, x.block < W.heap.size := by obtain ⟨m, hm⟩ := k0; exact DataW.trod_lt m _ _ _ hm
 obtain ⟨z0, w0⟩ : ∃ zs, IsRow W a0 len0 cap0 zs := by
  obtain ⟨fuel, hf⟩ := h0
  rcases open_ints Tryz.underlying22 Tryz.underlying5 (by kernel_rfl) hf with ⟨hcs, _⟩ | ⟨x, l, c, zs, hcs, _, hl, hm, hz, _, hcell, hwz⟩
  ·simp [Value.cells] at hcs
   obtain ⟨rfl, rfl, rfl⟩ := hcs
   exact ⟨[], .inl ⟨rfl, rfl, rfl, rfl⟩⟩
  ·simp [Value.cells] at hcs
   obtain ⟨rfl, rfl, rfl⟩ := hcs
   exact ⟨zs, .inr ⟨_, rfl, hl, hm, by simpa using hz, hcell, hwz⟩⟩
 clear hA0 hval0
 refine (walkFirstDifference W w0).mono fun e W' ⟨he, bel⟩ => ?_
 subst he
 exact ⟨_, rfl, _, _, _, [], _, [], hW', trodAll_mk1 (shut_bool Tryz.underlying4 _), (trodAll_cons_mk (Below.trod laidOut (by kernel_rfl) (of_decide_eq_true (by kernel_rfl)) k0 bel lt0) trodAll_mk0), rfl, bel.frame _, fun h => by cases h⟩
-- each of the three walks over the program by itself: together they are too much for the kernel's memory
theorem jf1 : (Rows.fnFirstDifferenceRow.inPlace == Tryz.prog.inPlace 8) = true := by kernel_rfl
theorem jf2 : (Rows.fnFirstDifferenceRow.unfollowed == Tryz.prog.unfollowed 8) = true := by kernel_rfl
theorem jf3 : (Rows.fnFirstDifferenceRow.recurses == Tryz.prog.recurses 8) = true := by kernel_rfl
theorem jf4 : (Rows.fnFirstDifferenceRow.named == Tryz.prog.varsNamed 8) = true := by kernel_rfl
theorem jf5 : laidOutB Tryz.prog = true := by kernel_rfl
theorem jf6 : mapsRowed Tryz.prog = true := by kernel_rfl
theorem jf7 : Tryz.prog.stopsHeard = true := by kernel_rfl
theorem jg : false = (Rows.fnFirstDifferenceRow).goesBy Tryz.pinned.checked.prog := by kernel_rfl
theorem closed : joinedFacts Tryz.prog 8 Tryz.f8 Rows.fnFirstDifferenceSpec Rows.fnFirstDifferenceRow = true := by
 unfold joinedFacts
 rw [jf1, jf2, jf3, jf4, jf5, jf6, jf7]
 kernel_rfl
theorem said : Rows.FnFirstDifferenceSaid :=
 OpenClaim.holds_of_wide 8 Tryz.f8 rfl rfl rfl rfl rfl rfl rfl ⟨rfl, rfl, rfl, rfl, rfl⟩ rfl rfl rfl rfl rfl (by kernel_rfl) Tryz.func8 closed
  (of_decide_eq_true (by kernel_rfl)) (by unfold Func.isWrapper; first | (rw [if_pos (by decide +kernel)]; kernel_rfl) | (rw [if_neg (by decide +kernel)]; exact ⟨rfl, rfl⟩))
  (fun os started H enc _ => by rw [OpenClaim.pre_eq_preRow]; exact lifted os started H enc)
theorem plain (f : FuncId) (fn : Func) (hf : Tryz.pinned.checked.prog.funcNamed Rows.fnFirstDifferenceRow.func = some f) (hfn : Tryz.pinned.checked.prog.funcs[f]? = some fn) :
  true = Tryz.pinned.checked.prog.looks [] ∧ ∀ (j : Nat) t, fn.params[j]? = some t → Tryz.pinned.checked.prog.wantsStandIn t = false := by
 obtain rfl : f = 8 := Option.some.inj ((show Tryz.prog.funcNamed Rows.fnFirstDifferenceRow.func = some 8 by kernel_rfl).symm.trans hf) |>.symm
 obtain rfl : fn = Tryz.f8 := (Option.some.inj (Tryz.func8.symm.trans hfn)).symm
 refine ⟨by kernel_rfl, fun j t ht => ?_⟩
 rw [Tryz.params8] at ht
 obtain rfl : t = 22 := by
  have := Array.mem_of_getElem? ht
  simpa using this
 exact (show Tryz.prog.wantsStandIn 22 = false by kernel_rfl)
theorem firstDifference_card : Rows.FnFirstDifferenceCardSaid :=
 Claim7.holds_tied_plain_at .later [] _ _ _ _ said (fun _ h => by cases h) (by kernel_rfl) (fun _ h => by cases h) fnFirstDifference_row_tie rfl ⟨rfl, rfl⟩ (by kernel_rfl) rfl plain jg
#print axioms firstDifference_card
end Go.Proofs.YtgkoljphndgoeaaGreatDoor
