import Derived.Test.YtlhmdpkenkibiaaGreatDoorTopS2
import Derived.Test.YtlhmdpkenkibiaaGreatDoorTopQ1
import Derived.Test.YtlhmdpkenkibiaaGreatDoorTopG2
import Derived.Test.YtlhmdpkenkibiaaGreatDoorPpS
namespace Go.Proofs.YtlhmdpkenkibiaaGreatDoor
open Go.RowKit Go.Great Tm
set_option maxHeartbeats 1000000 in
theorem ppFinals_of (p q : ByteArray) (x y z : Int) (lo bl b : Bool) (C : ∀ w, Hid (Calls Tryz.prog 109 #[.string p, .agg #[.int .i64 x, .int .i64 y, .int .i64 z]] w fun e w' => e = .returned (.tuple #[.agg #[.string q, .bool lo, .bool bl], .bool b]) ∧ Below w.heap.size w w')) (w : World) :
  Calls Tryz.prog 38 #[.string p, .agg #[.int .i64 x, .int .i64 y, .int .i64 z]] w fun e w' => e = .returned (.string q) ∧ Below w.heap.size w w' := by
 go_enter Tryz.func38, Tryz.ntmps38
 go_wp2_with fail
 refine (C _).out.mono ?_
 rintro e w1 ⟨rfl, hb⟩
 have HB := Lib.hid hb
 clear hb
 go_wp2_with fail
 go_ret
 have HK := bnext ((Below.refl _ w).alloc (Nat.le_refl _) _) HB.out
 exact ⟨rfl, HK.alloc HK.size _⟩
theorem fin_at (p : Pg) (hp : p.ok false) (lp : p.ser.length ≤ 200) (k : Nat) (hk : k < 27) (w : World) :
  Calls Tryz.prog 38 #[.string (bs p.ser), .agg #[.int .i64 (ax k), .int .i64 (ay k), .int .i64 (az k)]] w fun e w' => e = .returned (.string (bs (tb (rT p k)))) ∧ Below w.heap.size w w' :=
 ppFinals_of _ _ _ _ _ (rL p k) (rK p k) true (fun w => Lib.hid (implRf_yes (bs p.ser) (ax k) (ay k) (az k) k w hp (by simp [bs]) (by rw [bs_size]; exact lp) (at_st3 (i := (k : Int)) (by omega) (by omega)) (by unfold ax ay az; omega))) w
theorem ixs_at8 {k : Nat} (hk : k < 27) : ixx (ax k) (ay k) (az k) = k := by
 unfold ixx ax ay az; omega
theorem hasp_at8 (T : Nat → Nat → Bool) (i j : Nat) (hi : i < 27) (hj : j < 27) (w : World) : Calls Tryz.prog 36 #[.string (bs (relT T)), .agg #[.int .i64 (ax i), .int .i64 (ay i), .int .i64 (az i)], .agg #[.int .i64 (ax j), .int .i64 (ay j), .int .i64 (az j)]] w fun e w' => e = .returned (.bool (T i j)) ∧ Below w.heap.size w w' := by
 have h := implHasPair (bs (relT T)) (ax i) (ay i) (az i) (ax j) (ay j) (az j) (rel729_bs T) (at_st3 (i := (i : Int)) (by omega) (by omega)) (at_st3 (i := (j : Int)) (by omega) (by omega)) w
 unfold BoolIs at h
 rw [ixs_at8 hi, ixs_at8 hj, relS_bs T hi hj] at h
 exact h
end Go.Proofs.YtlhmdpkenkibiaaGreatDoor
