/-
  Several small texts in one: SubstE DrawB DrawW SpecVars VIn Vars Free SubL PpV Row PpS Has DrawS DrawV.
-/
import Derived.Test.YtknjoadicdijdaaDoorSubst
import Derived.Test.YtknjoadicdijdaaDoorDrawU
import Derived.Deep.RegionHeld3
import Derived.Test.YtknjoadicdijdaaDoorDraw
import Derived.Test.YtknjoadicdijdaaDoorBytes
import Derived.Test.YtknjoadicdijdaaDoorExpr
import Derived.Test.YtknjoadicdijdaaDoorShelf
import Derived.Test.YtknjoadicdijdaaDoorSpecValid
import Derived.Test.YtknjoadicdijdaaDoorRead
import Derived.Test.YtknjoadicdijdaaDoorHolds
import Derived.Test.YtknjoadicdijdaaDoorBlk
import Derived.Laws.OwnMore
import Derived.Deep.AppendLies
import Derived.Deep.Onto
import Derived.Test.YtknjoadicdijdaaDoorIx0
import Derived.RowKit3
namespace Go.Proofs.YtknjoadicdijdaaDoor
open Go.RowKit Tm

theorem cell_keep2 {w w' : World} {b o : Nat} {v : Value} (hb : Below w.heap.size w w') (h : w.cell? ⟨b, o, none⟩ = some v) : w'.cell? ⟨b, o, none⟩ = some v := (hb.cell (p := ⟨b, o, none⟩) (World.block_lt_of_cell? w ⟨b, o, none⟩ h)).trans h

set_option maxHeartbeats 1000000 in
theorem implVal_yes (s : ByteArray) (w : World) (hv : Valid false false s.data.toList) (hs : s.size ≤ 200) : Calls Tryd.prog 13 #[.string s] w fun e w' => e = .returned (.bool true) ∧ Below w.heap.size w w' := by
  obtain ⟨t, ht, he⟩ := hv
  have HC := fun w => Lib.hid (read_yes false s w ht he hs)
  clear he
  go_enter Tryd.func13, Tryd.ntmps13
  go_wp2_with fail
  refine (HC _).out.mono ?_
  rintro e w1 ⟨xc, ya, yn, ym, rfl, _, hb⟩
  have HB := Lib.hid hb
  clear hb
  go_wp2_with fail
  go_ret
  exact ⟨rfl, HB.out.alloc HB.out.size _⟩

set_option maxHeartbeats 1000000 in
theorem implVal_no (s : ByteArray) (w : World) (hv : ¬ (Valid false false s.data.toList ∧ s.size ≤ 200)) : Calls Tryd.prog 13 #[.string s] w fun e w' => e = .returned (.bool false) ∧ Below w.heap.size w w' := by
  have HC := fun w => Lib.hid (read_no false s w hv)
  clear hv
  go_enter Tryd.func13, Tryd.ntmps13
  go_wp2_with fail
  refine (HC _).out.mono ?_
  rintro e w1 ⟨rfl, hb⟩
  have HB := Lib.hid hb
  clear hb
  go_wp2_with fail
  go_ret
  exact ⟨rfl, HB.out.alloc HB.out.size _⟩

/-- What both sides return at a text that comes out: itself, if it is short. -/
def cut200 (r : ByteArray) : Value := if r.size ≤ 200 then .tuple #[.string r, .bool true] else .tuple #[.string (bs []), .bool false]

theorem cut_long {r : ByteArray} (h : ¬ r.size ≤ 200) : cut200 r = .tuple #[.string (bs []), .bool false] := if_neg h
theorem cut_short {r : ByteArray} (h : r.size ≤ 200) : cut200 r = .tuple #[.string r, .bool true] := if_pos h

set_option maxHeartbeats 4000000 in
theorem sub_yes (k : Bool) (s y : ByteArray) (c : UInt8) (m : Int) (w : World) (hm : w.cell? ⟨1, 0, none⟩ = some (.int .i64 m)) (hs : Valid false k s.data.toList) (hl : s.size ≤ 200) (hv : IsVar ⟨#[c]⟩) (hy : Valid false false y.data.toList) (hyl : y.size ≤ 200) :
    Calls Tryd.prog 38 #[.string s, .int .u8 (kcode k), .string ⟨#[c]⟩, .string y] w fun e w' => e = .returned (cut200 (bs (sub1 c y.data.toList s.data.toList))) ∧ Below w.heap.size w w' := by
  obtain ⟨t, ht, he⟩ := hs
  have HC := fun w => Lib.hid (read_yes k s w ht he hl)
  have KV := fun w => Lib.hid (implIsVar_yes ⟨#[c]⟩ w hv)
  have KY := fun w => Lib.hid (implVal_yes y w hy hyl)
  have KR := Lib.hid (fun w hm => repAll_at c s y m w hm hl hyl)
  clear he hv hy
  have HM := Lib.hid hm
  clear hm
  generalize bs (sub1 c y.data.toList s.data.toList) = r at *
  by_cases hr : r.size ≤ 200
  all_goals
    first | have CUT := Lib.hid (cut_short hr) | have CUT := Lib.hid (cut_long hr)
    have hr2 : (r.size : Int) ≤ 200 ∨ ¬ (r.size : Int) ≤ 200 := by omega
    clear hr2
    go_enter Tryd.func38, Tryd.ntmps38
    go_wp2_with fail
    refine (HC _).out.mono ?_
    rintro e w1 ⟨xc, ya, yn, ym, rfl, _, hb⟩
    have HB := Lib.hid (hb.alloc hb.size (.cells #[.int .u8 xc, .slice ya yn ym] 58))
    clear hb
    go_wp2_with fail
    generalize w1.alloc (.cells #[.int .u8 xc, .slice ya yn ym] 58) = W at *
    refine (KV _).out.mono ?_
    rintro e w' ⟨rfl, rfl⟩
    go_wp2_with fail
    refine (KY _).out.mono ?_
    rintro e w2 ⟨rfl, hb⟩
    have HB2 := Lib.hid (HB.out.trans (hb.mono HB.out.size))
    clear hb
    go_wp2_with fail
    refine (KR.out _ (cell_keep2 HB2.out HM.out)).mono ?_
    rintro e w3 ⟨rfl, hb⟩
    have HB3 := Lib.hid (HB2.out.trans (hb.mono HB2.out.size))
    clear hb
    go_wp2_with fail
    go_ret2
    exact ⟨by rw [CUT.out]; rfl, HB3.out⟩

set_option maxHeartbeats 2000000 in
theorem sub_text (k : Bool) (s v y : ByteArray) (w : World) (hs : ¬ (Valid false k s.data.toList ∧ s.size ≤ 200)) :
    Calls Tryd.prog 38 #[.string s, .int .u8 (kcode k), .string v, .string y] w fun e w' => e = .returned (.tuple #[.string (bs []), .bool false]) ∧ Below w.heap.size w w' := by
  have HC := fun w => Lib.hid (read_no k s w hs)
  clear hs
  go_enter Tryd.func38, Tryd.ntmps38
  go_wp2_with fail
  refine (HC _).out.mono ?_
  rintro e w1 ⟨rfl, hb⟩
  have HB := Lib.hid hb
  clear hb
  go_wp2_with fail
  go_ret2
  exact ⟨rfl, HB.out.alloc HB.out.size _⟩

set_option maxHeartbeats 2000000 in
theorem sub_var (k : Bool) (s v y : ByteArray) (w : World) (hs : Valid false k s.data.toList) (hl : s.size ≤ 200) (hm : v.size ≤ maxLen) (hv : ¬ IsVar v) :
    Calls Tryd.prog 38 #[.string s, .int .u8 (kcode k), .string v, .string y] w fun e w' => e = .returned (.tuple #[.string (bs []), .bool false]) ∧ Below w.heap.size w w' := by
  obtain ⟨t, ht, he⟩ := hs
  have HC := fun w => Lib.hid (read_yes k s w ht he hl)
  have KV := fun w => Lib.hid (implIsVar_no v w hm hv)
  clear he hv
  go_enter Tryd.func38, Tryd.ntmps38
  go_wp2_with fail
  refine (HC _).out.mono ?_
  rintro e w1 ⟨xc, ya, yn, ym, rfl, _, hb⟩
  have HB := Lib.hid (hb.alloc hb.size (.cells #[.int .u8 xc, .slice ya yn ym] 58))
  clear hb
  go_wp2_with fail
  refine (KV _).out.mono ?_
  rintro e w' ⟨rfl, rfl⟩
  go_wp2_with fail
  go_ret2
  exact ⟨rfl, HB.out⟩

set_option maxHeartbeats 2000000 in
theorem sub_by (k : Bool) (s v y : ByteArray) (w : World) (hs : Valid false k s.data.toList) (hl : s.size ≤ 200) (hv : IsVar v) (hy : ¬ (Valid false false y.data.toList ∧ y.size ≤ 200)) :
    Calls Tryd.prog 38 #[.string s, .int .u8 (kcode k), .string v, .string y] w fun e w' => e = .returned (.tuple #[.string (bs []), .bool false]) ∧ Below w.heap.size w w' := by
  obtain ⟨t, ht, he⟩ := hs
  have HC := fun w => Lib.hid (read_yes k s w ht he hl)
  have KV := fun w => Lib.hid (implIsVar_yes v w hv)
  have KY := fun w => Lib.hid (implVal_no y w hy)
  clear he hv hy
  go_enter Tryd.func38, Tryd.ntmps38
  go_wp2_with fail
  refine (HC _).out.mono ?_
  rintro e w1 ⟨xc, ya, yn, ym, rfl, _, hb⟩
  have HB := Lib.hid (hb.alloc hb.size (.cells #[.int .u8 xc, .slice ya yn ym] 58))
  clear hb
  go_wp2_with fail
  generalize w1.alloc (.cells #[.int .u8 xc, .slice ya yn ym] 58) = W at *
  refine (KV _).out.mono ?_
  rintro e w' ⟨rfl, rfl⟩
  go_wp2_with fail
  refine (KY _).out.mono ?_
  rintro e w2 ⟨rfl, hb⟩
  have HB2 := Lib.hid (HB.out.trans (hb.mono HB.out.size))
  clear hb
  go_wp2_with fail
  go_ret2
  exact ⟨rfl, HB2.out⟩

set_option maxHeartbeats 4000000 in
theorem specSubExpr_yes {i : Nat} (s y : ByteArray) (c : UInt8) (w : World) (hs : Valid false false s.data.toList) (hl : s.size ≤ 200) (hv : (c = 120 ∧ i = 0) ∨ (c = 121 ∧ i = 1) ∨ (c = 122 ∧ i = 2)) (hy : Valid false false y.data.toList) (hyl : y.size ≤ 200) :
    Calls Tryd.prog 9 #[.string s, .string ⟨#[c]⟩, .string y] w fun e w' => e = .returned (cut200 (bs (sub1 c y.data.toList s.data.toList))) ∧ Below w.heap.size w w' := by
  have HC := fun w => Lib.hid (specExpr_yes s w hs hl)
  have KV := fun w => Lib.hid (specVar_yes c i w hv)
  have KY := fun w => Lib.hid (specExpr_yes y w hy hyl)
  have KR := fun w => Lib.hid (specSub c s y w hl hyl)
  clear hs hv hy
  generalize bs (sub1 c y.data.toList s.data.toList) = r at *
  by_cases hr : r.size ≤ 200
  all_goals
    first | have CUT := Lib.hid (cut_short hr) | have CUT := Lib.hid (cut_long hr)
    go_enter Tryd.func9, Tryd.ntmps9
    go_wp2_with fail
    refine (HC _).out.mono ?_
    rintro e w1 ⟨rfl, n, rfl⟩
    go_wp2_with fail
    refine (KY _).out.mono ?_
    rintro e w1 ⟨rfl, n2, rfl⟩
    go_wp2_with fail
    refine (KV _).out.mono ?_
    rintro e w' ⟨rfl, rfl⟩
    go_wp2_with fail
    refine (KR _).out.mono ?_
    rintro e w' ⟨rfl, rfl⟩
    go_wp2_with fail
    go_ret2
    exact ⟨by rw [CUT.out]; rfl, below_of_drewN (Below.refl _ _) _⟩

set_option maxHeartbeats 2000000 in
theorem specSubExpr_text (s v y : ByteArray) (w : World) (hs : ¬ (Valid false false s.data.toList ∧ s.size ≤ 200)) :
    Calls Tryd.prog 9 #[.string s, .string v, .string y] w fun e w' => e = .returned (.tuple #[.string (bs []), .bool false]) ∧ Below w.heap.size w w' := by
  have HC := fun w => Lib.hid (specExpr_no s w hs)
  clear hs
  go_enter Tryd.func9, Tryd.ntmps9
  go_wp2_with fail
  refine (HC _).out.mono ?_
  rintro e w1 ⟨rfl, n, rfl⟩
  go_wp2_with fail
  go_ret2
  exact ⟨rfl, below_of_drewN (Below.refl _ _) n⟩

set_option maxHeartbeats 2000000 in
theorem specSubExpr_by (s v y : ByteArray) (w : World) (hs : Valid false false s.data.toList) (hl : s.size ≤ 200) (hy : ¬ (Valid false false y.data.toList ∧ y.size ≤ 200)) :
    Calls Tryd.prog 9 #[.string s, .string v, .string y] w fun e w' => e = .returned (.tuple #[.string (bs []), .bool false]) ∧ Below w.heap.size w w' := by
  have HC := fun w => Lib.hid (specExpr_yes s w hs hl)
  have KY := fun w => Lib.hid (specExpr_no y w hy)
  clear hs hy
  go_enter Tryd.func9, Tryd.ntmps9
  go_wp2_with fail
  refine (HC _).out.mono ?_
  rintro e w1 ⟨rfl, n, rfl⟩
  go_wp2_with fail
  refine (KY _).out.mono ?_
  rintro e w1 ⟨rfl, n2, rfl⟩
  go_wp2_with fail
  go_ret2
  exact ⟨rfl, below_of_drewN (Below.refl _ _) _⟩

set_option maxHeartbeats 2000000 in
theorem specSubExpr_var (s v y : ByteArray) (w : World) (hs : Valid false false s.data.toList) (hl : s.size ≤ 200) (hy : Valid false false y.data.toList) (hyl : y.size ≤ 200) (hm : v.size ≤ maxLen) (hv : ¬ IsVar v) :
    Calls Tryd.prog 9 #[.string s, .string v, .string y] w fun e w' => e = .returned (.tuple #[.string (bs []), .bool false]) ∧ Below w.heap.size w w' := by
  have HC := fun w => Lib.hid (specExpr_yes s w hs hl)
  have KY := fun w => Lib.hid (specExpr_yes y w hy hyl)
  have KV := fun w => Lib.hid (specVar_no v w hm hv)
  clear hs hy hv
  go_enter Tryd.func9, Tryd.ntmps9
  go_wp2_with fail
  refine (HC _).out.mono ?_
  rintro e w1 ⟨rfl, n, rfl⟩
  go_wp2_with fail
  refine (KY _).out.mono ?_
  rintro e w1 ⟨rfl, n2, rfl⟩
  go_wp2_with fail
  refine (KV _).out.mono ?_
  rintro e w' ⟨rfl, rfl⟩
  go_wp2_with fail
  go_ret2
  exact ⟨rfl, below_of_drewN (Below.refl _ _) _⟩

set_option maxHeartbeats 2000000 in
theorem implSubExpr (r : Value) (s v y : ByteArray) (w : World) (m : Int) (hm : w.cell? ⟨1, 0, none⟩ = some (.int .i64 m)) (hr : ∃ p q, r = .tuple #[.string p, .bool q])
    (c : ∀ w, w.cell? ⟨1, 0, none⟩ = some (.int .i64 m) → Calls Tryd.prog 38 #[.string s, .int .u8 (kcode false), .string v, .string y] w fun e w' => e = .returned r ∧ Below w.heap.size w w') :
    Calls Tryd.prog 8 #[.string s, .string v, .string y] w fun e w' => e = .returned r ∧ Below w.heap.size w w' := by
  obtain ⟨p, q, rfl⟩ := hr
  have HC := Lib.hid c
  have HM := Lib.hid hm
  clear c hm
  go_enter Tryd.func8, Tryd.ntmps8
  go_wp2_with fail
  refine (HC.out _ HM.out).mono ?_
  rintro e w1 ⟨rfl, hb⟩
  have HB := Lib.hid hb
  clear hb
  go_wp2_with fail
  go_ret2
  exact ⟨rfl, HB.out⟩

set_option maxHeartbeats 4000000 in
theorem specSubTest_yes {i : Nat} (s y : ByteArray) (c : UInt8) (w : World) (hs : Valid false true s.data.toList) (hl : s.size ≤ 200) (hv : (c = 120 ∧ i = 0) ∨ (c = 121 ∧ i = 1) ∨ (c = 122 ∧ i = 2)) (hy : Valid false false y.data.toList) (hyl : y.size ≤ 200) :
    Calls Tryd.prog 18 #[.string s, .string ⟨#[c]⟩, .string y] w fun e w' => e = .returned (cut200 (bs (sub1 c y.data.toList s.data.toList))) ∧ Below w.heap.size w w' := by
  have HC := fun w => Lib.hid (specTest_yes s w hs hl)
  have KV := fun w => Lib.hid (specVar_yes c i w hv)
  have KY := fun w => Lib.hid (specExpr_yes y w hy hyl)
  have KR := fun w => Lib.hid (specSub c s y w hl hyl)
  clear hs hv hy
  generalize bs (sub1 c y.data.toList s.data.toList) = r at *
  by_cases hr : r.size ≤ 200
  all_goals
    first | have CUT := Lib.hid (cut_short hr) | have CUT := Lib.hid (cut_long hr)
    go_enter Tryd.func18, Tryd.ntmps18
    go_wp2_with fail
    refine (HC _).out.mono ?_
    rintro e w1 ⟨rfl, n, rfl⟩
    go_wp2_with fail
    refine (KY _).out.mono ?_
    rintro e w1 ⟨rfl, n2, rfl⟩
    go_wp2_with fail
    refine (KV _).out.mono ?_
    rintro e w' ⟨rfl, rfl⟩
    go_wp2_with fail
    refine (KR _).out.mono ?_
    rintro e w' ⟨rfl, rfl⟩
    go_wp2_with fail
    go_ret2
    exact ⟨by rw [CUT.out]; rfl, below_of_drewN (Below.refl _ _) _⟩

set_option maxHeartbeats 2000000 in
theorem specSubTest_text (s v y : ByteArray) (w : World) (hs : ¬ (Valid false true s.data.toList ∧ s.size ≤ 200)) :
    Calls Tryd.prog 18 #[.string s, .string v, .string y] w fun e w' => e = .returned (.tuple #[.string (bs []), .bool false]) ∧ Below w.heap.size w w' := by
  have HC := fun w => Lib.hid (specTest_no s w hs)
  clear hs
  go_enter Tryd.func18, Tryd.ntmps18
  go_wp2_with fail
  refine (HC _).out.mono ?_
  rintro e w1 ⟨rfl, n, rfl⟩
  go_wp2_with fail
  go_ret2
  exact ⟨rfl, below_of_drewN (Below.refl _ _) n⟩

set_option maxHeartbeats 2000000 in
theorem specSubTest_by (s v y : ByteArray) (w : World) (hs : Valid false true s.data.toList) (hl : s.size ≤ 200) (hy : ¬ (Valid false false y.data.toList ∧ y.size ≤ 200)) :
    Calls Tryd.prog 18 #[.string s, .string v, .string y] w fun e w' => e = .returned (.tuple #[.string (bs []), .bool false]) ∧ Below w.heap.size w w' := by
  have HC := fun w => Lib.hid (specTest_yes s w hs hl)
  have KY := fun w => Lib.hid (specExpr_no y w hy)
  clear hs hy
  go_enter Tryd.func18, Tryd.ntmps18
  go_wp2_with fail
  refine (HC _).out.mono ?_
  rintro e w1 ⟨rfl, n, rfl⟩
  go_wp2_with fail
  refine (KY _).out.mono ?_
  rintro e w1 ⟨rfl, n2, rfl⟩
  go_wp2_with fail
  go_ret2
  exact ⟨rfl, below_of_drewN (Below.refl _ _) _⟩

set_option maxHeartbeats 2000000 in
theorem specSubTest_var (s v y : ByteArray) (w : World) (hs : Valid false true s.data.toList) (hl : s.size ≤ 200) (hy : Valid false false y.data.toList) (hyl : y.size ≤ 200) (hm : v.size ≤ maxLen) (hv : ¬ IsVar v) :
    Calls Tryd.prog 18 #[.string s, .string v, .string y] w fun e w' => e = .returned (.tuple #[.string (bs []), .bool false]) ∧ Below w.heap.size w w' := by
  have HC := fun w => Lib.hid (specTest_yes s w hs hl)
  have KY := fun w => Lib.hid (specExpr_yes y w hy hyl)
  have KV := fun w => Lib.hid (specVar_no v w hm hv)
  clear hs hy hv
  go_enter Tryd.func18, Tryd.ntmps18
  go_wp2_with fail
  refine (HC _).out.mono ?_
  rintro e w1 ⟨rfl, n, rfl⟩
  go_wp2_with fail
  refine (KY _).out.mono ?_
  rintro e w1 ⟨rfl, n2, rfl⟩
  go_wp2_with fail
  refine (KV _).out.mono ?_
  rintro e w' ⟨rfl, rfl⟩
  go_wp2_with fail
  go_ret2
  exact ⟨rfl, below_of_drewN (Below.refl _ _) _⟩

set_option maxHeartbeats 2000000 in
theorem implSubTest (r : Value) (s v y : ByteArray) (w : World) (m : Int) (hm : w.cell? ⟨1, 0, none⟩ = some (.int .i64 m)) (hr : ∃ p q, r = .tuple #[.string p, .bool q])
    (c : ∀ w, w.cell? ⟨1, 0, none⟩ = some (.int .i64 m) → Calls Tryd.prog 38 #[.string s, .int .u8 (kcode true), .string v, .string y] w fun e w' => e = .returned r ∧ Below w.heap.size w w') :
    Calls Tryd.prog 17 #[.string s, .string v, .string y] w fun e w' => e = .returned r ∧ Below w.heap.size w w' := by
  obtain ⟨p, q, rfl⟩ := hr
  have HC := Lib.hid c
  have HM := Lib.hid hm
  clear c hm
  go_enter Tryd.func17, Tryd.ntmps17
  go_wp2_with fail
  refine (HC.out _ HM.out).mono ?_
  rintro e w1 ⟨rfl, hb⟩
  have HB := Lib.hid hb
  clear hb
  go_wp2_with fail
  go_ret2
  exact ⟨rfl, HB.out⟩
end Go.Proofs.YtknjoadicdijdaaDoor

namespace Go.Proofs.YtknjoadicdijdaaDoor
open Go.RowKit

/-- The reader has been asked at most p times, and all else is as it was in w. -/
def SB (a p : Nat) (w w' : World) : Prop := ∃ q : Nat, q ≤ p ∧ Rd a q w' ∧ Kp a w w'
theorem sb_done {a p hi : Nat} {w w' : World} {s : ByteArray} {e : Ending} (hs : s.size ≤ hi) (he : e = .returned (.string s)) (h : SB a (p + 3) w w') : DrP a p 0 hi 3 w e w' := by
  obtain ⟨q, hq, hr, hk⟩ := h
  exact ⟨s, q, Nat.zero_le _, hs, hq, he, hr, hk⟩
theorem szb {s x : Nat} (hs : s ≤ 100000) (hx : x = 1) : ¬ 9223372036854775807 < s + x := by omega
theorem szc {s x k : Nat} (hs : s ≤ 100000) (hx : x = 1) (hk : k + 1 ≤ s) : (¬ 9223372036854775807 < k + x) ∧ (¬ 9223372036854775807 < k + x + (s - (k + 1))) ∧ (¬ 9223372036854775807 < k + 1 + (s - (k + 1))) ∧ (¬ 9223372036854775807 < min k s + x) ∧ (¬ 9223372036854775807 < min k s + x + (s - (k + 1))) := by omega

set_option maxRecDepth 100000 in
set_option maxHeartbeats 8000000 in
theorem bad_any {a p : Nat} (t : ByteArray) (h1 : 1 ≤ t.size) (h2 : t.size ≤ 100000) {w : World} (hr : Rd a p w) (hp : p ≤ 900000) :
    Calls Tryd.prog 33 #[.pointer (some ⟨a, 0, none⟩), .string t] w (DrP a p 0 (t.size + 1) 3 w) := by
  have HR := Lib.hid hr
  have hlt := hr.lt
  clear hr
  have C := Lib.hid (pick_any 30 HR.out (by omega) (by omega) (by omega))
  go_enter Tryd.func33, Tryd.ntmps33
  go_wp2_with fail
  refine C.out.mono ?_
  rintro e w1 ⟨k, k0, k1, rfl, hr, hk⟩
  have HR1 := Lib.hid hr
  have HK1 := Lib.hid hk
  clear hr hk C
  by_cases e0 : k = 0
  · subst e0
    have hneL : w1.heap.size ≠ a := by have := HK1.out.size; omega
    have HL := Lib.hid (Blk.new w1 #[.string (⟨#[120]⟩), .string (⟨#[48]⟩), .string (⟨#[32]⟩)] 9)
    have hax := (Below.refl _ w1).alloc (Nat.le_refl _) (.cells #[.string (⟨#[120]⟩), .string (⟨#[48]⟩), .string (⟨#[32]⟩)] 9)
    have HRx := Lib.hid (HR1.out.kept hax)
    have HKx := Lib.hid (HK1.out.next hax)
    clear hax
    have HQ : Hid (∀ i, i < 3 → ∃ s, (#[.string (⟨#[120]⟩), .string (⟨#[48]⟩), .string (⟨#[32]⟩)] : Array Value)[i]? = some (.string s) ∧ s.size = 1) := fun i hi => by
      have hi : i = 0 ∨ i = 1 ∨ i = 2 := by omega
      rcases hi with rfl | rfl | rfl <;> exact ⟨_, rfl, by decide⟩
    go_wp2_with fail
    refine (of_any 3 3 (fun s => s.size = 1) HRx.out (by omega) HL.out hneL (by omega) (by omega) HQ.out).mono ?_
    rintro e w2 ⟨x, hx, rfl, hr, hk⟩
    have HR2 := Lib.hid hr
    have HK2 := Lib.hid (HKx.out.trans hk)
    clear hr hk
    have n1 := szb h2 hx
    go_wp2_with fail
    go_ret
    exact ⟨_, p + 1 + 1, Nat.zero_le _, by rw [ByteArray.size_append, hx]; exact Nat.le_refl _, by omega, rfl, HR2.out, HK2.out⟩
  have g0 : (k == 0) = false := by rw [beq_eq_false_iff_ne]; exact e0
  clear e0
  by_cases e1 : k = 1
  · subst e1
    have ew : IntKind.i64.wrap ((t.size : Int) - 1) = ((t.size - 1 : Nat) : Int) := (IntWalk.i64_in _ (by omega)).trans (by omega)
    go_wp2_with fail
    go_ret
    exact ⟨_, p + 1, Nat.zero_le _, by simp only [ByteArray.size_extract]; omega, by omega, rfl, HR1.out, HK1.out⟩
  have g1 : (k == 1) = false := by rw [beq_eq_false_iff_ne]; exact e1
  clear e1
  by_cases e2 : k = 2
  · subst e2
    have C := Lib.hid (pick_any (t.size : Int) HR1.out (by omega) (by omega) (by omega))
    go_wp2_with fail
    refine C.out.mono ?_
    rintro e w2 ⟨k, k0, k1, rfl, hr, hk⟩
    have HR2 := Lib.hid hr
    have HK2 := Lib.hid (HK1.out.trans hk)
    clear hr hk C g0 g1
    obtain ⟨k, rfl⟩ := Int.eq_ofNat_of_zero_le k0
    have hk1 : k + 1 ≤ t.size := by omega
    have hneL : w2.heap.size ≠ a := by have := HK2.out.size; omega
    have HL := Lib.hid (Blk.new w2 #[.string (⟨#[88]⟩), .string (⟨#[119]⟩), .string (⟨#[43]⟩), .string (⟨#[61]⟩)] 9)
    have hax := (Below.refl _ w2).alloc (Nat.le_refl _) (.cells #[.string (⟨#[88]⟩), .string (⟨#[119]⟩), .string (⟨#[43]⟩), .string (⟨#[61]⟩)] 9)
    have HRx := Lib.hid (HR2.out.kept hax)
    have HKx := Lib.hid (HK2.out.next hax)
    clear hax
    have HQ : Hid (∀ i, i < 4 → ∃ s, (#[.string (⟨#[88]⟩), .string (⟨#[119]⟩), .string (⟨#[43]⟩), .string (⟨#[61]⟩)] : Array Value)[i]? = some (.string s) ∧ s.size = 1) := fun i hi => by
      have hi : i = 0 ∨ i = 1 ∨ i = 2 ∨ i = 3 := by omega
      rcases hi with rfl | rfl | rfl | rfl <;> exact ⟨_, rfl, by decide⟩
    have hs0 : SB a (p + 3) w w2.drew := ⟨_, by omega, HR2.out.kept (Below.refl _ _).drew, HK2.out.next (Below.refl _ _).drew⟩
    have hs1 : SB a (p + 3) w (w2.alloc (.cells #[.string (⟨#[88]⟩), .string (⟨#[119]⟩), .string (⟨#[43]⟩), .string (⟨#[61]⟩)] 9)).drew := ⟨_, by omega, HRx.out.kept (Below.refl _ _).drew, HKx.out.next (Below.refl _ _).drew⟩
    have HRy := Lib.hid (HRx.out.kept (Below.refl _ _).drew)
    have HKy := Lib.hid (HKx.out.next (Below.refl _ _).drew)
    have HLy := Lib.hid HL.out.drew
    have C := Lib.hid (of_any 4 4 (fun s => s.size = 1) HRy.out (by omega) HLy.out hneL (by omega) (by omega) HQ.out)
    have ew : IntKind.i64.wrap ((k : Int) + 1) = (k : Int) + 1 := IntWalk.i64_in _ (by omega)
    have hq0 : (0 : Int) ≤ (k : Int) + 1 := by omega
    have hq1 : (k : Int) ≤ (t.size : Int) := by omega
    have hq2 : (k : Int) + 1 ≤ (t.size : Int) := by omega
    have hq3 : k ≤ t.size := by omega
    have hq4 : ((k : Int) + 1).toNat = k + 1 := by omega
    have hq5 : min k t.size = k := by omega
    clear HR HR1 HK1 HL HRx HQ HLy HKx
    go_wp2_with fail
    go_region_held3 (fun w' => SB a (p + 3) w w')
      (first | assumption | (go_split_ands; assumption))
      (first
        | (go_at_call 66; (with_reducible refine C.out.mono ?_); rintro e w6 ⟨s, hs, rfl, hr, hk⟩; have hbw3 : SB a (p + 3) w w6 := ⟨_, by omega, hr, HKy.out.trans hk⟩; obtain ⟨n0, n1, n2, n3, n4⟩ := szc h2 hs hk1; replace hs := Lib.hid hs))
    all_goals
      go_split_ands
      go_wp2_with fail
      go_ret
      have hz : (t.extract 0 k ++ s ++ t.extract (k + 1) t.size).size ≤ t.size + 1 := by simp only [ByteArray.size_append, ByteArray.size_extract, hs.out]; omega
      exact sb_done hz rfl (by assumption)
  have g2 : (k == 2) = false := by rw [beq_eq_false_iff_ne]; exact e2
  clear e2
  go_wp2_with fail
  go_ret
  exact ⟨_, p + 1, Nat.zero_le _, by omega, by omega, rfl, HR1.out, HK1.out⟩

end Go.Proofs.YtknjoadicdijdaaDoor

namespace Go.Proofs.YtknjoadicdijdaaDoor
open Go.RowKit

set_option maxHeartbeats 4000000 in
theorem which_any {a p : Nat} {w : World} (hr : Rd a p w) (hp : p ≤ 900000) :
    Calls Tryd.prog 35 #[.pointer (some ⟨a, 0, none⟩)] w fun e w' => ∃ s : ByteArray, s.size ≤ 2 ∧ e = .returned (.string s) ∧ Rd a (p + 1) w' ∧ Kp a w w' := by
  have HL := Lib.hid (Blk.new w #[.string ⟨#[120]⟩, .string ⟨#[121]⟩, .string ⟨#[122]⟩, .string ⟨#[120]⟩, .string ⟨#[121]⟩, .string ⟨#[122]⟩, .string ⟨#[120]⟩, .string ⟨#[121]⟩, .string ⟨#[]⟩, .string ⟨#[88]⟩, .string ⟨#[119]⟩, .string ⟨#[120, 121]⟩] 9)
  have hax := (Below.refl _ w).alloc (Nat.le_refl _) (.cells #[.string ⟨#[120]⟩, .string ⟨#[121]⟩, .string ⟨#[122]⟩, .string ⟨#[120]⟩, .string ⟨#[121]⟩, .string ⟨#[122]⟩, .string ⟨#[120]⟩, .string ⟨#[121]⟩, .string ⟨#[]⟩, .string ⟨#[88]⟩, .string ⟨#[119]⟩, .string ⟨#[120, 121]⟩] 9)
  have HR := Lib.hid (hr.kept hax)
  have HK := Lib.hid ((Kp.refl a w).next hax)
  have hneL : w.heap.size ≠ a := by have := hr.lt; omega
  clear hax hr
  go_enter Tryd.func35, Tryd.ntmps35
  go_wp2_with fail
  refine (of_any 12 12 (fun s => s.size ≤ 2) HR.out (by omega) HL.out hneL (by omega) (by omega) (fun i hi => by
    have hi : i = 0 ∨ i = 1 ∨ i = 2 ∨ i = 3 ∨ i = 4 ∨ i = 5 ∨ i = 6 ∨ i = 7 ∨ i = 8 ∨ i = 9 ∨ i = 10 ∨ i = 11 := by omega
    rcases hi with rfl | rfl | rfl | rfl | rfl | rfl | rfl | rfl | rfl | rfl | rfl | rfl <;> exact ⟨_, rfl, by decide⟩)).mono ?_
  rintro e w1 ⟨s, hs, rfl, hr, hk⟩
  have HR1 := Lib.hid hr
  have HK1 := Lib.hid (HK.out.trans hk)
  clear hr hk
  go_wp2_with fail
  go_ret
  exact ⟨s, hs, rfl, HR1.out, HK1.out⟩

end Go.Proofs.YtknjoadicdijdaaDoor

namespace Go.Proofs.YtknjoadicdijdaaDoor
open Go.RowKit Tm

/-- Those of some letters that occur in a text. -/
def vlist (names l : List UInt8) : List UInt8 := names.filter fun c => decide (0 ≤ fnd l c)

end Go.Proofs.YtknjoadicdijdaaDoor

namespace Go.Proofs.YtknjoadicdijdaaDoor
open Go.RowKit Tm

theorem indexByte_fnd (l : List UInt8) (c : UInt8) : decide (0 ≤ Lib.indexByte l c) = decide (0 ≤ fnd l c) := by
  have h : 0 ≤ Lib.indexByte l c ↔ 0 ≤ fnd l c := by
    induction l with
    | nil => simp [Lib.indexByte, fnd]
    | cons b l ih =>
      rw [fnd_cons, ← ih]
      have hge := Lib.indexByte_ge l c
      show 0 ≤ (if b == c then 0 else if Lib.indexByte l c == -1 then -1 else Lib.indexByte l c + 1) ↔ _
      rw [show (c == b) = (b == c) by rw [Bool.eq_iff_iff, beq_iff_eq, beq_iff_eq]; exact eq_comm]
      cases hb : b == c
      · simp
        by_cases h1 : Lib.indexByte l c = -1
        · simp [h1]
        · simp [h1]; omega
      · simp
  by_cases h1 : 0 ≤ fnd l c
  · rw [decide_eq_true h1, decide_eq_true (h.2 h1)]
  · rw [decide_eq_false h1, decide_eq_false (fun h2 => h1 (h.1 h2))]

theorem contains_at (s : ByteArray) (c : UInt8) (hc : c.toNat < 128) (b : Bool) (h : decide (0 ≤ fnd s.data.toList c) = b) (w : World) :
    Calls Tryd.prog 87 #[.string s, .int .i32 c.toNat] w fun e w' => e = .returned (.bool b) ∧ w' = w := by
  refine (Tryd.strings_ContainsRune_ascii s c.toNat w (by omega) (by omega)).mono fun e w' ⟨h1, h2⟩ => ⟨?_, h2⟩
  rw [h1, Int.toNat_natCast]
  have e1 : c.toNat.toUInt8 = c := UInt8.toNat_inj.1 (by simp)
  rw [e1, indexByte_fnd, h]

theorem vlist3 (l : List UInt8) (b0 b1 b2 : Bool) (h0 : decide (0 ≤ fnd l 120) = b0) (h1 : decide (0 ≤ fnd l 121) = b1) (h2 : decide (0 ≤ fnd l 122) = b2) :
    vlist [120, 121, 122] l = (if b0 then [120] else []) ++ (if b1 then [121] else []) ++ (if b2 then [122] else []) := by
  unfold vlist
  simp only [List.filter_cons, h0, h1, h2, List.filter_nil]
  cases b0 <;> cases b1 <;> cases b2 <;> rfl

set_option maxRecDepth 100000 in
set_option maxHeartbeats 8000000 in
theorem vIn_any (s : ByteArray) (W : World) :
    Calls Tryd.prog 74 #[.string s] W fun e w' => e = .returned (.string (bs (vlist [120, 121, 122] s.data.toList))) ∧ Below W.heap.size W w' := by
  cases h0 : decide (0 ≤ fnd s.data.toList 120) <;> cases h1 : decide (0 ≤ fnd s.data.toList 121) <;> cases h2 : decide (0 ≤ fnd s.data.toList 122)
  all_goals
    have V := Lib.hid (vlist3 _ _ _ _ h0 h1 h2)
    have K0 : Hid (∀ w, Calls Tryd.prog 87 #[.string s, .int .i32 120] w fun e w' => e = .returned (.bool _) ∧ w' = w) := fun w => contains_at s 120 (by decide) _ h0 w
    have K1 : Hid (∀ w, Calls Tryd.prog 87 #[.string s, .int .i32 121] w fun e w' => e = .returned (.bool _) ∧ w' = w) := fun w => contains_at s 121 (by decide) _ h1 w
    have K2 : Hid (∀ w, Calls Tryd.prog 87 #[.string s, .int .i32 122] w fun e w' => e = .returned (.bool _) ∧ w' = w) := fun w => contains_at s 122 (by decide) _ h2 w
    clear h0 h1 h2
    go_enter Tryd.func74, Tryd.ntmps74
    go_wp2_with fail
    have nx0 : ∀ ty, (Instr.next (.pointer (some ⟨W.heap.size, 0, none⟩)) true ty).run Tryd.prog (W.iter ⟨#[120, 121, 122]⟩ 0) = .ok (.tuple #[.bool true, .int .i64 0, .int .i32 120]) (W.iter ⟨#[120, 121, 122]⟩ 1) := fun ty => by exact run_next_ascii W _ 0 ty (by decide) (by decide)
    have nx1 : ∀ ty, (Instr.next (.pointer (some ⟨W.heap.size, 0, none⟩)) true ty).run Tryd.prog (W.iter ⟨#[120, 121, 122]⟩ 1) = .ok (.tuple #[.bool true, .int .i64 1, .int .i32 121]) (W.iter ⟨#[120, 121, 122]⟩ 2) := fun ty => by exact run_next_ascii W _ 1 ty (by decide) (by decide)
    have nx2 : ∀ ty, (Instr.next (.pointer (some ⟨W.heap.size, 0, none⟩)) true ty).run Tryd.prog (W.iter ⟨#[120, 121, 122]⟩ 2) = .ok (.tuple #[.bool true, .int .i64 2, .int .i32 122]) (W.iter ⟨#[120, 121, 122]⟩ 3) := fun ty => by exact run_next_ascii W _ 2 ty (by decide) (by decide)
    have nx3 : ∀ ty, (Instr.next (.pointer (some ⟨W.heap.size, 0, none⟩)) true ty).run Tryd.prog (W.iter ⟨#[120, 121, 122]⟩ 3) = .ok (.tuple #[.bool false]) (W.iter ⟨#[120, 121, 122]⟩ 3) := fun ty => by exact run_next_end W _ 3 ty (by decide)
    refine wp_loop_rounds 4 ?_
    rw [rounds_succ]
    go_wp2_with fail
    refine (K0.out _).mono ?_
    rintro e w' ⟨rfl, rfl⟩
    go_wp2_with fail
    rw [rounds_succ]
    go_wp2_with fail
    refine (K1.out _).mono ?_
    rintro e w' ⟨rfl, rfl⟩
    go_wp2_with fail
    rw [rounds_succ]
    go_wp2_with fail
    refine (K2.out _).mono ?_
    rintro e w' ⟨rfl, rfl⟩
    go_wp2_with fail
    rw [rounds_succ]
    go_wp2_with fail
    go_ret
    exact ⟨by rw [V.out]; rfl, (Below.refl _ _).alloc (Nat.le_refl _) _⟩

end Go.Proofs.YtknjoadicdijdaaDoor

namespace Go.Proofs.YtknjoadicdijdaaDoor
open Go.RowKit Tm

theorem bnx {w w1 w2 : World} (h : Below w.heap.size w w1) (hb : Below w1.heap.size w1 w2) : Below w.heap.size w w2 := h.trans (hb.mono h.size)
set_option maxHeartbeats 2000000 in
theorem varsOf_yes (k : Bool) (s : ByteArray) (w : World) {t : Tm} (ht : Ok false k t) (hs : s.data.toList = t.ser) (hl : s.size ≤ 200) :
    Calls Tryd.prog 47 #[.string s, .int .u8 (kcode k)] w fun e w' => e = .returned (.string (bs (vlist [120, 121, 122] s.data.toList))) ∧ Below w.heap.size w w' := by
  have HC := fun w => Lib.hid (read_yes k s w ht hs hl)
  have HV := fun w => Lib.hid (vIn_any s w)
  clear hs
  generalize bs (vlist [120, 121, 122] s.data.toList) = R at *
  go_enter Tryd.func47, Tryd.ntmps47
  go_wp2_with fail
  refine (HC _).out.mono ?_
  rintro e w1 ⟨xc, ya, yn, ym, rfl, _, hb⟩
  have HB := Lib.hid (hb.alloc hb.size (.cells #[.int .u8 xc, .slice ya yn ym] 58))
  clear hb
  go_wp2_with fail
  refine (HV _).out.mono ?_
  rintro e w2 ⟨rfl, hb⟩
  have HB2 := Lib.hid (bnx HB.out hb)
  clear hb
  go_wp2_with fail
  go_ret
  exact ⟨rfl, HB2.out⟩

set_option maxHeartbeats 2000000 in
theorem varsOf_no (k : Bool) (s : ByteArray) (w : World) (h : ¬ (Valid false k s.data.toList ∧ s.size ≤ 200)) :
    Calls Tryd.prog 47 #[.string s, .int .u8 (kcode k)] w fun e w' => e = .returned (.string (bs [])) ∧ Below w.heap.size w w' := by
  have HC := fun w => Lib.hid (read_no k s w h)
  clear h
  go_enter Tryd.func47, Tryd.ntmps47
  go_wp2_with fail
  refine (HC _).out.mono ?_
  rintro e w1 ⟨rfl, hb⟩
  have HB := Lib.hid hb
  clear hb
  go_wp2_with fail
  go_ret
  exact ⟨rfl, HB.out.alloc HB.out.size _⟩

set_option maxHeartbeats 2000000 in
theorem implVarsExpr_yes (s : ByteArray) (w : World) {t : Tm} (ht : Ok false false t) (hs : s.data.toList = t.ser) (hl : s.size ≤ 200) :
    Calls Tryd.prog 15 #[.string s] w fun e w' => e = .returned (.string (bs (vlist [120, 121, 122] s.data.toList))) ∧ Below w.heap.size w w' := by
  have HC := fun w => Lib.hid (varsOf_yes false s w ht hs hl)
  clear hs
  go_enter Tryd.func15, Tryd.ntmps15
  go_wp2_with fail
  refine (HC _).out.mono ?_
  rintro e w1 ⟨rfl, hb⟩
  have HB := Lib.hid hb
  clear hb
  go_wp2_with fail
  go_ret
  exact ⟨rfl, HB.out⟩

set_option maxHeartbeats 2000000 in
theorem implVarsExpr_no (s : ByteArray) (w : World) (h : ¬ (Valid false false s.data.toList ∧ s.size ≤ 200)) :
    Calls Tryd.prog 15 #[.string s] w fun e w' => e = .returned (.string (bs [])) ∧ Below w.heap.size w w' := by
  have HC := fun w => Lib.hid (varsOf_no false s w h)
  clear h
  go_enter Tryd.func15, Tryd.ntmps15
  go_wp2_with fail
  refine (HC _).out.mono ?_
  rintro e w1 ⟨rfl, hb⟩
  have HB := Lib.hid hb
  clear hb
  go_wp2_with fail
  go_ret
  exact ⟨rfl, HB.out⟩

set_option maxHeartbeats 2000000 in
theorem implVarsTest_yes (s : ByteArray) (w : World) {t : Tm} (ht : Ok false true t) (hs : s.data.toList = t.ser) (hl : s.size ≤ 200) :
    Calls Tryd.prog 21 #[.string s] w fun e w' => e = .returned (.string (bs (vlist [120, 121, 122] s.data.toList))) ∧ Below w.heap.size w w' := by
  have HC := fun w => Lib.hid (varsOf_yes true s w ht hs hl)
  clear hs
  go_enter Tryd.func21, Tryd.ntmps21
  go_wp2_with fail
  refine (HC _).out.mono ?_
  rintro e w1 ⟨rfl, hb⟩
  have HB := Lib.hid hb
  clear hb
  go_wp2_with fail
  go_ret
  exact ⟨rfl, HB.out⟩

set_option maxHeartbeats 2000000 in
theorem implVarsTest_no (s : ByteArray) (w : World) (h : ¬ (Valid false true s.data.toList ∧ s.size ≤ 200)) :
    Calls Tryd.prog 21 #[.string s] w fun e w' => e = .returned (.string (bs [])) ∧ Below w.heap.size w w' := by
  have HC := fun w => Lib.hid (varsOf_no true s w h)
  clear h
  go_enter Tryd.func21, Tryd.ntmps21
  go_wp2_with fail
  refine (HC _).out.mono ?_
  rintro e w1 ⟨rfl, hb⟩
  have HB := Lib.hid hb
  clear hb
  go_wp2_with fail
  go_ret
  exact ⟨rfl, HB.out⟩

end Go.Proofs.YtknjoadicdijdaaDoor

namespace Go.Proofs.YtknjoadicdijdaaDoor
open Go.RowKit Tm

def VarAt' (c : UInt8) (j : Nat) : Prop := (c = 120 ∧ j = 0) ∨ (c = 121 ∧ j = 1) ∨ (c = 122 ∧ j = 2)
theorem fnd_in (l : List UInt8) (c : UInt8) : 0 ≤ fnd l c ↔ c ∈ l := by
  induction l with
  | nil => rw [fnd_nil]; simp
  | cons d l ih => rw [fnd_cons, ih]; simp
theorem vlist_in (l : List UInt8) (c : UInt8) (hc : c = 120 ∨ c = 121 ∨ c = 122) : c ∈ vlist [120, 121, 122] l ↔ c ∈ l := by
  unfold vlist
  rw [List.mem_filter, decide_eq_true_eq, fnd_in]
  exact ⟨fun h => h.2, fun h => ⟨by rcases hc with rfl | rfl | rfl <;> simp, h⟩⟩
theorem vlist_size (l : List UInt8) : (bs (vlist [120, 121, 122] l)).size ≤ 3 := by
  rw [bs_size]; unfold vlist
  exact Nat.le_trans (List.length_filter_le _ _) (by simp)
theorem low_leaf (c : UInt8) (h : (isVarB false c || isDigB c) = true) : c ≠ 88 ∧ c ≠ 89 ∧ c ≠ 90 := by
  refine ⟨?_, ?_, ?_⟩ <;> rintro rfl <;> exact absurd h (by decide)
theorem val_free {e e' : Nat → Int} : ∀ t : Tm, Ok false false t → (∀ c j, VarAt' c j → c ∈ t.ser → e j = e' j) → val e t = val e' t := by
  intro t
  induction t with
  | leaf c =>
    intro h he
    rcases ok_expr h with ⟨c', h1, h2⟩ | ⟨_, _, _, h1, _⟩
    · injection h1 with h1; subst h1
      obtain ⟨n1, n2, n3⟩ := low_leaf c h2
      unfold val
      by_cases e1 : c = 120
      · subst e1; simpa using he 120 0 (.inl ⟨rfl, rfl⟩) (by simp [ser])
      · by_cases e2 : c = 121
        · subst e2; simpa using he 121 1 (.inr (.inl ⟨rfl, rfl⟩)) (by simp [ser])
        · by_cases e3 : c = 122
          · subst e3; simpa using he 122 2 (.inr (.inr ⟨rfl, rfl⟩)) (by simp [ser])
          · simp [e1, e2, e3, n1, n2, n3]
    · cases h1
  | un c a _ =>
    intro h _
    rfl
  | bin c a b iha ihb =>
    intro h he
    rcases ok_expr h with ⟨_, h1, _⟩ | ⟨c', a', b', h1, _, ha, hb⟩
    · cases h1
    · injection h1 with h1 h2 h3; subst h1; subst h2; subst h3
      unfold val
      rw [iha ha (fun d j hd hm => he d j hd (by simp [ser, hm])), ihb hb (fun d j hd hm => he d j hd (by simp [ser, hm]))]
theorem tru_free {e e' : Nat → Int} : ∀ t : Tm, Ok false true t → (∀ c j, VarAt' c j → c ∈ t.ser → e j = e' j) → tru e t = tru e' t := by
  intro t
  induction t with
  | leaf c => intro _ _; rfl
  | un c a ih =>
    intro h he
    rcases ok_test h with ⟨_, h1, _⟩ | ⟨a', h1, ha⟩ | ⟨_, _, _, h1, _⟩ | ⟨_, _, _, h1, _⟩ <;> try cases h1
    unfold tru
    rw [ih ha (fun d j hd hm => he d j hd (by simp [ser, hm]))]
  | bin c a b iha ihb =>
    intro h he
    rcases ok_test h with ⟨_, h1, _⟩ | ⟨_, h1, _⟩ | ⟨_, _, _, h1, hc, ha, hb⟩ | ⟨_, _, _, h1, hc, ha, hb⟩
    · cases h1
    · cases h1
    · cases h1
      have ea := val_free (e := e) (e' := e') a ha (fun d j hd hm => he d j hd (by simp [ser, hm]))
      have eb := val_free (e := e) (e' := e') b hb (fun d j hd hm => he d j hd (by simp [ser, hm]))
      unfold tru
      rcases hc with rfl | rfl <;> simp [ea, eb]
    · cases h1
      have ea := iha ha (fun d j hd hm => he d j hd (by simp [ser, hm]))
      have eb := ihb hb (fun d j hd hm => he d j hd (by simp [ser, hm]))
      unfold tru
      rcases hc with rfl | rfl <;> simp [ea, eb]
end Go.Proofs.YtknjoadicdijdaaDoor

namespace Go.Proofs.YtknjoadicdijdaaDoor
open Go.RowKit Tm

def tms (c : UInt8) (y : Tm) : Tm → Tm
  | .leaf d => if d = c then y else .leaf d
  | .un d a => .un d (tms c y a)
  | .bin d a b => .bin d (tms c y a) (tms c y b)
theorem opk_let {c : UInt8} (hc : c = 120 ∨ c = 121 ∨ c = 122) {k : Bool} {l : List Bool} (h : opk false k c = some l) : k = false ∧ l = [] := by
  rcases hc with rfl | rfl | rfl <;> cases k <;> simp [opk, isVarB, isDigB] at h <;> exact ⟨rfl, h⟩
theorem tms_ser {c : UInt8} (hc : c = 120 ∨ c = 121 ∨ c = 122) (y : Tm) : ∀ (t : Tm) (k : Bool), Ok false k t → (tms c y t).ser = sub1 c y.ser t.ser := by
  intro t
  induction t with
  | leaf d =>
    intro k _
    unfold tms
    by_cases e : d = c
    · subst e; simp [ser, sub1]
    · simp [ser, sub1, e]
  | un d a ih =>
    rintro k ⟨k1, h1, h2⟩
    have e : d ≠ c := by rintro rfl; have := (opk_let hc h1).2; simp at this
    rw [show (tms c y (.un d a)).ser = d :: (tms c y a).ser from rfl, show (Tm.un d a).ser = d :: a.ser from rfl, sub1_cons, if_neg e, ih k1 h2]; rfl
  | bin d a b iha ihb =>
    rintro k ⟨k1, k2, h1, h2, h3⟩
    have e : d ≠ c := by rintro rfl; have := (opk_let hc h1).2; simp at this
    rw [show (tms c y (.bin d a b)).ser = d :: ((tms c y a).ser ++ (tms c y b).ser) from rfl, show (Tm.bin d a b).ser = d :: (a.ser ++ b.ser) from rfl, sub1_cons, if_neg e, sub1_append, iha k1 h2, ihb k2 h3]; rfl
theorem tms_ok {c : UInt8} (hc : c = 120 ∨ c = 121 ∨ c = 122) {y : Tm} (hy : Ok false false y) : ∀ (t : Tm) (k : Bool), Ok false k t → Ok false k (tms c y t) := by
  intro t
  induction t with
  | leaf d =>
    intro k h
    unfold tms
    by_cases e : d = c
    · subst e
      rw [if_pos rfl, (opk_let hc (show opk false k d = some [] from h)).1]; exact hy
    · rw [if_neg e]; exact h
  | un d a ih => rintro k ⟨k1, h1, h2⟩; exact ⟨k1, h1, ih k1 h2⟩
  | bin d a b iha ihb => rintro k ⟨k1, k2, h1, h2, h3⟩; exact ⟨k1, k2, h1, iha k1 h2, ihb k2 h3⟩
theorem tms_none {c : UInt8} {y : Tm} : ∀ t : Tm, c ∉ t.ser → tms c y t = t := by
  intro t
  induction t with
  | leaf d => intro h; unfold tms; rw [if_neg (by rintro rfl; exact h (by simp [ser]))]
  | un d a ih => intro h; simp only [tms]; rw [ih (fun hm => h (by simp [ser, hm]))]
  | bin d a b iha ihb => intro h; simp only [tms]; rw [iha (fun hm => h (by simp [ser, hm])), ihb (fun hm => h (by simp [ser, hm]))]
theorem val_sub {e e' : Nat → Int} {c : UInt8} {y : Tm} (hc : c = 120 ∨ c = 121 ∨ c = 122) (he : ∀ d j, VarAt' d j → d ≠ c → e j = e' j) (hy : ∀ j, VarAt' c j → e' j = val e y) : ∀ t : Tm, Ok false false t → val e (tms c y t) = val e' t := by
  intro t
  induction t with
  | leaf d =>
    intro h
    unfold tms
    by_cases e1 : d = c
    · subst e1
      rw [if_pos rfl]
      rcases hc with rfl | rfl | rfl
      · exact (hy 0 (.inl ⟨rfl, rfl⟩)).symm
      · exact (hy 1 (.inr (.inl ⟨rfl, rfl⟩))).symm
      · exact (hy 2 (.inr (.inr ⟨rfl, rfl⟩))).symm
    · rw [if_neg e1]
      exact val_free (.leaf d) h fun f j hf hm => he f j hf (by simp [ser] at hm; rw [hm]; exact e1)
  | un d a _ => intro h; rcases ok_expr h with ⟨_, h1, _⟩ | ⟨_, _, _, h1, _⟩ <;> cases h1
  | bin d a b iha ihb =>
    intro h
    rcases ok_expr h with ⟨_, h1, _⟩ | ⟨_, _, _, h1, _, ha, hb⟩
    · cases h1
    · cases h1
      show cmp3 d (val e (tms c y a)) (val e (tms c y b)) = cmp3 d (val e' a) (val e' b)
      rw [iha ha, ihb hb]
theorem tru_sub {e e' : Nat → Int} {c : UInt8} {y : Tm} (hc : c = 120 ∨ c = 121 ∨ c = 122) (he : ∀ d j, VarAt' d j → d ≠ c → e j = e' j) (hy : ∀ j, VarAt' c j → e' j = val e y) : ∀ t : Tm, Ok false true t → tru e (tms c y t) = tru e' t := by
  intro t
  induction t with
  | leaf d =>
    intro h
    have : d ≠ c := by rintro rfl; have := (opk_let hc (show opk false true d = some [] from h)).1; cases this
    unfold tms
    rw [if_neg this]; rfl
  | un d a ih =>
    intro h
    rcases ok_test h with ⟨_, h1, _⟩ | ⟨a', h1, ha⟩ | ⟨_, _, _, h1, _⟩ | ⟨_, _, _, h1, _⟩ <;> try cases h1
    show (!tru e (tms c y a)) = !tru e' a
    rw [ih ha]
  | bin d a b iha ihb =>
    intro h
    rcases ok_test h with ⟨_, h1, _⟩ | ⟨_, h1, _⟩ | ⟨_, _, _, h1, hd, ha, hb⟩ | ⟨_, _, _, h1, hd, ha, hb⟩
    · cases h1
    · cases h1
    · cases h1
      have ea := val_sub hc he hy a ha
      have eb := val_sub hc he hy b hb
      unfold tms tru
      rcases hd with rfl | rfl <;> simp [ea, eb]
    · cases h1
      have ea := iha ha
      have eb := ihb hb
      unfold tms tru
      rcases hd with rfl | rfl <;> simp [ea, eb]
end Go.Proofs.YtknjoadicdijdaaDoor

namespace Go.Proofs.YtknjoadicdijdaaDoor
open Go.RowKit

set_option maxHeartbeats 1000000 in
theorem ppTrue_of (t : ByteArray) (x y z : Int) (v b : Bool) (C : ∀ w, Hid (Calls Tryd.prog 50 #[.string t, .agg #[.int .i64 x, .int .i64 y, .int .i64 z]] w fun e w' => e = .returned (.tuple #[.bool v, .bool b]) ∧ Below w.heap.size w w')) (w : World) :
    Calls Tryd.prog 19 #[.string t, .agg #[.int .i64 x, .int .i64 y, .int .i64 z]] w fun e w' => e = .returned (.bool v) ∧ Below w.heap.size w w' := by
  have HB1 := Lib.hid ((Below.refl _ w).alloc (Nat.le_refl _) (.cells #[.int .i64 x, .int .i64 y, .int .i64 z] 30))
  go_enter Tryd.func19, Tryd.ntmps19
  go_wp2_with fail
  refine (C _).out.mono ?_
  rintro e w1 ⟨rfl, hb⟩
  have HB2 := Lib.hid (bnext HB1.out hb)
  clear hb
  go_wp2_with fail
  go_ret
  exact ⟨rfl, HB2.out⟩
set_option maxHeartbeats 1000000 in
theorem ppValue_of (t : ByteArray) (x y z v : Int) (b : Bool) (C : ∀ w, Hid (Calls Tryd.prog 45 #[.string t, .agg #[.int .i64 x, .int .i64 y, .int .i64 z]] w fun e w' => e = .returned (.tuple #[.int .i64 v, .bool b]) ∧ Below w.heap.size w w')) (w : World) :
    Calls Tryd.prog 12 #[.string t, .agg #[.int .i64 x, .int .i64 y, .int .i64 z]] w fun e w' => e = .returned (.int .i64 v) ∧ Below w.heap.size w w' := by
  have HB1 := Lib.hid ((Below.refl _ w).alloc (Nat.le_refl _) (.cells #[.int .i64 x, .int .i64 y, .int .i64 z] 30))
  go_enter Tryd.func12, Tryd.ntmps12
  go_wp2_with fail
  refine (C _).out.mono ?_
  rintro e w1 ⟨rfl, hb⟩
  have HB2 := Lib.hid (bnext HB1.out hb)
  clear hb
  go_wp2_with fail
  go_ret
  exact ⟨rfl, HB2.out⟩

theorem keepL {w w1 w2 : World} {Q : World → Prop} {g i j k : Nat} {a b c : Value} (h : Below w.heap.size w w1 ∧ Q w1 ∧ w1.cell? ⟨g, i, none⟩ = some a ∧ w1.cell? ⟨g, j, none⟩ = some b ∧ w1.cell? ⟨g, k, none⟩ = some c) (hQ : Q w1 → Q w2) (hq : Below w1.heap.size w1 w2) :
    Below w.heap.size w w2 ∧ Q w2 ∧ w2.cell? ⟨g, i, none⟩ = some a ∧ w2.cell? ⟨g, j, none⟩ = some b ∧ w2.cell? ⟨g, k, none⟩ = some c :=
  ⟨bnext h.1 hq, hQ h.2.1, ckeep hq h.2.2.1, ckeep hq h.2.2.2.1, ckeep hq h.2.2.2.2⟩
end Go.Proofs.YtknjoadicdijdaaDoor

namespace Go.Proofs.YtknjoadicdijdaaDoor
open Go.RowKit

def IntPost (n : Int) (w : World) (e : Ending) (w' : World) : Prop := e = .returned (.int .i64 n) ∧ Below w.heap.size w w'
def Row (w : World) (B : Nat) (T : TypeId) (v : Value) (xs : List Value) : Prop := w.ownsRow B T 1 v xs.length xs
theorem Row.kept {w w' : World} {B : Nat} {T : TypeId} {v : Value} {xs : List Value} (h : Row w B T v xs) (hb : Below w.heap.size w w') : Row w' B T v xs := by
  obtain ⟨h1, h2⟩ := h
  refine ⟨h1, ?_⟩
  rcases h2 with h2 | ⟨g, cap, cur, a, b, c, d⟩
  · exact .inl h2
  · exact .inr ⟨g, cap, cur, a, b, (hb.block g (Array.getElem?_eq_some_iff.1 c).1).trans c, d⟩
theorem Row.mono {w : World} {B B' : Nat} {T : TypeId} {v : Value} {xs : List Value} (h : Row w B T v xs) (hb : B' ≤ B) : Row w B' T v xs := World.ownsRow.mono h hb
theorem Row.nil (w : World) (B : Nat) (T : TypeId) : Row w B T (.slice none 0 0) [] := ⟨rfl, .inl ⟨rfl, rfl⟩⟩
theorem Row.new (w : World) (T : TypeId) (xs : List Value) (hx : xs.length ≤ 1000) : Row (w.alloc (.cells xs.toArray T)) w.heap.size T (.slice (some ⟨w.heap.size, 0, none⟩) xs.length xs.length) xs := by
  refine ⟨by simp, .inr ⟨w.heap.size, xs.length, xs.toArray, rfl, Nat.le_refl _, Blk.new w xs.toArray T, Nat.le_refl _, by unfold maxLen; omega, by simp, by simp⟩⟩
/-- The forms of a row's slice, and its cells. -/
theorem Row.cases {w : World} {B : Nat} {T : TypeId} {v : Value} {xs : List Value} (h : Row w B T v xs) : (v = .slice none 0 0 ∧ xs = []) ∨ ∃ g cap, v = .slice (some ⟨g, 0, none⟩) xs.length cap ∧ B ≤ g ∧ xs.length ≤ cap ∧ ∀ (j : Nat) (u : Value), xs[j]? = some u → w.cell? ⟨g, j, none⟩ = some u := by
  have h' := h
  obtain ⟨h1, h2⟩ := h
  rcases h2 with ⟨h2, h3⟩ | ⟨g, cap, cur, rfl, b, c, d, _⟩
  · exact .inl ⟨h2, List.eq_nil_of_length_eq_zero h3⟩
  · refine .inr ⟨g, cap, rfl, b, d, fun j u hu => ?_⟩
    have hj : j < xs.length := (List.getElem?_eq_some_iff.1 hu).1
    rw [World.ownsRow.cellAt (show World.ownsRow _ _ _ _ _ _ _ from h') j (by omega)]
    exact hu
theorem Row.one {w : World} {B : Nat} {T : TypeId} {v a : Value} (h : Row w B T v [a]) : ∃ g cap, v = .slice (some ⟨g, 0, none⟩) 1 cap ∧ w.cell? ⟨g, 0, none⟩ = some a := by
  rcases h.cases with ⟨_, h2⟩ | ⟨g, cap, h1, _, _, h3⟩
  · cases h2
  · exact ⟨g, cap, h1, h3 0 a rfl⟩
theorem Row.two {w : World} {B : Nat} {T : TypeId} {v a b : Value} (h : Row w B T v [a, b]) : ∃ g cap, v = .slice (some ⟨g, 0, none⟩) 2 cap ∧ w.cell? ⟨g, 0, none⟩ = some a ∧ w.cell? ⟨g, 1, none⟩ = some b := by
  rcases h.cases with ⟨_, h2⟩ | ⟨g, cap, h1, _, _, h3⟩
  · cases h2
  · exact ⟨g, cap, h1, h3 0 a rfl, h3 1 b rfl⟩
theorem Row.zero {w : World} {B : Nat} {T : TypeId} {v : Value} (h : Row w B T v []) : ∃ a cap, v = .slice a 0 cap := by
  rcases h.cases with ⟨h2, _⟩ | ⟨g, cap, h1, _⟩
  · exact ⟨_, _, h2⟩
  · exact ⟨_, _, h1⟩
theorem Row.one' {w : World} {B : Nat} {T : TypeId} {v a : Value} (h : Row w B T v [a]) : ∃ g cap, v = .slice (some ⟨g, 0, none⟩) 1 cap ∧ B ≤ g ∧ w.cell? ⟨g, 0, none⟩ = some a := by
  rcases h.cases with ⟨_, h2⟩ | ⟨g, cap, h1, hb, _, h3⟩
  · cases h2
  · exact ⟨g, cap, h1, hb, h3 0 a rfl⟩
theorem Row.two' {w : World} {B : Nat} {T : TypeId} {v a b : Value} (h : Row w B T v [a, b]) : ∃ g cap, v = .slice (some ⟨g, 0, none⟩) 2 cap ∧ B ≤ g ∧ w.cell? ⟨g, 0, none⟩ = some a ∧ w.cell? ⟨g, 1, none⟩ = some b := by
  rcases h.cases with ⟨_, h2⟩ | ⟨g, cap, h1, hb, _, h3⟩
  · cases h2
  · exact ⟨g, cap, h1, hb, h3 0 a rfl, h3 1 b rfl⟩
/-- A row that is not empty, as a list of cells that may be appended. -/
theorem Row.news {w : World} {B : Nat} {T : TypeId} {v : Value} {xs : List Value} (h : Row w B T v xs) (hx : 0 < xs.length) : ∃ g cap, v = .slice (some ⟨g, 0, none⟩) xs.length cap ∧ B ≤ g ∧ g < w.heap.size ∧ ∀ (j : Nat) (u : Value), xs[j]? = some u → w.cell? ((⟨g, 0, none⟩ : Addr).add j) = some u := by
  rcases h.cases with ⟨_, h2⟩ | ⟨g, cap, h1, hb, _, h3⟩
  · rw [h2] at hx; simp at hx
  · refine ⟨g, cap, h1, hb, ?_, World.ownsRow.cells h (by rw [h1]; rfl)⟩
    have := World.ownsRow.lt h g (by rw [h1]; rfl)
    exact this.2
/-- Behind an append. -/
theorem Row.after {w w2 w3 : World} {T : TypeId} {v : Value} {xs ys : List Value} {g3 cap3 : Nat} (hB : Below w.heap.size w w2) (hrow : Row w2 w.heap.size T v xs)
    (hown : w3.ownsRow w.heap.size T 1 (.slice (some ⟨g3, 0, none⟩) (xs.length + ys.length) cap3) (xs.length + ys.length) (xs ++ ys)) (hgrow : w2.grownBy w3 v.ownBlock) :
    Row w3 w.heap.size T (.slice (some ⟨g3, 0, none⟩) (xs.length + ys.length) cap3) (xs ++ ys) ∧ Below w.heap.size w w3 := by
  refine ⟨?_, hB.grown hgrow hB.size (fun k hk => (World.ownsRow.lt hrow k hk).1)⟩
  unfold Row
  rw [List.length_append]
  exact hown
end Go.Proofs.YtknjoadicdijdaaDoor

namespace Go.Proofs.YtknjoadicdijdaaDoor
open Go.RowKit

theorem infoState : (Tryd.prog.info? 30).map (fun i => (i.zero, i.size, i.bytes)) = some (some (.agg #[.int .i64 0, .int .i64 0, .int .i64 0]), 3, 24) := by kernel_rfl

/-- The cells of the first k states. -/
def stC : Nat → List Value
  | 0 => []
  | k + 1 => stC k ++ [.int .i64 (ax k), .int .i64 (ay k), .int .i64 (az k)]
theorem stC_len (k : Nat) : (stC k).length = k * 3 := by
  induction k with
  | zero => rfl
  | succ k ih => unfold stC; rw [List.length_append, ih]; simp; omega
theorem stC_get (n k : Nat) (h : k < n) : (stC n)[k * 3]? = some (.int .i64 (ax k)) ∧ (stC n)[k * 3 + 1]? = some (.int .i64 (ay k)) ∧ (stC n)[k * 3 + 2]? = some (.int .i64 (az k)) := by
  induction n with
  | zero => omega
  | succ n ih =>
    unfold stC
    by_cases e : k = n
    · subst e
      refine ⟨?_, ?_, ?_⟩ <;> rw [List.getElem?_append_right (by rw [stC_len]; omega), stC_len]
      · rw [show k * 3 - k * 3 = 0 by omega]; rfl
      · rw [show k * 3 + 1 - k * 3 = 1 by omega]; rfl
      · rw [show k * 3 + 2 - k * 3 = 2 by omega]; rfl
    · obtain ⟨h1, h2, h3⟩ := ih (by omega)
      refine ⟨?_, ?_, ?_⟩ <;> rw [List.getElem?_append_left (by rw [stC_len]; omega)] <;> assumption

/-- The list of all states lies at block g. -/
def Sts (w : World) (g : Nat) : Prop := ∀ k, k < 27 → w.cell? ⟨g, k * 3, none⟩ = some (.int .i64 (ax k)) ∧ w.cell? ⟨g, k * 3 + 1, none⟩ = some (.int .i64 (ay k)) ∧ w.cell? ⟨g, k * 3 + 2, none⟩ = some (.int .i64 (az k))
theorem Sts.kept {w w' : World} {g : Nat} (h : Sts w g) (hb : Below w.heap.size w w') : Sts w' g := fun k hk => by
  obtain ⟨h1, h2, h3⟩ := h k hk
  exact ⟨ckeep hb h1, ckeep hb h2, ckeep hb h3⟩

set_option maxRecDepth 100000 in
set_option maxHeartbeats 4000000 in
theorem states_any (w : World) : Calls Tryd.prog 10 #[] w fun e w' => ∃ g cap, 27 ≤ cap ∧ g < w'.heap.size ∧ e = .returned (.slice (some ⟨g, 0, none⟩) 27 cap) ∧ Sts w' g ∧ Below w.heap.size w w' := by
  obtain ⟨i0, hi0, hz0, hz1, hz2⟩ := info_parts infoState
  have HB : Hid (Below w.heap.size w (w.alloc (.cells #[] 30))) := (Below.refl _ _).alloc (Nat.le_refl _) _
  have HR : Hid ((w.alloc (.cells #[] 30)).ownsRow w.heap.size 30 3 (.slice (some ⟨w.heap.size, 0, none⟩) 0 0) 0 (stC 0)) :=
    ⟨rfl, .inr ⟨w.heap.size, 0, #[], rfl, Nat.le_refl _, Blk.new w #[] 30, Nat.le_refl _, by unfold maxLen; omega, rfl, rfl⟩⟩
  go_enter Tryd.func10, Tryd.ntmps10
  go_wp2_with fail
  generalize w.alloc (.cells #[] 30) = w0 at *
  go_loopw [1, 2] (fun v i wr => ∃ k : Nat, k ≤ 27 ∧ i = .int .i64 k ∧ Hid (wr.ownsRow w.heap.size 30 3 v k (stC k)) ∧ Hid (Below w.heap.size w wr)) (fun _ i _ => 27 - (intOf i).toNat)
  case atStart => exact ⟨0, by omega, rfl, HR, HB⟩
  case round =>
    clear HR HB
    obtain ⟨k, hk, rfl, HR, HB⟩ := hrel
    by_cases hlt : k < 27
    · have hlt2 : (k : Int) < 27 := by omega
      go_wp2_with (at_builtin; refine wpList_append_lies _ (by rfl) _ _ _ (by rfl) w.heap.size 30 i0 _ 3 24 Tryd.underlying27 hi0 hz0 hz1 hz2 rfl (by omega) _ _ _ (by rfl) (World.ownsRow.alloc HR.out _) ⟨wr.heap.size, 0, none⟩ 1 1 [.int .i64 ((k : Int) % 3), .int .i64 ((k : Int) / 3 % 3), .int .i64 ((k : Int) / 9)] (by rfl) (by rfl) (World.news_of_block (cs := #[.int .i64 ((k : Int) % 3), .int .i64 ((k : Int) / 3 % 3), .int .i64 ((k : Int) / 9)]) (t := 30) (fr := (0, 0)) (heap_alloc_new wr _)) (by simp [Value.oneCell']) (by omega) (by unfold maxLen; omega) (by omega) (by have := HB.out.size; simp; omega) (wr.heap.size + 1) (by simp) ?_; intro g3 cap3 w3 hown hgrow hat hlt3)
      have hb3 := (HB.out.alloc HB.out.size _).grown hgrow (by have := HB.out.size; simp; omega) (fun k hk => (World.ownsRow.lt HR.out k hk).1)
      exact ⟨⟨k + 1, by omega, by go_num, hown, hb3⟩, by simp [intOf]; omega⟩
    · have hk2 : k = 27 := by omega
      subst hk2
      obtain ⟨g, cap, rfl, hg, hglt⟩ := HR.out.form (by omega)
      have hcap : 27 ≤ cap := by
        rcases HR.out.2 with ⟨h, _⟩ | ⟨g', cap', cur, h, _, _, hc, _⟩
        · simp at h
        · simp at h; omega
      have HS : Hid (Sts wr g) := fun k hk => by
        obtain ⟨h1, h2, h3⟩ := stC_get 27 k hk
        refine ⟨?_, ?_, ?_⟩
        · rw [← h1]; exact World.ownsRow.cellAt HR.out _ (by omega)
        · rw [← h2]; exact World.ownsRow.cellAt HR.out _ (by omega)
        · rw [← h3]; exact World.ownsRow.cellAt HR.out _ (by omega)
      clear HR
      go_wp2_with fail
      go_ret
      exact ⟨g, cap, hcap, hglt, rfl, HS.out, HB.out⟩
end Go.Proofs.YtknjoadicdijdaaDoor

namespace Go.Proofs.YtknjoadicdijdaaDoor
open Go.RowKit

theorem ext1 (s : ByteArray) (i : Nat) (h : i < s.size) : s.extract i (i + 1) = ⟨#[s[i]]⟩ := by
  apply ByteArray.ext
  rw [ByteArray.data_extract]
  apply Array.ext
  · simp; have : s.data.size = s.size := rfl; omega
  · intro j h1 h2
    simp at h2
    subst h2
    simp; rfl

set_option maxHeartbeats 1000000 in
/-- ppHas(s, v) for a text v of one byte. -/
theorem has_any (s : ByteArray) (c : UInt8) (w : World) (hs : s.size ≤ 1000000) : Calls Tryd.prog 14 #[.string s, .string ⟨#[c]⟩] w fun e w' => e = .returned (.bool (decide (c ∈ s.data.toList))) ∧ w = w' := by
  obtain ⟨R, hR⟩ : ∃ R, decide (c ∈ s.data.toList) = R := ⟨_, rfl⟩
  have HR := Lib.hid hR
  rw [hR]
  clear hR
  go_enter Tryd.func14, Tryd.ntmps14
  go_wp2
  go_loop [5] (fun i => ∃ k : Nat, k ≤ s.size ∧ i = .int .i64 k ∧ Hid (∀ j, j < k → s.data.toList[j]? ≠ some c)) (fun i => s.size - (intOf i).toNat)
  case atStart => exact ⟨0, Nat.zero_le _, rfl, fun j hj => by omega⟩
  case round =>
    obtain ⟨k, hk, rfl, HH⟩ := hrel
    by_cases hlt : k < s.size
    · have hd : Hid (s.data.toList[k]? = some s[k]) := List.getElem?_eq_getElem (by simpa using hlt)
      have h1 : (k : Int) ≤ (s.size : Int) := by omega
      have h2 : (k : Int) + 1 ≤ (s.size : Int) := by omega
      by_cases hc : s[k] = c
      · have hfin : Hid (R = true) := HR.out.symm.trans <| decide_eq_true (List.mem_of_getElem? (hd.out.trans (by rw [hc])))
        have ht : ((s.extract k (k + 1)).toList == [c]) = true := by rw [ByteArray.toList_eq, ext1 s k hlt, hc]; simp
        clear hc
        go_wp2
        go_ret
        exact ⟨by rw [hfin.out]; rfl, rfl⟩
      · have ht : ((s.extract k (k + 1)).toList == [c]) = false := by
          rw [ByteArray.toList_eq, ext1 s k hlt]
          simpa using hc
        have H2 : Hid (∀ j, j < k + 1 → s.data.toList[j]? ≠ some c) := fun j hj => by
          by_cases e : j = k
          · subst e; rw [hd.out]; simpa using hc
          · exact HH.out j (by omega)
        clear hc
        go_wp2
        go_round
        case rel => exact ⟨k + 1, by omega, by go_num, H2⟩
        case measure => simp [intOf]; omega
    · have hfin : Hid (R = false) := HR.out.symm.trans <| decide_eq_false fun hm => by
        obtain ⟨j, hj, e⟩ := List.getElem_of_mem hm
        exact HH.out j (by simp at hj; have : s.data.size = s.size := rfl; omega) (by rw [List.getElem?_eq_getElem hj, e])
      go_wp2
      go_ret
      exact ⟨by rw [hfin.out]; rfl, rfl⟩
end Go.Proofs.YtknjoadicdijdaaDoor

namespace Go.Proofs.YtknjoadicdijdaaDoor
open Go.RowKit

end Go.Proofs.YtknjoadicdijdaaDoor

namespace Go.Proofs.YtknjoadicdijdaaDoor
open Go.RowKit

theorem IsRow.kept {w w' : World} {a : Option Addr} {len cap : Nat} {zs : List Int} (h : IsRow w a len cap zs) (hb : Below w.heap.size w w') : IsRow w' a len cap zs := by
  rcases h with h | ⟨x, rfl, hl, hm, hz, hc, hw⟩
  · exact .inl h
  · exact .inr ⟨x, rfl, hl, hm, hz, fun i hi => by
      have h1 := hc i hi
      have hlt := World.block_lt_of_cell? w _ h1
      exact (hb.cell hlt).trans h1, hw⟩

theorem keepS {w w1 : World} {b c : Nat} {v0 v1 v2 x y z : Value} (h : Below c w w1) (hne : ¬ b = c) (h0 : w1.cell? ⟨b, 0, none⟩ = some x) (h1 : w1.cell? ⟨b, 1, none⟩ = some y) (h2 : w1.cell? ⟨b, 2, none⟩ = some z) :
    Below c w (((w1.setCell ⟨c, 0, none⟩ v0).setCell ⟨c, 1, none⟩ v1).setCell ⟨c, 2, none⟩ v2) ∧
    (((w1.setCell ⟨c, 0, none⟩ v0).setCell ⟨c, 1, none⟩ v1).setCell ⟨c, 2, none⟩ v2).cell? ⟨b, 0, none⟩ = some x ∧
    (((w1.setCell ⟨c, 0, none⟩ v0).setCell ⟨c, 1, none⟩ v1).setCell ⟨c, 2, none⟩ v2).cell? ⟨b, 1, none⟩ = some y ∧
    (((w1.setCell ⟨c, 0, none⟩ v0).setCell ⟨c, 1, none⟩ v1).setCell ⟨c, 2, none⟩ v2).cell? ⟨b, 2, none⟩ = some z := by
  have hne2 : ¬ c = b := fun h => hne h.symm
  exact ⟨Below.setCell (Below.setCell (Below.setCell h (by simp) _) (by simp) _) (by simp) _, by simp [go_sem, h0], by simp [go_sem, h1], by simp [go_sem, h2]⟩

end Go.Proofs.YtknjoadicdijdaaDoor
