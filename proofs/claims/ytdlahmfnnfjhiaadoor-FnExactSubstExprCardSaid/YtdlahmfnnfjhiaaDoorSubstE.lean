/-
  SubstExpr and SubstTest, of the program and of the model: the text with another one in place of a letter and true, or the empty text and false.
-/
import Derived.Test.YtdlahmfnnfjhiaaDoorSubst
namespace Go.Proofs.YtdlahmfnnfjhiaaDoor
open Go.RowKit Tm

theorem cell_keep2 {w w' : World} {b o : Nat} {v : Value} (hb : Below w.heap.size w w') (h : w.cell? ⟨b, o, none⟩ = some v) : w'.cell? ⟨b, o, none⟩ = some v := (hb.cell (p := ⟨b, o, none⟩) (World.block_lt_of_cell? w ⟨b, o, none⟩ h)).trans h

set_option maxHeartbeats 1000000 in
theorem implVal_yes (s : ByteArray) (w : World) (hv : Valid false false s.data.toList) (hs : s.size ≤ 200) : Calls Tryd.prog 18 #[.string s] w fun e w' => e = .returned (.bool true) ∧ Below w.heap.size w w' := by
  obtain ⟨t, ht, he⟩ := hv
  have HC := fun w => Lib.hid (read_yes false s w ht he hs)
  clear he
  go_enter Tryd.func18, Tryd.ntmps18
  go_wp2_with fail
  refine (HC _).out.mono ?_
  rintro e w1 ⟨xc, ya, yn, ym, rfl, _, hb⟩
  have HB := Lib.hid hb
  clear hb
  go_wp2_with fail
  go_ret
  exact ⟨rfl, HB.out.alloc HB.out.size _⟩

set_option maxHeartbeats 1000000 in
theorem implVal_no (s : ByteArray) (w : World) (hv : ¬ (Valid false false s.data.toList ∧ s.size ≤ 200)) : Calls Tryd.prog 18 #[.string s] w fun e w' => e = .returned (.bool false) ∧ Below w.heap.size w w' := by
  have HC := fun w => Lib.hid (read_no false s w hv)
  clear hv
  go_enter Tryd.func18, Tryd.ntmps18
  go_wp2_with fail
  refine (HC _).out.mono ?_
  rintro e w1 ⟨rfl, hb⟩
  have HB := Lib.hid hb
  clear hb
  go_wp2_with fail
  go_ret
  exact ⟨rfl, HB.out.alloc HB.out.size _⟩

/-- What both sides return at a text that comes out: itself, if it is short. -/
def cut200 (r : ByteArray) : Value := if r.size ≤ 200 then .tuple #[.string r, .bool true] else .tuple #[.string (bs []), .bool false]

theorem cut_long {r : ByteArray} (h : ¬ r.size ≤ 200) : cut200 r = .tuple #[.string (bs []), .bool false] := if_neg h
theorem cut_short {r : ByteArray} (h : r.size ≤ 200) : cut200 r = .tuple #[.string r, .bool true] := if_pos h

set_option maxHeartbeats 4000000 in
theorem sub_yes (k : Bool) (s y : ByteArray) (c : UInt8) (m : Int) (w : World) (hm : w.cell? ⟨0, 0, none⟩ = some (.int .i64 m)) (hs : Valid false k s.data.toList) (hl : s.size ≤ 200) (hv : IsVar ⟨#[c]⟩) (hy : Valid false false y.data.toList) (hyl : y.size ≤ 200) :
    Calls Tryd.prog 12 #[.string s, .int .u8 (kcode k), .string ⟨#[c]⟩, .string y] w fun e w' => e = .returned (cut200 (bs (sub1 c y.data.toList s.data.toList))) ∧ Below w.heap.size w w' := by
  obtain ⟨t, ht, he⟩ := hs
  have HC := fun w => Lib.hid (read_yes k s w ht he hl)
  have KV := fun w => Lib.hid (implIsVar_yes ⟨#[c]⟩ w hv)
  have KY := fun w => Lib.hid (implVal_yes y w hy hyl)
  have KR := Lib.hid (fun w hm => repAll_at c s y m w hm hl hyl)
  clear he hv hy
  have HM := Lib.hid hm
  clear hm
  generalize bs (sub1 c y.data.toList s.data.toList) = r at *
  by_cases hr : r.size ≤ 200
  all_goals
    first | have CUT := Lib.hid (cut_short hr) | have CUT := Lib.hid (cut_long hr)
    have hr2 : (r.size : Int) ≤ 200 ∨ ¬ (r.size : Int) ≤ 200 := by omega
    clear hr2
    go_enter Tryd.func12, Tryd.ntmps12
    go_wp2_with fail
    refine (HC _).out.mono ?_
    rintro e w1 ⟨xc, ya, yn, ym, rfl, _, hb⟩
    have HB := Lib.hid (hb.alloc hb.size (.cells #[.int .u8 xc, .slice ya yn ym] 33))
    clear hb
    go_wp2_with fail
    generalize w1.alloc (.cells #[.int .u8 xc, .slice ya yn ym] 33) = W at *
    refine (KV _).out.mono ?_
    rintro e w' ⟨rfl, rfl⟩
    go_wp2_with fail
    refine (KY _).out.mono ?_
    rintro e w2 ⟨rfl, hb⟩
    have HB2 := Lib.hid (HB.out.trans (hb.mono HB.out.size))
    clear hb
    go_wp2_with fail
    refine (KR.out _ (cell_keep2 HB2.out HM.out)).mono ?_
    rintro e w3 ⟨rfl, hb⟩
    have HB3 := Lib.hid (HB2.out.trans (hb.mono HB2.out.size))
    clear hb
    go_wp2_with fail
    go_ret2
    exact ⟨by rw [CUT.out]; rfl, HB3.out⟩

set_option maxHeartbeats 2000000 in
theorem sub_text (k : Bool) (s v y : ByteArray) (w : World) (hs : ¬ (Valid false k s.data.toList ∧ s.size ≤ 200)) :
    Calls Tryd.prog 12 #[.string s, .int .u8 (kcode k), .string v, .string y] w fun e w' => e = .returned (.tuple #[.string (bs []), .bool false]) ∧ Below w.heap.size w w' := by
  have HC := fun w => Lib.hid (read_no k s w hs)
  clear hs
  go_enter Tryd.func12, Tryd.ntmps12
  go_wp2_with fail
  refine (HC _).out.mono ?_
  rintro e w1 ⟨rfl, hb⟩
  have HB := Lib.hid hb
  clear hb
  go_wp2_with fail
  go_ret2
  exact ⟨rfl, HB.out.alloc HB.out.size _⟩

set_option maxHeartbeats 2000000 in
theorem sub_var (k : Bool) (s v y : ByteArray) (w : World) (hs : Valid false k s.data.toList) (hl : s.size ≤ 200) (hm : v.size ≤ maxLen) (hv : ¬ IsVar v) :
    Calls Tryd.prog 12 #[.string s, .int .u8 (kcode k), .string v, .string y] w fun e w' => e = .returned (.tuple #[.string (bs []), .bool false]) ∧ Below w.heap.size w w' := by
  obtain ⟨t, ht, he⟩ := hs
  have HC := fun w => Lib.hid (read_yes k s w ht he hl)
  have KV := fun w => Lib.hid (implIsVar_no v w hm hv)
  clear he hv
  go_enter Tryd.func12, Tryd.ntmps12
  go_wp2_with fail
  refine (HC _).out.mono ?_
  rintro e w1 ⟨xc, ya, yn, ym, rfl, _, hb⟩
  have HB := Lib.hid (hb.alloc hb.size (.cells #[.int .u8 xc, .slice ya yn ym] 33))
  clear hb
  go_wp2_with fail
  refine (KV _).out.mono ?_
  rintro e w' ⟨rfl, rfl⟩
  go_wp2_with fail
  go_ret2
  exact ⟨rfl, HB.out⟩

set_option maxHeartbeats 2000000 in
theorem sub_by (k : Bool) (s v y : ByteArray) (w : World) (hs : Valid false k s.data.toList) (hl : s.size ≤ 200) (hv : IsVar v) (hy : ¬ (Valid false false y.data.toList ∧ y.size ≤ 200)) :
    Calls Tryd.prog 12 #[.string s, .int .u8 (kcode k), .string v, .string y] w fun e w' => e = .returned (.tuple #[.string (bs []), .bool false]) ∧ Below w.heap.size w w' := by
  obtain ⟨t, ht, he⟩ := hs
  have HC := fun w => Lib.hid (read_yes k s w ht he hl)
  have KV := fun w => Lib.hid (implIsVar_yes v w hv)
  have KY := fun w => Lib.hid (implVal_no y w hy)
  clear he hv hy
  go_enter Tryd.func12, Tryd.ntmps12
  go_wp2_with fail
  refine (HC _).out.mono ?_
  rintro e w1 ⟨xc, ya, yn, ym, rfl, _, hb⟩
  have HB := Lib.hid (hb.alloc hb.size (.cells #[.int .u8 xc, .slice ya yn ym] 33))
  clear hb
  go_wp2_with fail
  generalize w1.alloc (.cells #[.int .u8 xc, .slice ya yn ym] 33) = W at *
  refine (KV _).out.mono ?_
  rintro e w' ⟨rfl, rfl⟩
  go_wp2_with fail
  refine (KY _).out.mono ?_
  rintro e w2 ⟨rfl, hb⟩
  have HB2 := Lib.hid (HB.out.trans (hb.mono HB.out.size))
  clear hb
  go_wp2_with fail
  go_ret2
  exact ⟨rfl, HB2.out⟩

set_option maxHeartbeats 4000000 in
theorem specSubExpr_yes {i : Nat} (s y : ByteArray) (c : UInt8) (w : World) (hs : Valid false false s.data.toList) (hl : s.size ≤ 200) (hv : (c = 120 ∧ i = 0) ∨ (c = 121 ∧ i = 1) ∨ (c = 122 ∧ i = 2)) (hy : Valid false false y.data.toList) (hyl : y.size ≤ 200) :
    Calls Tryd.prog 5 #[.string s, .string ⟨#[c]⟩, .string y] w fun e w' => e = .returned (cut200 (bs (sub1 c y.data.toList s.data.toList))) ∧ Below w.heap.size w w' := by
  have HC := fun w => Lib.hid (specExpr_yes s w hs hl)
  have KV := fun w => Lib.hid (specVar_yes c i w hv)
  have KY := fun w => Lib.hid (specExpr_yes y w hy hyl)
  have KR := fun w => Lib.hid (specSub c s y w hl hyl)
  clear hs hv hy
  generalize bs (sub1 c y.data.toList s.data.toList) = r at *
  by_cases hr : r.size ≤ 200
  all_goals
    first | have CUT := Lib.hid (cut_short hr) | have CUT := Lib.hid (cut_long hr)
    go_enter Tryd.func5, Tryd.ntmps5
    go_wp2_with fail
    refine (HC _).out.mono ?_
    rintro e w1 ⟨rfl, n, rfl⟩
    go_wp2_with fail
    refine (KY _).out.mono ?_
    rintro e w1 ⟨rfl, n2, rfl⟩
    go_wp2_with fail
    refine (KV _).out.mono ?_
    rintro e w' ⟨rfl, rfl⟩
    go_wp2_with fail
    refine (KR _).out.mono ?_
    rintro e w' ⟨rfl, rfl⟩
    go_wp2_with fail
    go_ret2
    exact ⟨by rw [CUT.out]; rfl, below_of_drewN (Below.refl _ _) _⟩

set_option maxHeartbeats 2000000 in
theorem specSubExpr_text (s v y : ByteArray) (w : World) (hs : ¬ (Valid false false s.data.toList ∧ s.size ≤ 200)) :
    Calls Tryd.prog 5 #[.string s, .string v, .string y] w fun e w' => e = .returned (.tuple #[.string (bs []), .bool false]) ∧ Below w.heap.size w w' := by
  have HC := fun w => Lib.hid (specExpr_no s w hs)
  clear hs
  go_enter Tryd.func5, Tryd.ntmps5
  go_wp2_with fail
  refine (HC _).out.mono ?_
  rintro e w1 ⟨rfl, n, rfl⟩
  go_wp2_with fail
  go_ret2
  exact ⟨rfl, below_of_drewN (Below.refl _ _) n⟩

set_option maxHeartbeats 2000000 in
theorem specSubExpr_by (s v y : ByteArray) (w : World) (hs : Valid false false s.data.toList) (hl : s.size ≤ 200) (hy : ¬ (Valid false false y.data.toList ∧ y.size ≤ 200)) :
    Calls Tryd.prog 5 #[.string s, .string v, .string y] w fun e w' => e = .returned (.tuple #[.string (bs []), .bool false]) ∧ Below w.heap.size w w' := by
  have HC := fun w => Lib.hid (specExpr_yes s w hs hl)
  have KY := fun w => Lib.hid (specExpr_no y w hy)
  clear hs hy
  go_enter Tryd.func5, Tryd.ntmps5
  go_wp2_with fail
  refine (HC _).out.mono ?_
  rintro e w1 ⟨rfl, n, rfl⟩
  go_wp2_with fail
  refine (KY _).out.mono ?_
  rintro e w1 ⟨rfl, n2, rfl⟩
  go_wp2_with fail
  go_ret2
  exact ⟨rfl, below_of_drewN (Below.refl _ _) _⟩

set_option maxHeartbeats 2000000 in
theorem specSubExpr_var (s v y : ByteArray) (w : World) (hs : Valid false false s.data.toList) (hl : s.size ≤ 200) (hy : Valid false false y.data.toList) (hyl : y.size ≤ 200) (hm : v.size ≤ maxLen) (hv : ¬ IsVar v) :
    Calls Tryd.prog 5 #[.string s, .string v, .string y] w fun e w' => e = .returned (.tuple #[.string (bs []), .bool false]) ∧ Below w.heap.size w w' := by
  have HC := fun w => Lib.hid (specExpr_yes s w hs hl)
  have KY := fun w => Lib.hid (specExpr_yes y w hy hyl)
  have KV := fun w => Lib.hid (specVar_no v w hm hv)
  clear hs hy hv
  go_enter Tryd.func5, Tryd.ntmps5
  go_wp2_with fail
  refine (HC _).out.mono ?_
  rintro e w1 ⟨rfl, n, rfl⟩
  go_wp2_with fail
  refine (KY _).out.mono ?_
  rintro e w1 ⟨rfl, n2, rfl⟩
  go_wp2_with fail
  refine (KV _).out.mono ?_
  rintro e w' ⟨rfl, rfl⟩
  go_wp2_with fail
  go_ret2
  exact ⟨rfl, below_of_drewN (Below.refl _ _) _⟩

set_option maxHeartbeats 2000000 in
theorem implSubExpr (r : Value) (s v y : ByteArray) (w : World) (m : Int) (hm : w.cell? ⟨0, 0, none⟩ = some (.int .i64 m)) (hr : ∃ p q, r = .tuple #[.string p, .bool q])
    (c : ∀ w, w.cell? ⟨0, 0, none⟩ = some (.int .i64 m) → Calls Tryd.prog 12 #[.string s, .int .u8 (kcode false), .string v, .string y] w fun e w' => e = .returned r ∧ Below w.heap.size w w') :
    Calls Tryd.prog 6 #[.string s, .string v, .string y] w fun e w' => e = .returned r ∧ Below w.heap.size w w' := by
  obtain ⟨p, q, rfl⟩ := hr
  have HC := Lib.hid c
  have HM := Lib.hid hm
  clear c hm
  go_enter Tryd.func6, Tryd.ntmps6
  go_wp2_with fail
  refine (HC.out _ HM.out).mono ?_
  rintro e w1 ⟨rfl, hb⟩
  have HB := Lib.hid hb
  clear hb
  go_wp2_with fail
  go_ret2
  exact ⟨rfl, HB.out⟩

set_option maxHeartbeats 4000000 in
theorem specSubTest_yes {i : Nat} (s y : ByteArray) (c : UInt8) (w : World) (hs : Valid false true s.data.toList) (hl : s.size ≤ 200) (hv : (c = 120 ∧ i = 0) ∨ (c = 121 ∧ i = 1) ∨ (c = 122 ∧ i = 2)) (hy : Valid false false y.data.toList) (hyl : y.size ≤ 200) :
    Calls Tryd.prog 7 #[.string s, .string ⟨#[c]⟩, .string y] w fun e w' => e = .returned (cut200 (bs (sub1 c y.data.toList s.data.toList))) ∧ Below w.heap.size w w' := by
  have HC := fun w => Lib.hid (specTest_yes s w hs hl)
  have KV := fun w => Lib.hid (specVar_yes c i w hv)
  have KY := fun w => Lib.hid (specExpr_yes y w hy hyl)
  have KR := fun w => Lib.hid (specSub c s y w hl hyl)
  clear hs hv hy
  generalize bs (sub1 c y.data.toList s.data.toList) = r at *
  by_cases hr : r.size ≤ 200
  all_goals
    first | have CUT := Lib.hid (cut_short hr) | have CUT := Lib.hid (cut_long hr)
    go_enter Tryd.func7, Tryd.ntmps7
    go_wp2_with fail
    refine (HC _).out.mono ?_
    rintro e w1 ⟨rfl, n, rfl⟩
    go_wp2_with fail
    refine (KY _).out.mono ?_
    rintro e w1 ⟨rfl, n2, rfl⟩
    go_wp2_with fail
    refine (KV _).out.mono ?_
    rintro e w' ⟨rfl, rfl⟩
    go_wp2_with fail
    refine (KR _).out.mono ?_
    rintro e w' ⟨rfl, rfl⟩
    go_wp2_with fail
    go_ret2
    exact ⟨by rw [CUT.out]; rfl, below_of_drewN (Below.refl _ _) _⟩

set_option maxHeartbeats 2000000 in
theorem specSubTest_text (s v y : ByteArray) (w : World) (hs : ¬ (Valid false true s.data.toList ∧ s.size ≤ 200)) :
    Calls Tryd.prog 7 #[.string s, .string v, .string y] w fun e w' => e = .returned (.tuple #[.string (bs []), .bool false]) ∧ Below w.heap.size w w' := by
  have HC := fun w => Lib.hid (specTest_no s w hs)
  clear hs
  go_enter Tryd.func7, Tryd.ntmps7
  go_wp2_with fail
  refine (HC _).out.mono ?_
  rintro e w1 ⟨rfl, n, rfl⟩
  go_wp2_with fail
  go_ret2
  exact ⟨rfl, below_of_drewN (Below.refl _ _) n⟩

set_option maxHeartbeats 2000000 in
theorem specSubTest_by (s v y : ByteArray) (w : World) (hs : Valid false true s.data.toList) (hl : s.size ≤ 200) (hy : ¬ (Valid false false y.data.toList ∧ y.size ≤ 200)) :
    Calls Tryd.prog 7 #[.string s, .string v, .string y] w fun e w' => e = .returned (.tuple #[.string (bs []), .bool false]) ∧ Below w.heap.size w w' := by
  have HC := fun w => Lib.hid (specTest_yes s w hs hl)
  have KY := fun w => Lib.hid (specExpr_no y w hy)
  clear hs hy
  go_enter Tryd.func7, Tryd.ntmps7
  go_wp2_with fail
  refine (HC _).out.mono ?_
  rintro e w1 ⟨rfl, n, rfl⟩
  go_wp2_with fail
  refine (KY _).out.mono ?_
  rintro e w1 ⟨rfl, n2, rfl⟩
  go_wp2_with fail
  go_ret2
  exact ⟨rfl, below_of_drewN (Below.refl _ _) _⟩

set_option maxHeartbeats 2000000 in
theorem specSubTest_var (s v y : ByteArray) (w : World) (hs : Valid false true s.data.toList) (hl : s.size ≤ 200) (hy : Valid false false y.data.toList) (hyl : y.size ≤ 200) (hm : v.size ≤ maxLen) (hv : ¬ IsVar v) :
    Calls Tryd.prog 7 #[.string s, .string v, .string y] w fun e w' => e = .returned (.tuple #[.string (bs []), .bool false]) ∧ Below w.heap.size w w' := by
  have HC := fun w => Lib.hid (specTest_yes s w hs hl)
  have KY := fun w => Lib.hid (specExpr_yes y w hy hyl)
  have KV := fun w => Lib.hid (specVar_no v w hm hv)
  clear hs hy hv
  go_enter Tryd.func7, Tryd.ntmps7
  go_wp2_with fail
  refine (HC _).out.mono ?_
  rintro e w1 ⟨rfl, n, rfl⟩
  go_wp2_with fail
  refine (KY _).out.mono ?_
  rintro e w1 ⟨rfl, n2, rfl⟩
  go_wp2_with fail
  refine (KV _).out.mono ?_
  rintro e w' ⟨rfl, rfl⟩
  go_wp2_with fail
  go_ret2
  exact ⟨rfl, below_of_drewN (Below.refl _ _) _⟩

set_option maxHeartbeats 2000000 in
theorem implSubTest (r : Value) (s v y : ByteArray) (w : World) (m : Int) (hm : w.cell? ⟨0, 0, none⟩ = some (.int .i64 m)) (hr : ∃ p q, r = .tuple #[.string p, .bool q])
    (c : ∀ w, w.cell? ⟨0, 0, none⟩ = some (.int .i64 m) → Calls Tryd.prog 12 #[.string s, .int .u8 (kcode true), .string v, .string y] w fun e w' => e = .returned r ∧ Below w.heap.size w w') :
    Calls Tryd.prog 8 #[.string s, .string v, .string y] w fun e w' => e = .returned r ∧ Below w.heap.size w w' := by
  obtain ⟨p, q, rfl⟩ := hr
  have HC := Lib.hid c
  have HM := Lib.hid hm
  clear c hm
  go_enter Tryd.func8, Tryd.ntmps8
  go_wp2_with fail
  refine (HC.out _ HM.out).mono ?_
  rintro e w1 ⟨rfl, hb⟩
  have HB := Lib.hid hb
  clear hb
  go_wp2_with fail
  go_ret2
  exact ⟨rfl, HB.out⟩
end Go.Proofs.YtdlahmfnnfjhiaaDoor
