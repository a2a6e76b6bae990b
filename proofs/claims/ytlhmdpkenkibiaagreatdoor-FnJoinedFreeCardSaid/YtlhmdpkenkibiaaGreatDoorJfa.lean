/-
  PairFree at texts of relations; programs joined.
-/
import Derived.Test.YtlhmdpkenkibiaaGreatDoorPpc
namespace Go.Proofs.YtlhmdpkenkibiaaGreatDoor
open Go.RowKit Go.Great Tm

theorem frR_congr8 {p q : Pg} {A B : Nat → Nat → Bool} (h : ∀ i, i < 27 → ∀ j, j < 27 → A i j = B i j) (i j : Nat) : frR p q A i j = frR p q B i j := by
  rw [Bool.eq_iff_iff, frR_iff, frR_iff]
  exact ⟨fun k a ha c hc hr => (h a ha c hc) ▸ k a ha c hc hr, fun k a ha c hc hr => (h a ha c hc).symm ▸ k a ha c hc hr⟩
theorem rel_max9 (F : Nat → Nat → Bool) : (bs (relT F)).size ≤ maxLen := by rw [(rel729_bs F).size]; decide
theorem pf_at (p q : Pg) (F : Nat → Nat → Bool) (hp : p.ok false) (lp : p.ser.length ≤ 200) (hq : q.ok false) (lq : q.ser.length ≤ 200) : Gives 29 #[.string (bs p.ser), .string (bs q.ser), .string (bs (relT F))] (.tuple #[.string (bs (relT (frR p q F))), .bool true]) := fun w => by
  have h := implPf_yes (bs p.ser) (bs q.ser) (bs (relT F)) w hp (by simp [bs]) (by rw [bs_size]; exact lp) hq (by simp [bs]) (by rw [bs_size]; exact lq) (rel729_bs F)
  have e : relT (frR p q (relS (bs (relT F)).data.toList)) = relT (frR p q F) := relT_congr fun a _ c _ => frR_congr8 (fun i hi j hj => relS_bs F hi hj) a c
  unfold pfOut at h
  rw [e] at h
  exact Lib.hid h
theorem pfs_at (p q : Pg) (F : Nat → Nat → Bool) (hp : p.ok false) (lp : p.ser.length ≤ 200) (hq : q.ok false) (lq : q.ser.length ≤ 200) : Gives 30 #[.string (bs p.ser), .string (bs q.ser), .string (bs (relT F))] (.tuple #[.string (bs (relT (frR p q F))), .bool true]) := fun w => by
  obtain ⟨b, hb, hc⟩ := ready_any (bs p.ser) (bs q.ser) (bs (relT F)) (rel_max9 F)
  obtain rfl := hb.2 ⟨⟨⟨p, hp, by simp [bs]⟩, by rw [bs_size]; exact lp⟩, ⟨⟨q, hq, by simp [bs]⟩, by rw [bs_size]; exact lq⟩, rel729_bs F⟩
  have h := specPf_yes p q (bs (relT F)) w hp lp hq lq (rel729_bs F) hc
  have e : relT (frR p q (relS (bs (relT F)).data.toList)) = relT (frR p q F) := relT_congr fun a _ c _ => frR_congr8 (fun i hi j hj => relS_bs F hi hj) a c
  unfold pfOut at h
  rw [e] at h
  exact Lib.hid h
theorem fr_seq (p q p2 q2 : Pg) (hp : p.ok false) (hq : q.ok false) (F : Nat → Nat → Bool) {i j : Nat} (hi : i < 27) (hj : j < 27) : frR (.seq p p2) (.seq q q2) F i j = frR p q (frR p2 q2 F) i j := by
  rw [Bool.eq_iff_iff, frR_iff, frR_iff]
  constructor
  · intro h a ha c hc hr
    rw [Bool.and_eq_true] at hr
    refine frR_iff.2 fun a2 ha2 c2 hc2 hr2 => h a2 ha2 c2 hc2 ?_
    rw [Bool.and_eq_true] at hr2 ⊢
    exact ⟨rT_iff.2 ⟨a, rT_iff.1 hr.1, rT_iff.1 hr2.1⟩, rT_iff.2 ⟨c, rT_iff.1 hr.2, rT_iff.1 hr2.2⟩⟩
  · intro h a2 ha2 c2 hc2 hr
    rw [Bool.and_eq_true] at hr
    obtain ⟨a, h1, h2⟩ := rT_iff.1 hr.1
    obtain ⟨c, h3, h4⟩ := rT_iff.1 hr.2
    have la : a < 27 := fin_lt hp hi h1
    have lc : c < 27 := fin_lt hq hj h3
    exact frR_iff.1 (h a la c lc (by rw [rT_iff.2 h1, rT_iff.2 h3]; rfl)) a2 ha2 c2 hc2 (by rw [rT_iff.2 h2, rT_iff.2 h4]; rfl)
theorem fr_left (p q : Pg) (F : Nat → Nat → Bool) {i j : Nat} (hj : j < 27) : frR p .skip (frR .skip q F) i j = frR p q F i j := by
  rw [Bool.eq_iff_iff, frR_iff, frR_iff]
  constructor
  · intro h a ha c hc hr
    rw [Bool.and_eq_true] at hr
    exact frR_iff.1 (h a ha j hj (by rw [rT_skipB, hr.1]; simp)) a ha c hc (by rw [rT_skipB, hr.2]; simp)
  · intro h a ha b hb hr
    rw [rT_skipB, Bool.and_eq_true, beq_iff_eq] at hr
    obtain ⟨h1, rfl⟩ := hr
    refine frR_iff.2 fun x hx c hc hr2 => ?_
    rw [rT_skipB, Bool.and_eq_true, beq_iff_eq] at hr2
    obtain ⟨rfl, h2⟩ := hr2
    exact h a ha c hc (by rw [h1, h2]; rfl)
set_option maxHeartbeats 1000000 in
theorem ppPairFree_of {x s t y : ByteArray} {b : Bool} (C : Gives 29 #[.string x, .string s, .string t] (.tuple #[.string y, .bool b])) : Gives 54 #[.string x, .string s, .string t] (.string y) := fun w => Lib.hid (by
  unfold Gives at C
  go_enter Tryz.func54, Tryz.ntmps54
  go_wp2_with fail
  refine (C _).out.mono ?_
  rintro e w1 ⟨rfl, hb⟩
  have HB := Lib.hid hb
  clear hb
  go_wp2_with fail
  go_ret
  exact ⟨rfl, HB.out⟩)
theorem szj9 {x y : Nat} (h : x ≤ 200) (k : y ≤ 200) : (¬ 9223372036854775807 < 1 + x) ∧ (¬ 9223372036854775807 < 1 + x + y) := by omega
set_option maxHeartbeats 4000000 in
/-- Two programs joined. -/
theorem jp_two (s t : ByteArray) {p q : Pg} (hp : p.ok false) (hs : s.data.toList = p.ser) (hl : s.size ≤ 200) (hq : q.ok false) (ht : t.data.toList = q.ser) (hn : t.size ≤ 200) : ∃ (y : ByteArray) (b : Bool), (b = true → y = bs (Pg.seq p q).ser ∧ (Pg.seq p q).ser.length ≤ 200) ∧ ∀ w, Calls Tryz.prog 53 #[.string s, .string t] w fun e w' => e = .returned (.tuple #[.string y, .bool b]) ∧ Below w.heap.size w w' := by
  have V := fun w => Lib.hid (implPV_yes s w hp hs hl)
  have U := fun w => Lib.hid (implPV_yes t w hq ht hn)
  obtain ⟨k1, k2⟩ := szj9 hl hn
  have ey : ((⟨#[59]⟩ : ByteArray) ++ s ++ t) = bs (Pg.seq p q).ser := by
    apply ByteArray.ext
    apply Array.ext'
    simp [ByteArray.data_append, hs, ht, Pg.ser, bs]
  have esz : ((⟨#[59]⟩ : ByteArray) ++ s ++ t).size = 1 + s.size + t.size := by rw [ByteArray.size_append, ByteArray.size_append]; rfl
  have ES := Lib.hid esz
  clear hs hp ht hq
  by_cases h200 : 1 + s.size + t.size ≤ 200
  · refine ⟨_, true, fun _ => ⟨ey, by rw [← bs_size, ← ey, esz]; exact h200⟩, fun w => ?_⟩
    have h201 : ¬ (200 : Int) < 1 + (s.size : Int) + (t.size : Int) := by omega
    clear esz ey
    go_enter Tryz.func53, Tryz.ntmps53
    go_wp2_with fail
    refine (V _).out.mono ?_
    rintro e w1 ⟨rfl, hb⟩
    have HB := Lib.hid hb
    clear hb
    go_wp2_with fail
    refine (U _).out.mono ?_
    rintro e w2 ⟨rfl, hb⟩
    replace HB := Lib.hid (bnext HB.out hb)
    clear hb
    go_wp2_with fail
    go_ret2
    exact ⟨rfl, HB.out⟩
  · refine ⟨⟨#[]⟩, false, fun h => (by cases h), fun w => ?_⟩
    have h201 : (200 : Int) < 1 + (s.size : Int) + (t.size : Int) := by omega
    clear esz ey
    go_enter Tryz.func53, Tryz.ntmps53
    go_wp2_with fail
    refine (V _).out.mono ?_
    rintro e w1 ⟨rfl, hb⟩
    have HB := Lib.hid hb
    clear hb
    go_wp2_with fail
    refine (U _).out.mono ?_
    rintro e w2 ⟨rfl, hb⟩
    replace HB := Lib.hid (bnext HB.out hb)
    clear hb
    go_wp2_with fail
    go_ret2
    exact ⟨rfl, HB.out⟩
end Go.Proofs.YtlhmdpkenkibiaaGreatDoor
