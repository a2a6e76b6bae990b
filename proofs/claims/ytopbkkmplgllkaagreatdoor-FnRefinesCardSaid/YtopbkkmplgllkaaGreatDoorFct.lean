/-
  Programs that do the same do so within others: what the law of contexts asks.
-/
import Derived.Test.YtopbkkmplgllkaaGreatDoorRfn
import Derived.Test.YtopbkkmplgllkaaGreatDoorTopD
namespace Go.Proofs.YtopbkkmplgllkaaGreatDoor
open Go.RowKit Tm Go.Great Go.ChangeMaps

theorem IsRow.kept {w w' : World} {a : Option Addr} {len cap : Nat} {zs : List Int} (h : IsRow w a len cap zs) (hb : Below w.heap.size w w') : IsRow w' a len cap zs := by
  rcases h with h | ⟨x, rfl, hl, hm, hz, hc, hw⟩
  · exact .inl h
  · exact .inr ⟨x, rfl, hl, hm, hz, fun i hi => by
      have h1 := hc i hi
      have hlt := World.block_lt_of_cell? w _ h1
      exact (hb.cell hlt).trans h1, hw⟩
theorem same_true {u v : ByteArray} {a b : Pg} (ha : a.ok false) (hu : u.data.toList = a.ser) (lu : u.size ≤ 200) (hb : b.ok false) (hv : v.data.toList = b.ser) (lv : v.size ≤ 200) (h : Rf a b ∧ Rf b a) (w : World) :
    Calls Tryz.prog 8 #[.string u, .string v] w fun e w' => e = .returned (.bool true) ∧ Below w.heap.size w w' := by
  have := implSame_yes u v w ha hu lu hb hv lv
  rwa [(sm_iff ha hb).2 h] at this
def tLt : Tm := .bin 60 (.leaf 120) (.leaf 121)
def tEq : Tm := .bin 61 (.leaf 120) (.leaf 49)
theorem tLt_ok : Ok false true tLt := by unfold tLt; simp [Ok]; decide
theorem tEq_ok : Ok false true tEq := by unfold tEq; simp [Ok]; decide
theorem same_any2 (s t : ByteArray) : ∃ r : Bool, (∀ w, Calls Tryz.prog 8 #[.string s, .string t] w fun e w' => e = .returned (.bool r) ∧ Below w.heap.size w w') ∧ (∀ w, Calls Tryz.prog 10 #[.string s, .string t] w fun e w' => e = .returned (.bool r) ∧ Below w.heap.size w w') ∧
    (r = true → ∃ p q : Pg, (p.ok false ∧ s.data.toList = p.ser) ∧ (q.ok false ∧ t.data.toList = q.ser) ∧ Rf p q ∧ Rf q p) := by
  by_cases h : PV s ∧ PV t
  · obtain ⟨⟨⟨p, hp, hs⟩, hl⟩, ⟨q, hq, ht⟩, hm⟩ := h
    have hs' := bs_ofP hs
    have ht' := bs_ofP ht
    have lp : p.ser.length ≤ 200 := by rw [hs', bs_size] at hl; exact hl
    have lq : q.ser.length ≤ 200 := by rw [ht', bs_size] at hm; exact hm
    refine ⟨allO eqO (oc p) (oc q), fun w => implSame_yes s t w hp hs hl hq ht hm, fun w => ?_, fun hr => ⟨p, q, ⟨hp, hs⟩, ⟨hq, ht⟩, (sm_iff hp hq).1 hr⟩⟩
    have e : allO eqO (oc p) (oc q) = allEq (rT p) (rL p) (rK p) (rT q) (rL q) (rK q) := by
      rw [Bool.eq_iff_iff, allO_iff]
      unfold allEq eqO oc
      simp only [Bool.and_eq_true, List.all_eq_true, List.mem_range, beq_iff_eq]
      exact ⟨fun h => ⟨fun j hj => (h j hj).1.1, nb_congr fun j hj => (h j hj).1.2, nb_congr fun j hj => (h j hj).2⟩, fun ⟨h1, h2, h3⟩ j hj => ⟨⟨h1 j hj, nb_inj h2 j hj⟩, nb_inj h3 j hj⟩⟩
    rw [e, hs', ht']
    exact specSame_yes p q w hp lp hq lq
  · exact ⟨false, fun w => implSame_no s t w h, fun w => specSame_no s t w h, fun hr => by cases hr⟩

theorem ctx_facts (s t c : ByteArray) {p q r : Pg} (hp : p.ok false) (hs : s.data.toList = p.ser) (hq : q.ok false) (ht : t.data.toList = q.ser) (hr : r.ok false) (hc : c.data.toList = r.ser) (h180 : s.size + t.size + c.size ≤ 180) (h : Rf p q ∧ Rf q p) :
    (∀ w, Calls Tryz.prog 8 #[.string ((⟨#[59]⟩ : ByteArray) ++ s ++ c), .string ((⟨#[59]⟩ : ByteArray) ++ t ++ c)] w fun e w' => e = .returned (.bool true) ∧ Below w.heap.size w w') ∧
    (∀ w, Calls Tryz.prog 8 #[.string ((⟨#[59]⟩ : ByteArray) ++ c ++ s), .string ((⟨#[59]⟩ : ByteArray) ++ c ++ t)] w fun e w' => e = .returned (.bool true) ∧ Below w.heap.size w w') ∧
    (∀ w, Calls Tryz.prog 8 #[.string ((⟨#[63, 60, 120, 121]⟩ : ByteArray) ++ s ++ c), .string ((⟨#[63, 60, 120, 121]⟩ : ByteArray) ++ t ++ c)] w fun e w' => e = .returned (.bool true) ∧ Below w.heap.size w w') ∧
    (∀ w, Calls Tryz.prog 8 #[.string ((⟨#[47]⟩ : ByteArray) ++ s ++ c), .string ((⟨#[47]⟩ : ByteArray) ++ t ++ c)] w fun e w' => e = .returned (.bool true) ∧ Below w.heap.size w w') ∧
    (∀ w, Calls Tryz.prog 8 #[.string ((⟨#[64, 61, 120, 49]⟩ : ByteArray) ++ s), .string ((⟨#[64, 61, 120, 49]⟩ : ByteArray) ++ t)] w fun e w' => e = .returned (.bool true) ∧ Below w.heap.size w w') := by
  have sz1 : ∀ x y : ByteArray, ((⟨#[59]⟩ : ByteArray) ++ x ++ y).size = 1 + x.size + y.size := fun x y => by rw [ByteArray.size_append, ByteArray.size_append]; rfl
  have sz2 : ∀ x y : ByteArray, ((⟨#[47]⟩ : ByteArray) ++ x ++ y).size = 1 + x.size + y.size := fun x y => by rw [ByteArray.size_append, ByteArray.size_append]; rfl
  have sz3 : ∀ x y : ByteArray, ((⟨#[63, 60, 120, 121]⟩ : ByteArray) ++ x ++ y).size = 4 + x.size + y.size := fun x y => by rw [ByteArray.size_append, ByteArray.size_append]; rfl
  have sz4 : ∀ x : ByteArray, ((⟨#[64, 61, 120, 49]⟩ : ByteArray) ++ x).size = 4 + x.size := fun x => by rw [ByteArray.size_append]; rfl
  refine ⟨fun w => same_true (a := .seq p r) (b := .seq q r) ⟨hp, hr⟩ ?_ (by rw [sz1]; omega) ⟨hq, hr⟩ ?_ (by rw [sz1]; omega) ⟨h.1.seq hp (Rf.refl r), h.2.seq hq (Rf.refl r)⟩ w,
    fun w => same_true (a := .seq r p) (b := .seq r q) ⟨hr, hp⟩ ?_ (by rw [sz1]; omega) ⟨hr, hq⟩ ?_ (by rw [sz1]; omega) ⟨(Rf.refl r).seq hr h.1, (Rf.refl r).seq hr h.2⟩ w,
    fun w => same_true (a := .ite tLt p r) (b := .ite tLt q r) ⟨tLt_ok, hp, hr⟩ ?_ (by rw [sz3]; omega) ⟨tLt_ok, hq, hr⟩ ?_ (by rw [sz3]; omega) ⟨h.1.ite (Rf.refl r), h.2.ite (Rf.refl r)⟩ w,
    fun w => same_true (a := .cho p r) (b := .cho q r) ⟨hp, hr⟩ ?_ (by rw [sz2]; omega) ⟨hq, hr⟩ ?_ (by rw [sz2]; omega) ⟨h.1.cho (Rf.refl r), h.2.cho (Rf.refl r)⟩ w,
    fun w => same_true (a := .whl tEq p) (b := .whl tEq q) ⟨tEq_ok, hp⟩ ?_ (by rw [sz4]; omega) ⟨tEq_ok, hq⟩ ?_ (by rw [sz4]; omega) ⟨h.1.whl hp, h.2.whl hq⟩ w⟩
  all_goals simp [ByteArray.data_append, hs, ht, hc, Pg.ser, tLt, tEq, Tm.ser]

set_option maxHeartbeats 4000000 in
theorem drawMayEnd {a : Option Addr} {len cap : Nat} {zs : List Int} {w : World} (h : IsRow w a len cap zs) :
    Calls Tryz.prog 9 #[.slice a len cap] w fun e w' => ∃ t : ByteArray, t.size ≤ 153 ∧ e = .returned (.string t) ∧ Below w.heap.size w w' := by
  have HO := Lib.hid (open_any h)
  clear h
  go_enter Tryz.func9, Tryz.ntmps9
  go_wp2_with fail
  refine HO.out.mono ?_
  rintro e w1 ⟨rfl, hr, hb⟩
  have HW1 := Lib.hid hb
  have HC := Lib.hid (open3 hr (by omega))
  clear hr hb
  go_wp2_with fail
  refine HC.out.mono ?_
  rintro e w2 ⟨t, q, t1, t2, hq, rfl, hr, hk⟩
  have HW2 := Lib.hid (HW1.out.trans (hk.below (Nat.le_refl _) HW1.out.size))
  clear hr hk
  go_wp2_with fail
  go_ret
  exact ⟨t, t2, rfl, HW2.out⟩
theorem szx {x y z : Nat} (h1 : x ≤ 100000) (h2 : y ≤ 100000) (h3 : z ≤ 1000) : (¬ 9223372036854775807 < 1 + x) ∧ (¬ 9223372036854775807 < 1 + y) ∧ (¬ 9223372036854775807 < 1 + z) ∧ (¬ 9223372036854775807 < 4 + x) ∧ (¬ 9223372036854775807 < 4 + y) ∧ (¬ 9223372036854775807 < 1 + x + z) ∧ (¬ 9223372036854775807 < 1 + y + z) ∧ (¬ 9223372036854775807 < 1 + z + x) ∧ (¬ 9223372036854775807 < 1 + z + y) ∧ (¬ 9223372036854775807 < 4 + x + z) ∧ (¬ 9223372036854775807 < 4 + y + z) := by omega
end Go.Proofs.YtopbkkmplgllkaaGreatDoor
