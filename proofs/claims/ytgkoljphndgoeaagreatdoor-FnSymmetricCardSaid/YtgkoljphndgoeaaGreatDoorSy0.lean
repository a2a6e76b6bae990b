/-
  SymmetricIn: both sides.
-/
import Derived.Test.YtgkoljphndgoeaaGreatDoorTopD3
import Derived.Test.YtgkoljphndgoeaaGreatDoorRfn
import Derived.Test.YtgkoljphndgoeaaGreatDoorTopS1
import Derived.Test.YtgkoljphndgoeaaGreatDoorTopX1
namespace Go.Proofs.YtgkoljphndgoeaaGreatDoor
open Go.RowKit Tm Go.Great Go.ChangeMaps

theorem same_pure (p q : Pg) : allEq (rT p) (rL p) (rK p) (rT q) (rL q) (rK q) = allO eqO (oc p) (oc q) := by
  rw [Bool.eq_iff_iff, allO_iff]
  unfold allEq eqO oc
  simp only [Bool.and_eq_true, List.all_eq_true, List.mem_range, beq_iff_eq]
  constructor
  · rintro ⟨h1, h2, h3⟩ j hj
    exact ⟨⟨h1 j hj, nb_inj h2 j hj⟩, nb_inj h3 j hj⟩
  · intro h
    exact ⟨fun j hj => (h j hj).1.1, nb_congr fun j hj => (h j hj).1.2, nb_congr fun j hj => (h j hj).2⟩
/-- Whether two texts are programs that do the same. -/
theorem same_texts (s t : ByteArray) : ∃ r : Bool, (∀ w, Calls Tryz.prog 103 #[.string s, .string t] w fun e w' => e = .returned (.bool r) ∧ Below w.heap.size w w') ∧ ∀ w, Calls Tryz.prog 30 #[.string t, .string s] w fun e w' => e = .returned (.bool r) ∧ Below w.heap.size w w' := by
  by_cases h : PV s ∧ PV t
  · obtain ⟨⟨⟨p, hp, hs⟩, hl⟩, ⟨q, hq, ht⟩, hm⟩ := h
    obtain rfl := bs_ofP hs
    obtain rfl := bs_ofP ht
    have lp : p.ser.length ≤ 200 := by rwa [bs_size] at hl
    have lq : q.ser.length ≤ 200 := by rwa [bs_size] at hm
    exact ⟨_, fun w => specSame_yes p q w hp lp hq lq, fun w => by rw [same_pure, allO_symm]; exact implSame_yes _ _ w hq ht hm hp hs hl⟩
  · exact ⟨false, fun w => specSame_no s t w h, fun w => implSame_no t s w fun k => h ⟨k.2, k.1⟩⟩
theorem var_pos {v : ByteArray} (h : IsVar v) : 0 < v.size := by rcases h with rfl | rfl | rfl <;> decide

set_option maxRecDepth 100000 in
set_option maxHeartbeats 4000000 in
theorem sym_yes (p v u t : ByteArray) (r : Bool)
    (c1 : ∀ w, Calls Tryz.prog 102 #[.string p, .string v, .string u] w fun e w' => e = .returned (.tuple #[.string t, .bool true]) ∧ Below w.heap.size w w')
    (c2 : ∀ w, Calls Tryz.prog 34 #[.string p, .string v, .string u] w fun e w' => e = .returned (.tuple #[.string t, .bool true]) ∧ Below w.heap.size w w')
    (d1 : ∀ w, Calls Tryz.prog 103 #[.string p, .string t] w fun e w' => e = .returned (.bool r) ∧ Below w.heap.size w w')
    (d2 : ∀ w, Calls Tryz.prog 30 #[.string t, .string p] w fun e w' => e = .returned (.bool r) ∧ Below w.heap.size w w') :
    (∀ w, Calls Tryz.prog 33 #[.string p, .string v, .string u] w fun e w' => e = .returned (.bool r) ∧ Below w.heap.size w w') ∧ ∀ w, Calls Tryz.prog 32 #[.string p, .string v, .string u] w fun e w' => e = .returned (.bool r) ∧ Below w.heap.size w w' := by
  have C1 := Lib.hid c1
  have C2 := Lib.hid c2
  have D1 := Lib.hid d1
  have D2 := Lib.hid d2
  clear c1 c2 d1 d2
  constructor
  · intro w
    go_enter Tryz.func33, Tryz.ntmps33
    go_wp2_with fail
    refine (C1.out _).mono ?_
    rintro e w2 ⟨rfl, hb⟩
    have HB2 := Lib.hid hb
    clear hb
    go_wp2_with fail
    refine (D1.out _).mono ?_
    rintro e w3 ⟨rfl, hb⟩
    have HB3 := Lib.hid (bnext HB2.out hb)
    clear hb
    go_wp2_with fail
    go_ret
    exact ⟨rfl, HB3.out⟩
  · intro w
    go_enter Tryz.func32, Tryz.ntmps32
    go_wp2_with fail
    refine (C2.out _).mono ?_
    rintro e w2 ⟨rfl, hb⟩
    have HB2 := Lib.hid hb
    clear hb
    go_wp2_with fail
    refine (D2.out _).mono ?_
    rintro e w3 ⟨rfl, hb⟩
    have HB3 := Lib.hid (bnext HB2.out hb)
    clear hb
    go_wp2_with fail
    go_ret
    exact ⟨rfl, HB3.out⟩
set_option maxRecDepth 100000 in
set_option maxHeartbeats 4000000 in
theorem sym_no (p v u : ByteArray)
    (c1 : ∀ w, Calls Tryz.prog 102 #[.string p, .string v, .string u] w fun e w' => e = .returned (.tuple #[.string ⟨#[]⟩, .bool false]) ∧ Below w.heap.size w w')
    (c2 : ∀ w, Calls Tryz.prog 34 #[.string p, .string v, .string u] w fun e w' => e = .returned (.tuple #[.string ⟨#[]⟩, .bool false]) ∧ Below w.heap.size w w') :
    (∀ w, Calls Tryz.prog 33 #[.string p, .string v, .string u] w fun e w' => e = .returned (.bool false) ∧ Below w.heap.size w w') ∧ ∀ w, Calls Tryz.prog 32 #[.string p, .string v, .string u] w fun e w' => e = .returned (.bool false) ∧ Below w.heap.size w w' := by
  have C1 := Lib.hid c1
  have C2 := Lib.hid c2
  clear c1 c2
  constructor
  · intro w
    go_enter Tryz.func33, Tryz.ntmps33
    go_wp2_with fail
    refine (C1.out _).mono ?_
    rintro e w2 ⟨rfl, hb⟩
    have HB2 := Lib.hid hb
    clear hb
    go_wp2_with fail
    go_ret
    exact ⟨rfl, HB2.out⟩
  · intro w
    go_enter Tryz.func32, Tryz.ntmps32
    go_wp2_with fail
    refine (C2.out _).mono ?_
    rintro e w2 ⟨rfl, hb⟩
    have HB2 := Lib.hid hb
    clear hb
    go_wp2_with fail
    go_ret
    exact ⟨rfl, HB2.out⟩
theorem sym_any (p v u : ByteArray) (hm2 : v.size ≤ maxLen) (hm3 : u.size ≤ maxLen) : ∃ r : Bool, (∀ w, Calls Tryz.prog 33 #[.string p, .string v, .string u] w fun e w' => e = .returned (.bool r) ∧ Below w.heap.size w w') ∧ ∀ w, Calls Tryz.prog 32 #[.string p, .string v, .string u] w fun e w' => e = .returned (.bool r) ∧ Below w.heap.size w w' := by
  by_cases h : IsP p ∧ IsVar v ∧ IsVar u
  · obtain ⟨r, d1, d2⟩ := same_texts p (bs (p.data.toList.map (exch (v[0]'(var_pos h.2.1)) (u[0]'(var_pos h.2.2)))))
    exact ⟨r, sym_yes p v u _ r (fun w => specSwap_yes p v u (var_pos h.2.1) (var_pos h.2.2) w h.1 h.2.1 h.2.2) (fun w => implSwap_yes p v u (var_pos h.2.1) (var_pos h.2.2) w h.1 h.2.1 h.2.2) d1 d2⟩
  · exact ⟨false, sym_no p v u (fun w => specSwap_no p v u w hm2 hm3 h) (fun w => implSwap_no p v u w hm2 hm3 h)⟩
end Go.Proofs.YtgkoljphndgoeaaGreatDoor
