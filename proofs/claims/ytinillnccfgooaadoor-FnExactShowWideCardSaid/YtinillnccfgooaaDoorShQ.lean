/-
  spec.l3Show: a program in the usual form. ShowProgram of the model.
-/
import Derived.Test.YtinillnccfgooaaDoorShP
import Derived.Test.YtinillnccfgooaaDoorSpQ
namespace Go.Proofs.YtinillnccfgooaaDoor
open Go.RowKit Tm

theorem text_eq {s : ByteArray} {p : Pg} (h : s.data.toList = p.ser) : s = bs p.ser := by
  apply ByteArray.ext
  apply Array.ext'
  exact h.trans (bs_list _).symm
/-- What the first two calls of l3Show give. -/
theorem ls_pre (wide : Bool) (p : Pg) (hp : p.ok wide) (hn : p.ser.length ≤ 1000) : ∃ h0 : 0 < (bs p.ser).size, (bs p.ser)[0] = p.letter ∧ (bs p.ser).extract 1 (1 + p.hd.length) = bs p.hd ∧ (1 : Int) ≤ 1 + (p.hd.length : Int) ∧ 1 + (p.hd.length : Int) ≤ ((bs p.ser).size : Int) ∧
    (∀ w, Calls Tryd.prog 78 #[.string (bs p.ser), .bool wide] w (Quiet (.int .i64 (1 + p.hd.length : Nat)) w)) ∧ (∀ w, Calls Tryd.prog 77 #[.string (bs p.ser), .bool wide] w (RowPost 9 (strs (p.pks.map Pg.ser)) w)) := by
  have hs : (bs p.ser).data.toList = p.letter :: (p.hd ++ p.pks.flatMap Pg.ser) := by rw [bs_list, p.ser_eq]
  obtain ⟨h0, hb⟩ := byte0 hs
  have hsz : (bs p.ser).size = 1 + p.hd.length + (p.pks.flatMap Pg.ser).length := by rw [bs_size, p.ser_eq, List.length_cons, List.length_append]; omega
  exact ⟨h0, hb, extract_bs (r := p.pks.flatMap Pg.ser) (by rw [hs]; rfl) rfl (by omega), by omega, by omega, fun w => lh_any wide p hp _ (bs_list _) (by rw [bs_size]; omega) w, fun w => parts_any wide p hp _ (bs_list _) (by rw [bs_size]; omega) w⟩

set_option maxRecDepth 100000 in
set_option maxHeartbeats 8000000 in
theorem ls_skip (wide : Bool)  (hp : (Pg.skip).ok wide) (hn : (Pg.skip).ser.length ≤ 1000) (w : World) (R : ByteArray) (hR : ⟨#[115, 107, 105, 112]⟩ = R) :
    Calls Tryd.prog 51 #[.string (bs (Pg.skip).ser), .bool wide] w (TxtPost R w) := by
  have HR := Lib.hid hR
  clear hR 
  obtain ⟨h0, hb0, hx, hl1, hl2, hh, hpp⟩ := ls_pre wide (Pg.skip) hp hn
  have hc : ((bs (Pg.skip).ser)[0].toNat : Int) = 115 := by rw [hb0]; rfl
  have HH := fun w => Lib.hid (hh w)
  have HP := fun w => Lib.hid (hpp w)
  have HX := Lib.hid hx
  have h0i : (0 : Int) < ((bs (Pg.skip).ser).size : Int) := by omega
  clear hh hpp hx hb0
  generalize bs (Pg.skip).ser = S at *
  generalize (Pg.skip).hd.length = hn1 at *
  go_enter Tryd.func51, Tryd.ntmps51
  go_wp2_with fail
  refine (HH _).out.mono ?_
  rintro e w1 ⟨rfl, n0, rfl⟩
  go_wp2_with fail
  refine (HP _).out.mono ?_
  rintro e w2 ⟨sl, rfl, hrow, hb⟩
  have hB2 := bnext (bdrewN (Below.refl w.heap.size w) n0) hb
  obtain ⟨g, cap, rfl⟩ := Row.zero (show Row w2 _ _ sl [] from hrow)
  clear hb hrow
  go_wp2_with fail
  go_ret
  exact ⟨by rw [← HR.out]; rfl, hB2⟩

set_option maxRecDepth 100000 in
set_option maxHeartbeats 8000000 in
theorem ls_asg (wide : Bool) (v : UInt8) (e : Tm) (hp : (Pg.asg v e).ok wide) (hn : (Pg.asg v e).ser.length ≤ 1000) (w : World) (r0 : ByteArray) (zr0 : r0.size ≤ 100000) (R : ByteArray) (hR : bs [v] ++ ⟨#[58, 61]⟩ ++ r0 = R)
    (c0 : ∀ w, Calls Tryd.prog 85 #[.string (bs (Pg.asg v e).hd), .int .i64 1] w fun e w' => (∃ k : Int, e = .returned (.tuple #[.string r0, .int .i64 k])) ∧ w' = w) :
    Calls Tryd.prog 51 #[.string (bs (Pg.asg v e).ser), .bool wide] w (TxtPost R w) := by
  have C0 := Lib.hid c0
  have HR := Lib.hid hR
  clear hR c0
  obtain ⟨h0, hb0, hx, hl1, hl2, hh, hpp⟩ := ls_pre wide (Pg.asg v e) hp hn
  have hc : ((bs (Pg.asg v e).ser)[0].toNat : Int) = 97 := by rw [hb0]; rfl
  have HH := fun w => Lib.hid (hh w)
  have HP := fun w => Lib.hid (hpp w)
  have HX := Lib.hid hx
  have h0i : (0 : Int) < ((bs (Pg.asg v e).ser).size : Int) := by omega
  have hxv : Hid ((bs (Pg.asg v e).hd).extract 0 1 = bs [v]) := extract_bs (s := bs (Pg.asg v e).hd) (a := 0) (n := 1) (x := [v]) (r := e.ser) (by rw [bs_list]; rfl) rfl (Nat.zero_le _)
  have hsv : (1 : Int) ≤ ((bs (Pg.asg v e).hd).size : Int) := by rw [bs_size]; simp [Pg.hd]; omega
  have zV : (bs [v]).size ≤ 100000 := by rw [bs_size]; simp
  clear hh hpp hx hb0
  generalize bs (Pg.asg v e).ser = S at *
  generalize (Pg.asg v e).hd.length = hn1 at *
  go_enter Tryd.func51, Tryd.ntmps51
  go_wp2_with fail
  refine (HH _).out.mono ?_
  rintro e w1 ⟨rfl, n0, rfl⟩
  go_wp2_with fail
  refine (HP _).out.mono ?_
  rintro e w2 ⟨sl, rfl, hrow, hb⟩
  have hB2 := bnext (bdrewN (Below.refl w.heap.size w) n0) hb
  obtain ⟨g, cap, rfl⟩ := Row.zero (show Row w2 _ _ sl [] from hrow)
  clear hb hrow
  have hHD := HX.out
  clear HX
  generalize bs (Pg.asg v e).hd = HD at *
  generalize bs [v] = V at *
  have f1 : ¬ (9223372036854775807 < V.size + 2) := by omega
  have f2 : ¬ (9223372036854775807 < V.size + 2 + r0.size) := by omega
  go_wp2_with fail
  have hxv' := hxv.out
  refine (C0.out _).mono ?_
  rintro e w3 ⟨⟨k, rfl⟩, rfl⟩
  go_wp2_with fail
  go_ret
  exact ⟨by rw [← HR.out]; rfl, hB2⟩

set_option maxRecDepth 100000 in
set_option maxHeartbeats 8000000 in
theorem ls_seq (wide : Bool) (a b : Pg) (hp : (Pg.seq a b).ok wide) (hn : (Pg.seq a b).ser.length ≤ 1000) (w : World) (r1 r2 : ByteArray) (zr1 : r1.size ≤ 100000) (zr2 : r2.size ≤ 100000) (R : ByteArray) (hR : r1 ++ ⟨#[59, 32]⟩ ++ r2 = R)
    (c1 : ∀ w, Calls Tryd.prog 51 #[.string (bs a.ser), .bool wide] w (TxtPost r1 w))
    (c2 : ∀ w, Calls Tryd.prog 51 #[.string (bs b.ser), .bool wide] w (TxtPost r2 w)) :
    Calls Tryd.prog 51 #[.string (bs (Pg.seq a b).ser), .bool wide] w (TxtPost R w) := by
  have C1 := Lib.hid c1
  have C2 := Lib.hid c2
  have HR := Lib.hid hR
  clear hR c1 c2
  obtain ⟨h0, hb0, hx, hl1, hl2, hh, hpp⟩ := ls_pre wide (Pg.seq a b) hp hn
  have hc : ((bs (Pg.seq a b).ser)[0].toNat : Int) = 59 := by rw [hb0]; rfl
  have HH := fun w => Lib.hid (hh w)
  have HP := fun w => Lib.hid (hpp w)
  have HX := Lib.hid hx
  have h0i : (0 : Int) < ((bs (Pg.seq a b).ser).size : Int) := by omega
  clear hh hpp hx hb0
  generalize bs (Pg.seq a b).ser = S at *
  generalize (Pg.seq a b).hd.length = hn1 at *
  go_enter Tryd.func51, Tryd.ntmps51
  go_wp2_with fail
  refine (HH _).out.mono ?_
  rintro e w1 ⟨rfl, n0, rfl⟩
  go_wp2_with fail
  refine (HP _).out.mono ?_
  rintro e w2 ⟨sl, rfl, hrow, hb⟩
  have hB2 := bnext (bdrewN (Below.refl w.heap.size w) n0) hb
  obtain ⟨g, cap, rfl, hg, k1, k2⟩ := Row.two' (show Row w2 _ _ sl [_, _] from hrow)
  clear hb hrow hg
  have f1 : ¬ (9223372036854775807 < r1.size + 2) := by omega
  have f2 : ¬ (9223372036854775807 < r1.size + 2 + r2.size) := by omega
  go_wp2_with fail
  have hB' := hB2.drew
  go_region_held3 (fun w' => Below w.heap.size w w' ∧ w'.cell? ⟨g, 0, none⟩ = some (.string (bs a.ser)) ∧ w'.cell? ⟨g, 1, none⟩ = some (.string (bs b.ser)))
    ((go_split_ands; refine ⟨?_, ?_, ?_⟩ <;> first | assumption | exact ckeep hq (by assumption) | exact Below.trans (by assumption) (hq.mono (by have := Below.size (by assumption : Below w.heap.size w _); omega))))
    (first | (go_at_call 51; (with_reducible refine (C1.out _).mono ?_); rintro e w2 ⟨rfl, hq⟩) | (go_at_call 51; (with_reducible refine (C2.out _).mono ?_); rintro e w2 ⟨rfl, hq⟩))
  all_goals
    go_wp2_with fail
    go_split_ands
    go_ret
    exact ⟨by rw [← HR.out]; rfl, by assumption⟩

set_option maxRecDepth 100000 in
set_option maxHeartbeats 8000000 in
theorem ls_cho (wide : Bool) (a b : Pg) (hp : (Pg.cho a b).ok wide) (hn : (Pg.cho a b).ser.length ≤ 1000) (w : World) (r1 r2 : ByteArray) (zr1 : r1.size ≤ 100000) (zr2 : r2.size ≤ 100000) (R : ByteArray) (hR : ⟨#[101, 105, 116, 104, 101, 114, 32, 123]⟩ ++ r1 ++ ⟨#[125, 32, 111, 114, 32, 123]⟩ ++ r2 ++ ⟨#[125]⟩ = R)
    (c1 : ∀ w, Calls Tryd.prog 51 #[.string (bs a.ser), .bool wide] w (TxtPost r1 w))
    (c2 : ∀ w, Calls Tryd.prog 51 #[.string (bs b.ser), .bool wide] w (TxtPost r2 w)) :
    Calls Tryd.prog 51 #[.string (bs (Pg.cho a b).ser), .bool wide] w (TxtPost R w) := by
  have C1 := Lib.hid c1
  have C2 := Lib.hid c2
  have HR := Lib.hid hR
  clear hR c1 c2
  obtain ⟨h0, hb0, hx, hl1, hl2, hh, hpp⟩ := ls_pre wide (Pg.cho a b) hp hn
  have hc : ((bs (Pg.cho a b).ser)[0].toNat : Int) = 47 := by rw [hb0]; rfl
  have HH := fun w => Lib.hid (hh w)
  have HP := fun w => Lib.hid (hpp w)
  have HX := Lib.hid hx
  have h0i : (0 : Int) < ((bs (Pg.cho a b).ser).size : Int) := by omega
  clear hh hpp hx hb0
  generalize bs (Pg.cho a b).ser = S at *
  generalize (Pg.cho a b).hd.length = hn1 at *
  go_enter Tryd.func51, Tryd.ntmps51
  go_wp2_with fail
  refine (HH _).out.mono ?_
  rintro e w1 ⟨rfl, n0, rfl⟩
  go_wp2_with fail
  refine (HP _).out.mono ?_
  rintro e w2 ⟨sl, rfl, hrow, hb⟩
  have hB2 := bnext (bdrewN (Below.refl w.heap.size w) n0) hb
  obtain ⟨g, cap, rfl, hg, k1, k2⟩ := Row.two' (show Row w2 _ _ sl [_, _] from hrow)
  clear hb hrow hg
  have f1 : ¬ (9223372036854775807 < 8 + r1.size) := by omega
  have f2 : ¬ (9223372036854775807 < 8 + r1.size + 6) := by omega
  have f3 : ¬ (9223372036854775807 < 8 + r1.size + 6 + r2.size) := by omega
  have f4 : ¬ (9223372036854775807 < 8 + r1.size + 6 + r2.size + 1) := by omega
  go_wp2_with fail
  have hB' := hB2.drew
  go_region_held3 (fun w' => Below w.heap.size w w' ∧ w'.cell? ⟨g, 0, none⟩ = some (.string (bs a.ser)) ∧ w'.cell? ⟨g, 1, none⟩ = some (.string (bs b.ser)))
    ((go_split_ands; refine ⟨?_, ?_, ?_⟩ <;> first | assumption | exact ckeep hq (by assumption) | exact Below.trans (by assumption) (hq.mono (by have := Below.size (by assumption : Below w.heap.size w _); omega))))
    (first | (go_at_call 51; (with_reducible refine (C1.out _).mono ?_); rintro e w2 ⟨rfl, hq⟩) | (go_at_call 51; (with_reducible refine (C2.out _).mono ?_); rintro e w2 ⟨rfl, hq⟩))
  all_goals
    go_wp2_with fail
    go_split_ands
    go_ret
    exact ⟨by rw [← HR.out]; rfl, by assumption⟩

set_option maxRecDepth 100000 in
set_option maxHeartbeats 8000000 in
theorem ls_ite (wide : Bool) (t : Tm) (a b : Pg) (hp : (Pg.ite t a b).ok wide) (hn : (Pg.ite t a b).ser.length ≤ 1000) (w : World) (r0 r1 r2 : ByteArray) (zr0 : r0.size ≤ 100000) (zr1 : r1.size ≤ 100000) (zr2 : r2.size ≤ 100000) (R : ByteArray) (hR : ⟨#[105, 102, 32]⟩ ++ r0 ++ ⟨#[32, 123]⟩ ++ r1 ++ ⟨#[125, 32, 101, 108, 115, 101, 32, 123]⟩ ++ r2 ++ ⟨#[125]⟩ = R)
    (c0 : ∀ w, Calls Tryd.prog 86 #[.string (bs (Pg.ite t a b).hd), .int .i64 0] w fun e w' => (∃ k : Int, e = .returned (.tuple #[.string r0, .int .i64 k])) ∧ w' = w)
    (c1 : ∀ w, Calls Tryd.prog 51 #[.string (bs a.ser), .bool wide] w (TxtPost r1 w))
    (c2 : ∀ w, Calls Tryd.prog 51 #[.string (bs b.ser), .bool wide] w (TxtPost r2 w)) :
    Calls Tryd.prog 51 #[.string (bs (Pg.ite t a b).ser), .bool wide] w (TxtPost R w) := by
  have C0 := Lib.hid c0
  have C1 := Lib.hid c1
  have C2 := Lib.hid c2
  have HR := Lib.hid hR
  clear hR c0 c1 c2
  obtain ⟨h0, hb0, hx, hl1, hl2, hh, hpp⟩ := ls_pre wide (Pg.ite t a b) hp hn
  have hc : ((bs (Pg.ite t a b).ser)[0].toNat : Int) = 63 := by rw [hb0]; rfl
  have HH := fun w => Lib.hid (hh w)
  have HP := fun w => Lib.hid (hpp w)
  have HX := Lib.hid hx
  have h0i : (0 : Int) < ((bs (Pg.ite t a b).ser).size : Int) := by omega
  clear hh hpp hx hb0
  generalize bs (Pg.ite t a b).ser = S at *
  generalize (Pg.ite t a b).hd.length = hn1 at *
  go_enter Tryd.func51, Tryd.ntmps51
  go_wp2_with fail
  refine (HH _).out.mono ?_
  rintro e w1 ⟨rfl, n0, rfl⟩
  go_wp2_with fail
  refine (HP _).out.mono ?_
  rintro e w2 ⟨sl, rfl, hrow, hb⟩
  have hB2 := bnext (bdrewN (Below.refl w.heap.size w) n0) hb
  obtain ⟨g, cap, rfl, hg, k1, k2⟩ := Row.two' (show Row w2 _ _ sl [_, _] from hrow)
  clear hb hrow hg
  have hHD := HX.out
  clear HX
  generalize bs (Pg.ite t a b).hd = HD at *
  have f1 : ¬ (9223372036854775807 < 3 + r0.size) := by omega
  have f2 : ¬ (9223372036854775807 < 3 + r0.size + 2) := by omega
  have f3 : ¬ (9223372036854775807 < 3 + r0.size + 2 + r1.size) := by omega
  have f4 : ¬ (9223372036854775807 < 3 + r0.size + 2 + r1.size + 8) := by omega
  have f5 : ¬ (9223372036854775807 < 3 + r0.size + 2 + r1.size + 8 + r2.size) := by omega
  have f6 : ¬ (9223372036854775807 < 3 + r0.size + 2 + r1.size + 8 + r2.size + 1) := by omega
  go_wp2_with fail
  refine (C0.out _).mono ?_
  rintro e w3 ⟨⟨k, rfl⟩, rfl⟩
  go_wp2_with fail
  have hB' := hB2.drew
  go_region_held3 (fun w' => Below w.heap.size w w' ∧ w'.cell? ⟨g, 0, none⟩ = some (.string (bs a.ser)) ∧ w'.cell? ⟨g, 1, none⟩ = some (.string (bs b.ser)))
    ((go_split_ands; refine ⟨?_, ?_, ?_⟩ <;> first | assumption | exact ckeep hq (by assumption) | exact Below.trans (by assumption) (hq.mono (by have := Below.size (by assumption : Below w.heap.size w _); omega))))
    (first | (go_at_call 51; (with_reducible refine (C1.out _).mono ?_); rintro e w2 ⟨rfl, hq⟩) | (go_at_call 51; (with_reducible refine (C2.out _).mono ?_); rintro e w2 ⟨rfl, hq⟩))
  all_goals
    go_wp2_with fail
    go_split_ands
    go_ret
    exact ⟨by rw [← HR.out]; rfl, by assumption⟩

set_option maxRecDepth 100000 in
set_option maxHeartbeats 8000000 in
theorem ls_whl (wide : Bool) (t : Tm) (a : Pg) (hp : (Pg.whl t a).ok wide) (hn : (Pg.whl t a).ser.length ≤ 1000) (w : World) (r0 r1 : ByteArray) (zr0 : r0.size ≤ 100000) (zr1 : r1.size ≤ 100000) (R : ByteArray) (hR : ⟨#[119, 104, 105, 108, 101, 32]⟩ ++ r0 ++ ⟨#[32, 123]⟩ ++ r1 ++ ⟨#[125]⟩ = R)
    (c0 : ∀ w, Calls Tryd.prog 86 #[.string (bs (Pg.whl t a).hd), .int .i64 0] w fun e w' => (∃ k : Int, e = .returned (.tuple #[.string r0, .int .i64 k])) ∧ w' = w)
    (c1 : ∀ w, Calls Tryd.prog 51 #[.string (bs a.ser), .bool wide] w (TxtPost r1 w)) :
    Calls Tryd.prog 51 #[.string (bs (Pg.whl t a).ser), .bool wide] w (TxtPost R w) := by
  have C0 := Lib.hid c0
  have C1 := Lib.hid c1
  have HR := Lib.hid hR
  clear hR c0 c1
  obtain ⟨h0, hb0, hx, hl1, hl2, hh, hpp⟩ := ls_pre wide (Pg.whl t a) hp hn
  have hc : ((bs (Pg.whl t a).ser)[0].toNat : Int) = 64 := by rw [hb0]; rfl
  have HH := fun w => Lib.hid (hh w)
  have HP := fun w => Lib.hid (hpp w)
  have HX := Lib.hid hx
  have h0i : (0 : Int) < ((bs (Pg.whl t a).ser).size : Int) := by omega
  clear hh hpp hx hb0
  generalize bs (Pg.whl t a).ser = S at *
  generalize (Pg.whl t a).hd.length = hn1 at *
  go_enter Tryd.func51, Tryd.ntmps51
  go_wp2_with fail
  refine (HH _).out.mono ?_
  rintro e w1 ⟨rfl, n0, rfl⟩
  go_wp2_with fail
  refine (HP _).out.mono ?_
  rintro e w2 ⟨sl, rfl, hrow, hb⟩
  have hB2 := bnext (bdrewN (Below.refl w.heap.size w) n0) hb
  obtain ⟨g, cap, rfl, hg, k1⟩ := Row.one' (show Row w2 _ _ sl [_] from hrow)
  clear hb hrow hg
  have hHD := HX.out
  clear HX
  generalize bs (Pg.whl t a).hd = HD at *
  have f1 : ¬ (9223372036854775807 < 6 + r0.size) := by omega
  have f2 : ¬ (9223372036854775807 < 6 + r0.size + 2) := by omega
  have f3 : ¬ (9223372036854775807 < 6 + r0.size + 2 + r1.size) := by omega
  have f4 : ¬ (9223372036854775807 < 6 + r0.size + 2 + r1.size + 1) := by omega
  go_wp2_with fail
  refine (C0.out _).mono ?_
  rintro e w3 ⟨⟨k, rfl⟩, rfl⟩
  go_wp2_with fail
  refine (C1.out _).mono ?_
  rintro e w4 ⟨rfl, hb⟩
  have HB := Lib.hid (bnext hB2 hb)
  clear hb k1
  go_wp2_with fail
  go_ret
  exact ⟨by rw [← HR.out]; rfl, HB.out⟩

set_option maxRecDepth 100000 in
set_option maxHeartbeats 8000000 in
theorem ls_asm (wide : Bool) (t : Tm) (hp : (Pg.asm t).ok wide) (hn : (Pg.asm t).ser.length ≤ 1000) (w : World) (r0 : ByteArray) (zr0 : r0.size ≤ 100000) (R : ByteArray) (hR : ⟨#[97, 115, 115, 117, 109, 101, 32]⟩ ++ r0 = R)
    (c0 : ∀ w, Calls Tryd.prog 86 #[.string (bs (Pg.asm t).hd), .int .i64 0] w fun e w' => (∃ k : Int, e = .returned (.tuple #[.string r0, .int .i64 k])) ∧ w' = w) :
    Calls Tryd.prog 51 #[.string (bs (Pg.asm t).ser), .bool wide] w (TxtPost R w) := by
  have C0 := Lib.hid c0
  have HR := Lib.hid hR
  clear hR c0
  obtain ⟨h0, hb0, hx, hl1, hl2, hh, hpp⟩ := ls_pre wide (Pg.asm t) hp hn
  have hc : ((bs (Pg.asm t).ser)[0].toNat : Int) = 126 := by rw [hb0]; rfl
  have HH := fun w => Lib.hid (hh w)
  have HP := fun w => Lib.hid (hpp w)
  have HX := Lib.hid hx
  have h0i : (0 : Int) < ((bs (Pg.asm t).ser).size : Int) := by omega
  clear hh hpp hx hb0
  generalize bs (Pg.asm t).ser = S at *
  generalize (Pg.asm t).hd.length = hn1 at *
  go_enter Tryd.func51, Tryd.ntmps51
  go_wp2_with fail
  refine (HH _).out.mono ?_
  rintro e w1 ⟨rfl, n0, rfl⟩
  go_wp2_with fail
  refine (HP _).out.mono ?_
  rintro e w2 ⟨sl, rfl, hrow, hb⟩
  have hB2 := bnext (bdrewN (Below.refl w.heap.size w) n0) hb
  obtain ⟨g, cap, rfl⟩ := Row.zero (show Row w2 _ _ sl [] from hrow)
  clear hb hrow
  have hHD := HX.out
  clear HX
  generalize bs (Pg.asm t).hd = HD at *
  have f1 : ¬ (9223372036854775807 < 7 + r0.size) := by omega
  go_wp2_with fail
  refine (C0.out _).mono ?_
  rintro e w3 ⟨⟨k, rfl⟩, rfl⟩
  go_wp2_with fail
  go_ret
  exact ⟨by rw [← HR.out]; rfl, hB2⟩

theorem ls_any (wide : Bool) : ∀ (p : Pg), p.ok wide → p.ser.length ≤ 1000 → ∀ w, Calls Tryd.prog 51 #[.string (bs p.ser), .bool wide] w (TxtPost (bs (shP p)) w) := by
  have zz : ∀ {p : Pg}, p.ok wide → p.ser.length ≤ 1000 → (bs (shP p)).size ≤ 100000 := fun h hn => by rw [bs_size]; have := shP_len h; omega
  have zt : ∀ {t : Tm} {k : Bool}, Ok wide k t → t.ser.length ≤ 1000 → (bs (shw t)).size ≤ 100000 := fun h hn => by rw [bs_size]; have := shw_len' h; omega
  have st : ∀ {t : Tm} (hd : List UInt8), Ok wide true t → t.ser.length ≤ 1000 → hd = t.ser → ∀ w, Calls Tryd.prog 86 #[.string (bs hd), .int .i64 0] w fun e w' => (∃ k : Int, e = .returned (.tuple #[.string (bs (shw t)), .int .i64 k])) ∧ w' = w := fun hd h hn e w => by
    subst e
    exact (spx_any (bs _) (by rw [bs_size]; exact hn) _ 0 [] w h (by rw [bs_list]; simp)).mono fun _ _ ⟨h1, h2⟩ => ⟨⟨_, h1⟩, h2⟩
  intro p
  induction p with
  | skip => intro hp hn w; exact ls_skip wide hp hn w _ rfl
  | asg v e =>
    intro hp hn w
    have hn2 := hn
    simp [Pg.ser] at hn2
    exact ls_asg wide v e hp hn w (bs (shw e)) (zt hp.2 (by omega)) _ (by simp only [shP, ← bs_append]; rfl) fun w =>
      (spw_any (bs (Pg.asg v e).hd) (by rw [bs_size]; simp [Pg.hd]; omega) e 1 [] w hp.2 (by rw [bs_list]; simp [Pg.hd])).mono fun _ _ ⟨h1, h2⟩ => ⟨⟨_, h1⟩, h2⟩
  | seq a b ia ib =>
    intro hp hn w
    have hn2 := hn
    simp [Pg.ser] at hn2
    exact ls_seq wide a b hp hn w _ _ (zz hp.1 (by omega)) (zz hp.2 (by omega)) _ (by simp only [shP, ← bs_append]; rfl) (ia hp.1 (by omega)) (ib hp.2 (by omega))
  | cho a b ia ib =>
    intro hp hn w
    have hn2 := hn
    simp [Pg.ser] at hn2
    exact ls_cho wide a b hp hn w _ _ (zz hp.1 (by omega)) (zz hp.2 (by omega)) _ (by simp only [shP, ← bs_append]; rfl) (ia hp.1 (by omega)) (ib hp.2 (by omega))
  | ite t a b ia ib =>
    intro hp hn w
    have hn2 := hn
    simp [Pg.ser] at hn2
    exact ls_ite wide t a b hp hn w _ _ _ (zt hp.1 (by omega)) (zz hp.2.1 (by omega)) (zz hp.2.2 (by omega)) _ (by simp only [shP, ← bs_append]; rfl) (st _ hp.1 (by omega) rfl) (ia hp.2.1 (by omega)) (ib hp.2.2 (by omega))
  | whl t a ia =>
    intro hp hn w
    have hn2 := hn
    simp [Pg.ser] at hn2
    exact ls_whl wide t a hp hn w _ _ (zt hp.1 (by omega)) (zz hp.2 (by omega)) _ (by simp only [shP, ← bs_append]; rfl) (st _ hp.1 (by omega) rfl) (ia hp.2 (by omega))
  | asm t =>
    intro hp hn w
    have hn2 := hn
    simp [Pg.ser] at hn2
    exact ls_asm wide t hp hn w _ (zt (k := true) hp (by omega)) _ (by simp only [shP, ← bs_append]; rfl) (st _ hp (by omega) rfl)

end Go.Proofs.YtinillnccfgooaaDoor
