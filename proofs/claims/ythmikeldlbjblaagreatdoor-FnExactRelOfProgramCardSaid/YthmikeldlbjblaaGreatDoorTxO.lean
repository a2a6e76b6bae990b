/-
  impl.letterOf, impl.textOf and PartsOf of the program.
-/
import Derived.Test.YthmikeldlbjblaaGreatDoorTopP
import Derived.Test.YthmikeldlbjblaaGreatDoorMark
namespace Go.Proofs.YthmikeldlbjblaaGreatDoor
open Go.RowKit

set_option maxHeartbeats 1000000 in
theorem let_skip (v : Value) (w : World) : Calls Tryz.prog 150 #[.iface 85 v] w fun e w' => e = .returned (.string ⟨#[115]⟩) ∧ w = w' := by
  have a0 := tas_asg_skip
  have a1 := tas_seq_skip
  have a2 := tas_ite_skip
  have a3 := tas_whl_skip
  have a4 := tas_cho_skip
  have a5 := tas_asm_skip
  go_enter Tryz.func150, Tryz.ntmps150
  go_wp2_with fail
  go_ret
  exact ⟨rfl, rfl⟩
set_option maxHeartbeats 1000000 in
theorem let_asg (v : Value) (w : World) : Calls Tryz.prog 150 #[.iface 184 v] w fun e w' => e = .returned (.string ⟨#[97]⟩) ∧ w = w' := by
  have a0 := tas_asg_asg
  go_enter Tryz.func150, Tryz.ntmps150
  go_wp2_with fail
  go_ret
  exact ⟨rfl, rfl⟩
set_option maxHeartbeats 1000000 in
theorem let_seq (v : Value) (w : World) : Calls Tryz.prog 150 #[.iface 189 v] w fun e w' => e = .returned (.string ⟨#[59]⟩) ∧ w = w' := by
  have a0 := tas_asg_seq
  have a1 := tas_seq_seq
  go_enter Tryz.func150, Tryz.ntmps150
  go_wp2_with fail
  go_ret
  exact ⟨rfl, rfl⟩
set_option maxHeartbeats 1000000 in
theorem let_ite (v : Value) (w : World) : Calls Tryz.prog 150 #[.iface 193 v] w fun e w' => e = .returned (.string ⟨#[63]⟩) ∧ w = w' := by
  have a0 := tas_asg_ite
  have a1 := tas_seq_ite
  have a2 := tas_ite_ite
  go_enter Tryz.func150, Tryz.ntmps150
  go_wp2_with fail
  go_ret
  exact ⟨rfl, rfl⟩
set_option maxHeartbeats 1000000 in
theorem let_whl (v : Value) (w : World) : Calls Tryz.prog 150 #[.iface 195 v] w fun e w' => e = .returned (.string ⟨#[64]⟩) ∧ w = w' := by
  have a0 := tas_asg_whl
  have a1 := tas_seq_whl
  have a2 := tas_ite_whl
  have a3 := tas_whl_whl
  go_enter Tryz.func150, Tryz.ntmps150
  go_wp2_with fail
  go_ret
  exact ⟨rfl, rfl⟩
set_option maxHeartbeats 1000000 in
theorem let_cho (v : Value) (w : World) : Calls Tryz.prog 150 #[.iface 196 v] w fun e w' => e = .returned (.string ⟨#[47]⟩) ∧ w = w' := by
  have a0 := tas_asg_cho
  have a1 := tas_seq_cho
  have a2 := tas_ite_cho
  have a3 := tas_whl_cho
  have a4 := tas_cho_cho
  go_enter Tryz.func150, Tryz.ntmps150
  go_wp2_with fail
  go_ret
  exact ⟨rfl, rfl⟩
set_option maxHeartbeats 1000000 in
theorem let_asm (v : Value) (w : World) : Calls Tryz.prog 150 #[.iface 198 v] w fun e w' => e = .returned (.string ⟨#[126]⟩) ∧ w = w' := by
  have a0 := tas_asg_asm
  have a1 := tas_seq_asm
  have a2 := tas_ite_asm
  have a3 := tas_whl_asm
  have a4 := tas_cho_asm
  have a5 := tas_asm_asm
  go_enter Tryz.func150, Tryz.ntmps150
  go_wp2_with fail
  go_ret
  exact ⟨rfl, rfl⟩
theorem let_any {w0 : World} {B : Nat} {p : Pg} {T : TypeId} {u : Array Value} (h : StV w0 B p (.iface T (.agg u))) (w : World) : Calls Tryz.prog 150 #[.iface T (.agg u)] w fun e w' => e = .returned (.string (bs [p.letter])) ∧ w = w' := by
  cases p with
  | skip => cases h; exact let_skip _ w
  | asg x y => obtain ⟨_, _, h, _⟩ := h; cases h; exact let_asg _ w
  | seq a b => obtain ⟨_, _, h, _⟩ := h; cases h; exact let_seq _ w
  | ite t a b => obtain ⟨_, _, _, _, h, _⟩ := h; cases h; exact let_ite _ w
  | whl t a => obtain ⟨_, _, _, h, _⟩ := h; cases h; exact let_whl _ w
  | cho a b => obtain ⟨_, _, h, _⟩ := h; cases h; exact let_cho _ w
  | asm t => obtain ⟨_, _, h, _⟩ := h; cases h; exact let_asm _ w

set_option maxRecDepth 100000 in
set_option maxHeartbeats 4000000 in
theorem tx_none (T : TypeId) (u : Array Value) (f f2 : Nat) (rc rc2 : Value) (w : World) (L H R : ByteArray) (zL : L.size ≤ 1000) (zH : H.size ≤ 1000) (hR : L ++ H = R)
    (hm : ∀ w, (method 414 T (.agg u) "loop.example/productprograms/impl.parts").run Tryz.prog w = .ok (f, rc) w) (hcf : ∀ (a : Array Value) w, (callFunc f a).run Tryz.prog w = .ok (.enter f a) w)
    (hm2 : ∀ w, (method 414 T (.agg u) "loop.example/productprograms/impl.head").run Tryz.prog w = .ok (f2, rc2) w) (hcf2 : ∀ (a : Array Value) w, (callFunc f2 a).run Tryz.prog w = .ok (.enter f2 a) w)
    (hl : ∀ w, Calls Tryz.prog 150 #[.iface T (.agg u)] w fun e w' => e = .returned (.string L) ∧ w = w')
    (hh : ∀ w', Below w.heap.size w w' → Calls Tryz.prog f2 #[rc2] w' (TxtPost H w'))
    (hp : ∀ w, Calls Tryz.prog f #[rc] w (PartsPost [] w)) :
    Calls Tryz.prog 129 #[.iface T (.agg u)] w (TxtPost R w) := by
  have HP := Lib.hid hp
  have HL := Lib.hid hl
  have HH := Lib.hid hh
  have HR := Lib.hid hR
  clear hp hl hh hR
  have f0 : ¬ (9223372036854775807 < L.size + H.size) := by omega
  go_enter Tryz.func129, Tryz.ntmps129
  go_wp2_with fail
  refine (HL.out _).mono ?_
  rintro e w' ⟨rfl, rfl⟩
  go_wp2_with fail
  refine (HH.out _ (Below.refl _ _)).mono ?_
  rintro e w1 ⟨rfl, hb⟩
  have HB1 := Lib.hid hb
  clear hb
  go_wp2_with fail
  refine (HP.out _).mono ?_
  rintro e w2 ⟨sl, rfl, hrow, hb⟩
  have HB2 := Lib.hid (bnext HB1.out hb)
  obtain ⟨g, cap, rfl⟩ := hrow.zero
  clear hb hrow
  go_wp2_with fail
  refine wp_loop_rounds 1 ?_
  rw [rounds_succ]
  go_wp2_with fail
  go_ret
  exact ⟨by rw [← HR.out]; rfl, HB2.out⟩

set_option maxRecDepth 100000 in
set_option maxHeartbeats 4000000 in
theorem tx_one (T T1 : TypeId) (u u1 : Array Value) (f f2 : Nat) (rc rc2 : Value) (w : World) (L H r1 R : ByteArray) (zL : L.size ≤ 1000) (zH : H.size ≤ 1000) (z1 : r1.size ≤ 1000) (hR : L ++ H ++ r1 = R)
    (hm : ∀ w, (method 414 T (.agg u) "loop.example/productprograms/impl.parts").run Tryz.prog w = .ok (f, rc) w) (hcf : ∀ (a : Array Value) w, (callFunc f a).run Tryz.prog w = .ok (.enter f a) w)
    (hm2 : ∀ w, (method 414 T (.agg u) "loop.example/productprograms/impl.head").run Tryz.prog w = .ok (f2, rc2) w) (hcf2 : ∀ (a : Array Value) w, (callFunc f2 a).run Tryz.prog w = .ok (.enter f2 a) w)
    (hl : ∀ w, Calls Tryz.prog 150 #[.iface T (.agg u)] w fun e w' => e = .returned (.string L) ∧ w = w')
    (hh : ∀ w', Below w.heap.size w w' → Calls Tryz.prog f2 #[rc2] w' (TxtPost H w'))
    (hp : ∀ w, Calls Tryz.prog f #[rc] w (PartsPost [.iface T1 (.agg u1)] w))
    (c1 : ∀ w', Below w.heap.size w w' → Calls Tryz.prog 129 #[.iface T1 (.agg u1)] w' (TxtPost r1 w')) :
    Calls Tryz.prog 129 #[.iface T (.agg u)] w (TxtPost R w) := by
  have C1 := Lib.hid c1
  clear c1
  have HP := Lib.hid hp
  have HL := Lib.hid hl
  have HH := Lib.hid hh
  have HR := Lib.hid hR
  clear hp hl hh hR
  have f0 : ¬ (9223372036854775807 < L.size + H.size) := by omega
  have f1 : ¬ (9223372036854775807 < L.size + H.size + r1.size) := by omega
  go_enter Tryz.func129, Tryz.ntmps129
  go_wp2_with fail
  refine (HL.out _).mono ?_
  rintro e w' ⟨rfl, rfl⟩
  go_wp2_with fail
  refine (HH.out _ (Below.refl _ _)).mono ?_
  rintro e w1 ⟨rfl, hb⟩
  have HB1 := Lib.hid hb
  clear hb
  go_wp2_with fail
  refine (HP.out _).mono ?_
  rintro e w2 ⟨sl, rfl, hrow, hb⟩
  have HB2 := Lib.hid (bnext HB1.out hb)
  obtain ⟨g, cap, rfl, k1⟩ := hrow.one
  clear hb hrow
  go_wp2_with fail
  refine wp_loop_rounds 2 ?_
  rw [rounds_succ]
  go_wp2_with fail
  refine (C1.out _ HB2.out).mono ?_
  rintro e w3 ⟨rfl, hb⟩
  have HB3 := Lib.hid (bnext HB2.out hb)
  clear hb k1
  go_wp2_with fail
  rw [rounds_succ]
  go_wp2_with fail
  go_ret
  exact ⟨by rw [← HR.out]; rfl, HB3.out⟩

set_option maxRecDepth 100000 in
set_option maxHeartbeats 4000000 in
theorem tx_two (T T1 T2 : TypeId) (u u1 u2 : Array Value) (f f2 : Nat) (rc rc2 : Value) (w : World) (L H r1 r2 R : ByteArray) (zL : L.size ≤ 1000) (zH : H.size ≤ 1000) (z1 : r1.size ≤ 1000) (z2 : r2.size ≤ 1000) (hR : L ++ H ++ r1 ++ r2 = R)
    (hm : ∀ w, (method 414 T (.agg u) "loop.example/productprograms/impl.parts").run Tryz.prog w = .ok (f, rc) w) (hcf : ∀ (a : Array Value) w, (callFunc f a).run Tryz.prog w = .ok (.enter f a) w)
    (hm2 : ∀ w, (method 414 T (.agg u) "loop.example/productprograms/impl.head").run Tryz.prog w = .ok (f2, rc2) w) (hcf2 : ∀ (a : Array Value) w, (callFunc f2 a).run Tryz.prog w = .ok (.enter f2 a) w)
    (hl : ∀ w, Calls Tryz.prog 150 #[.iface T (.agg u)] w fun e w' => e = .returned (.string L) ∧ w = w')
    (hh : ∀ w', Below w.heap.size w w' → Calls Tryz.prog f2 #[rc2] w' (TxtPost H w'))
    (hp : ∀ w, Calls Tryz.prog f #[rc] w (PartsPost [.iface T1 (.agg u1), .iface T2 (.agg u2)] w))
    (c1 : ∀ w', Below w.heap.size w w' → Calls Tryz.prog 129 #[.iface T1 (.agg u1)] w' (TxtPost r1 w'))
    (c2 : ∀ w', Below w.heap.size w w' → Calls Tryz.prog 129 #[.iface T2 (.agg u2)] w' (TxtPost r2 w')) :
    Calls Tryz.prog 129 #[.iface T (.agg u)] w (TxtPost R w) := by
  have C1 := Lib.hid c1
  have C2 := Lib.hid c2
  clear c1 c2
  have HP := Lib.hid hp
  have HL := Lib.hid hl
  have HH := Lib.hid hh
  have HR := Lib.hid hR
  clear hp hl hh hR
  have f0 : ¬ (9223372036854775807 < L.size + H.size) := by omega
  have f1 : ¬ (9223372036854775807 < L.size + H.size + r1.size) := by omega
  have f2 : ¬ (9223372036854775807 < L.size + H.size + r1.size + r2.size) := by omega
  go_enter Tryz.func129, Tryz.ntmps129
  go_wp2_with fail
  refine (HL.out _).mono ?_
  rintro e w' ⟨rfl, rfl⟩
  go_wp2_with fail
  refine (HH.out _ (Below.refl _ _)).mono ?_
  rintro e w1 ⟨rfl, hb⟩
  have HB1 := Lib.hid hb
  clear hb
  go_wp2_with fail
  refine (HP.out _).mono ?_
  rintro e w2 ⟨sl, rfl, hrow, hb⟩
  have HB2 := Lib.hid (bnext HB1.out hb)
  obtain ⟨g, cap, rfl, k1, k2⟩ := hrow.two
  clear hb hrow
  go_wp2_with fail
  refine wp_loop_rounds 3 ?_
  rw [rounds_succ]
  go_wp2_with fail
  refine (C1.out _ HB2.out).mono ?_
  rintro e w3 ⟨rfl, hb⟩
  have k2 := ckeep hb k2
  have HB3 := Lib.hid (bnext HB2.out hb)
  clear hb k1
  go_wp2_with fail
  rw [rounds_succ]
  go_wp2_with fail
  refine (C2.out _ HB3.out).mono ?_
  rintro e w4 ⟨rfl, hb⟩
  have HB4 := Lib.hid (bnext HB3.out hb)
  clear hb k2
  go_wp2_with fail
  rw [rounds_succ]
  go_wp2_with fail
  go_ret
  exact ⟨by rw [← HR.out]; rfl, HB4.out⟩

theorem tx_any : ∀ (p : Pg), p.ok false → p.ser.length ≤ 1000 → ∀ (w0 : World) (B : Nat) (T : TypeId) (u : Array Value) (w : World), StV w0 B p (.iface T (.agg u)) → Below w0.heap.size w0 w →
    Calls Tryz.prog 129 #[.iface T (.agg u)] w (TxtPost (bs p.ser) w) := by
  have zl : ∀ c : UInt8, (bs [c]).size ≤ 1000 := fun c => by rw [bs_size]; simp
  intro p
  induction p with
  | skip  =>
    intro hok hn w0 B T u w h hb
    obtain ⟨f, rc, kv, hm, hcf, hkv, hc⟩ := inv_parts h
    obtain ⟨f2, rc2, hm2, hcf2, hc2⟩ := inv_head hok hn h
    cases hkv
    refine tx_none T u f f2 rc rc2 w (bs [(Pg.skip).letter]) (bs (Pg.skip).hd) _ (zl _) (by rw [bs_size]; have := congrArg List.length (Pg.skip).ser_eq; simp only [List.length_cons, List.length_append] at this; omega) ?_ hm hcf hm2 hcf2 (fun w => let_any h w) (fun w' hb' => hc2 w' (bnext hb hb')) hc
    rw [bs_append, (Pg.skip).ser_eq]; simp [Pg.pks]
  | asg x y =>
    intro hok hn w0 B T u w h hb
    obtain ⟨f, rc, kv, hm, hcf, hkv, hc⟩ := inv_parts h
    obtain ⟨f2, rc2, hm2, hcf2, hc2⟩ := inv_head hok hn h
    cases hkv
    refine tx_none T u f f2 rc rc2 w (bs [(Pg.asg x y).letter]) (bs (Pg.asg x y).hd) _ (zl _) (by rw [bs_size]; have := congrArg List.length (Pg.asg x y).ser_eq; simp only [List.length_cons, List.length_append] at this; omega) ?_ hm hcf hm2 hcf2 (fun w => let_any h w) (fun w' hb' => hc2 w' (bnext hb hb')) hc
    rw [bs_append, (Pg.asg x y).ser_eq]; simp [Pg.pks]
  | seq a b ia ib =>
    intro hok hn w0 B T u w h hb
    obtain ⟨f, rc, kv, hm, hcf, ⟨T1, u1, kv', rfl, s1, T2, u2, kv'', rfl, s2, hkv⟩, hc⟩ := inv_parts h
    obtain ⟨f2, rc2, hm2, hcf2, hc2⟩ := inv_head hok hn h
    cases hkv
    have hn2 := hn
    simp [Pg.ser] at hn2
    refine tx_two T T1 T2 u u1 u2 f f2 rc rc2 w (bs [(Pg.seq a b).letter]) (bs (Pg.seq a b).hd) (bs a.ser) (bs b.ser) _ (zl _) (by rw [bs_size]; simp [Pg.hd]) (by rw [bs_size]; omega) (by rw [bs_size]; omega) ?_ hm hcf hm2 hcf2 (fun w => let_any h w) (fun w' hb' => hc2 w' (bnext hb hb')) hc (fun w' hb' => ia hok.1 (by omega) w0 B _ _ w' s1 (bnext hb hb')) (fun w' hb' => ib hok.2 (by omega) w0 B _ _ w' s2 (bnext hb hb'))
    rw [bs_append, bs_append, bs_append, (Pg.seq a b).ser_eq]; simp [Pg.pks]
  | ite t a b ia ib =>
    intro hok hn w0 B T u w h hb
    obtain ⟨f, rc, kv, hm, hcf, ⟨T1, u1, kv', rfl, s1, T2, u2, kv'', rfl, s2, hkv⟩, hc⟩ := inv_parts h
    obtain ⟨f2, rc2, hm2, hcf2, hc2⟩ := inv_head hok hn h
    cases hkv
    have hn2 := hn
    simp [Pg.ser] at hn2
    refine tx_two T T1 T2 u u1 u2 f f2 rc rc2 w (bs [(Pg.ite t a b).letter]) (bs (Pg.ite t a b).hd) (bs a.ser) (bs b.ser) _ (zl _) (by rw [bs_size]; simp [Pg.hd]; omega) (by rw [bs_size]; omega) (by rw [bs_size]; omega) ?_ hm hcf hm2 hcf2 (fun w => let_any h w) (fun w' hb' => hc2 w' (bnext hb hb')) hc (fun w' hb' => ia hok.2.1 (by omega) w0 B _ _ w' s1 (bnext hb hb')) (fun w' hb' => ib hok.2.2 (by omega) w0 B _ _ w' s2 (bnext hb hb'))
    rw [bs_append, bs_append, bs_append, (Pg.ite t a b).ser_eq]; simp [Pg.pks]
  | whl t a ia =>
    intro hok hn w0 B T u w h hb
    obtain ⟨f, rc, kv, hm, hcf, ⟨T1, u1, kv', rfl, s1, hkv⟩, hc⟩ := inv_parts h
    obtain ⟨f2, rc2, hm2, hcf2, hc2⟩ := inv_head hok hn h
    cases hkv
    have hn2 := hn
    simp [Pg.ser] at hn2
    refine tx_one T T1 u u1 f f2 rc rc2 w (bs [(Pg.whl t a).letter]) (bs (Pg.whl t a).hd) (bs a.ser) _ (zl _) (by rw [bs_size]; simp [Pg.hd]; omega) (by rw [bs_size]; omega) ?_ hm hcf hm2 hcf2 (fun w => let_any h w) (fun w' hb' => hc2 w' (bnext hb hb')) hc (fun w' hb' => ia hok.2 (by omega) w0 B _ _ w' s1 (bnext hb hb'))
    rw [bs_append, bs_append, (Pg.whl t a).ser_eq]; simp [Pg.pks]
  | cho a b ia ib =>
    intro hok hn w0 B T u w h hb
    obtain ⟨f, rc, kv, hm, hcf, ⟨T1, u1, kv', rfl, s1, T2, u2, kv'', rfl, s2, hkv⟩, hc⟩ := inv_parts h
    obtain ⟨f2, rc2, hm2, hcf2, hc2⟩ := inv_head hok hn h
    cases hkv
    have hn2 := hn
    simp [Pg.ser] at hn2
    refine tx_two T T1 T2 u u1 u2 f f2 rc rc2 w (bs [(Pg.cho a b).letter]) (bs (Pg.cho a b).hd) (bs a.ser) (bs b.ser) _ (zl _) (by rw [bs_size]; simp [Pg.hd]) (by rw [bs_size]; omega) (by rw [bs_size]; omega) ?_ hm hcf hm2 hcf2 (fun w => let_any h w) (fun w' hb' => hc2 w' (bnext hb hb')) hc (fun w' hb' => ia hok.1 (by omega) w0 B _ _ w' s1 (bnext hb hb')) (fun w' hb' => ib hok.2 (by omega) w0 B _ _ w' s2 (bnext hb hb'))
    rw [bs_append, bs_append, bs_append, (Pg.cho a b).ser_eq]; simp [Pg.pks]
  | asm t =>
    intro hok hn w0 B T u w h hb
    obtain ⟨f, rc, kv, hm, hcf, hkv, hc⟩ := inv_parts h
    obtain ⟨f2, rc2, hm2, hcf2, hc2⟩ := inv_head hok hn h
    cases hkv
    refine tx_none T u f f2 rc rc2 w (bs [(Pg.asm t).letter]) (bs (Pg.asm t).hd) _ (zl _) (by rw [bs_size]; have := congrArg List.length (Pg.asm t).ser_eq; simp only [List.length_cons, List.length_append] at this; omega) ?_ hm hcf hm2 hcf2 (fun w => let_any h w) (fun w' hb' => hc2 w' (bnext hb hb')) hc
    rw [bs_append, (Pg.asm t).ser_eq]; simp [Pg.pks]

/-! ### PartsOf -/
theorem infoStr' : (Tryz.prog.info? 9).map (fun i => (i.zero, i.size, i.bytes)) = some (some (.string ⟨#[]⟩), 1, 16) := by kernel_rfl
def RowPost' (vs : List Value) (w : World) (e : Ending) (w' : World) : Prop := ∃ sl, e = .returned sl ∧ Row w' w.heap.size 9 sl vs ∧ Below w.heap.size w w'

theorem stvs_cells {w0 w : World} {B B' : Nat} {T : TypeId} {v : Value} {ps : List Pg} {vs : List Value} (hv : StVs w0 B ps vs) (h : Row w B' T v vs) : ∃ a cap, v = .slice a ps.length cap ∧ ∀ (m : Nat) (hm : m < ps.length), ∃ g T u, a = some ⟨g, 0, none⟩ ∧ B' ≤ g ∧ w.cell? ⟨g, m, none⟩ = some (.iface T (.agg u)) ∧ StV w0 B ps[m] (.iface T (.agg u)) := by
  have hl := hv.len
  rcases h.cases with ⟨h1, h2⟩ | ⟨g, cap, h1, hb, _, h3⟩
  · have : ps = [] := by
      rw [h2] at hl
      exact List.eq_nil_of_length_eq_zero hl.symm
    subst this
    exact ⟨_, _, h1, fun m hm => by simp at hm⟩
  · rw [hl] at h1
    refine ⟨_, _, h1, fun m hm => ?_⟩
    obtain ⟨T, u, h4, h5⟩ := StVs.at m hm hv
    exact ⟨g, T, u, rfl, hb, h3 m _ h4, h5⟩
theorem pok_mem' {wide : Bool} {p q : Pg} (hp : p.ok wide) (hq : q ∈ p.pks) : q.ok wide ∧ q.ser.length ≤ p.ser.length := by
  cases p <;> simp [Pg.pks] at hq
  · rcases hq with rfl | rfl
    · exact ⟨hp.1, by simp [Pg.ser]; omega⟩
    · exact ⟨hp.2, by simp [Pg.ser]; omega⟩
  · rcases hq with rfl | rfl
    · exact ⟨hp.2.1, by simp [Pg.ser]; omega⟩
    · exact ⟨hp.2.2, by simp [Pg.ser]; omega⟩
  · subst hq; exact ⟨hp.2, by simp [Pg.ser]; omega⟩
  · rcases hq with rfl | rfl
    · exact ⟨hp.1, by simp [Pg.ser]; omega⟩
    · exact ⟨hp.2, by simp [Pg.ser]; omega⟩

end Go.Proofs.YthmikeldlbjblaaGreatDoor
