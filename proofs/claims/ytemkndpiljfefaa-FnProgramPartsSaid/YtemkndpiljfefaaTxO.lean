/-
  impl.letterOf, impl.textOf and PartsOf of the program.
-/
import Derived.Test.YtemkndpiljfefaaRdP
import Derived.Test.YtemkndpiljfefaaPts
import Derived.Test.YtemkndpiljfefaaTas
import Derived.Test.YtemkndpiljfefaaMark
namespace Go.Proofs.Ytemkndpiljfefaa
open Go.RowKit

set_option maxHeartbeats 1000000 in
theorem let_skip (v : Value) (w : World) : Calls Try.prog 48 #[.iface 96 v] w fun e w' => e = .returned (.string ⟨#[115]⟩) ∧ w = w' := by
  have a0 := tas_asg_skip
  have a1 := tas_seq_skip
  have a2 := tas_ite_skip
  have a3 := tas_whl_skip
  have a4 := tas_cho_skip
  have a5 := tas_asm_skip
  go_enter Try.func48, Try.ntmps48
  go_wp2_with fail
  go_ret
  exact ⟨rfl, rfl⟩
set_option maxHeartbeats 1000000 in
theorem let_asg (v : Value) (w : World) : Calls Try.prog 48 #[.iface 58 v] w fun e w' => e = .returned (.string ⟨#[97]⟩) ∧ w = w' := by
  have a0 := tas_asg_asg
  go_enter Try.func48, Try.ntmps48
  go_wp2_with fail
  go_ret
  exact ⟨rfl, rfl⟩
set_option maxHeartbeats 1000000 in
theorem let_seq (v : Value) (w : World) : Calls Try.prog 48 #[.iface 78 v] w fun e w' => e = .returned (.string ⟨#[59]⟩) ∧ w = w' := by
  have a0 := tas_asg_seq
  have a1 := tas_seq_seq
  go_enter Try.func48, Try.ntmps48
  go_wp2_with fail
  go_ret
  exact ⟨rfl, rfl⟩
set_option maxHeartbeats 1000000 in
theorem let_ite (v : Value) (w : World) : Calls Try.prog 48 #[.iface 82 v] w fun e w' => e = .returned (.string ⟨#[63]⟩) ∧ w = w' := by
  have a0 := tas_asg_ite
  have a1 := tas_seq_ite
  have a2 := tas_ite_ite
  go_enter Try.func48, Try.ntmps48
  go_wp2_with fail
  go_ret
  exact ⟨rfl, rfl⟩
set_option maxHeartbeats 1000000 in
theorem let_whl (v : Value) (w : World) : Calls Try.prog 48 #[.iface 84 v] w fun e w' => e = .returned (.string ⟨#[64]⟩) ∧ w = w' := by
  have a0 := tas_asg_whl
  have a1 := tas_seq_whl
  have a2 := tas_ite_whl
  have a3 := tas_whl_whl
  go_enter Try.func48, Try.ntmps48
  go_wp2_with fail
  go_ret
  exact ⟨rfl, rfl⟩
set_option maxHeartbeats 1000000 in
theorem let_cho (v : Value) (w : World) : Calls Try.prog 48 #[.iface 85 v] w fun e w' => e = .returned (.string ⟨#[47]⟩) ∧ w = w' := by
  have a0 := tas_asg_cho
  have a1 := tas_seq_cho
  have a2 := tas_ite_cho
  have a3 := tas_whl_cho
  have a4 := tas_cho_cho
  go_enter Try.func48, Try.ntmps48
  go_wp2_with fail
  go_ret
  exact ⟨rfl, rfl⟩
set_option maxHeartbeats 1000000 in
theorem let_asm (v : Value) (w : World) : Calls Try.prog 48 #[.iface 87 v] w fun e w' => e = .returned (.string ⟨#[126]⟩) ∧ w = w' := by
  have a0 := tas_asg_asm
  have a1 := tas_seq_asm
  have a2 := tas_ite_asm
  have a3 := tas_whl_asm
  have a4 := tas_cho_asm
  have a5 := tas_asm_asm
  go_enter Try.func48, Try.ntmps48
  go_wp2_with fail
  go_ret
  exact ⟨rfl, rfl⟩
theorem let_any {w0 : World} {B : Nat} {p : Pg} {T : TypeId} {u : Array Value} (h : StV w0 B p (.iface T (.agg u))) (w : World) : Calls Try.prog 48 #[.iface T (.agg u)] w fun e w' => e = .returned (.string (bs [p.letter])) ∧ w = w' := by
  cases p with
  | skip => cases h; exact let_skip _ w
  | asg x y => obtain ⟨_, _, h, _⟩ := h; cases h; exact let_asg _ w
  | seq a b => obtain ⟨_, _, h, _⟩ := h; cases h; exact let_seq _ w
  | ite t a b => obtain ⟨_, _, _, _, h, _⟩ := h; cases h; exact let_ite _ w
  | whl t a => obtain ⟨_, _, _, h, _⟩ := h; cases h; exact let_whl _ w
  | cho a b => obtain ⟨_, _, h, _⟩ := h; cases h; exact let_cho _ w
  | asm t => obtain ⟨_, _, h, _⟩ := h; cases h; exact let_asm _ w

set_option maxRecDepth 100000 in
set_option maxHeartbeats 4000000 in
theorem tx_none (T : TypeId) (u : Array Value) (f f2 : Nat) (rc rc2 : Value) (w : World) (L H R : ByteArray) (zL : L.size ≤ 1000) (zH : H.size ≤ 1000) (hR : L ++ H = R)
    (hm : ∀ w, (method 229 T (.agg u) "loop.example/productprograms/impl.parts").run Try.prog w = .ok (f, rc) w) (hcf : ∀ (a : Array Value) w, (callFunc f a).run Try.prog w = .ok (.enter f a) w)
    (hm2 : ∀ w, (method 229 T (.agg u) "loop.example/productprograms/impl.head").run Try.prog w = .ok (f2, rc2) w) (hcf2 : ∀ (a : Array Value) w, (callFunc f2 a).run Try.prog w = .ok (.enter f2 a) w)
    (hl : ∀ w, Calls Try.prog 48 #[.iface T (.agg u)] w fun e w' => e = .returned (.string L) ∧ w = w')
    (hh : ∀ w', Below w.heap.size w w' → Calls Try.prog f2 #[rc2] w' (TextPost H w'))
    (hp : ∀ w, Calls Try.prog f #[rc] w (PartsPost [] w)) :
    Calls Try.prog 30 #[.iface T (.agg u)] w (TextPost R w) := by
  have HP := Lib.hid hp
  have HL := Lib.hid hl
  have HH := Lib.hid hh
  have HR := Lib.hid hR
  clear hp hl hh hR
  have f0 : ¬ (9223372036854775807 < L.size + H.size) := by omega
  go_enter Try.func30, Try.ntmps30
  go_wp2_with fail
  refine (HL.out _).mono ?_
  rintro e w' ⟨rfl, rfl⟩
  go_wp2_with fail
  refine (HH.out _ (Below.refl _ _)).mono ?_
  rintro e w1 ⟨rfl, hb⟩
  have HB1 := Lib.hid hb
  clear hb
  go_wp2_with fail
  refine (HP.out _).mono ?_
  rintro e w2 ⟨sl, rfl, hrow, hb⟩
  have HB2 := Lib.hid (bnext HB1.out hb)
  obtain ⟨g, cap, rfl⟩ := hrow.zero
  clear hb hrow
  go_wp2_with fail
  refine wp_loop_rounds 1 ?_
  rw [rounds_succ]
  go_wp2_with fail
  go_ret
  exact ⟨by rw [← HR.out]; rfl, HB2.out⟩

set_option maxRecDepth 100000 in
set_option maxHeartbeats 4000000 in
theorem tx_one (T T1 : TypeId) (u u1 : Array Value) (f f2 : Nat) (rc rc2 : Value) (w : World) (L H r1 R : ByteArray) (zL : L.size ≤ 1000) (zH : H.size ≤ 1000) (z1 : r1.size ≤ 1000) (hR : L ++ H ++ r1 = R)
    (hm : ∀ w, (method 229 T (.agg u) "loop.example/productprograms/impl.parts").run Try.prog w = .ok (f, rc) w) (hcf : ∀ (a : Array Value) w, (callFunc f a).run Try.prog w = .ok (.enter f a) w)
    (hm2 : ∀ w, (method 229 T (.agg u) "loop.example/productprograms/impl.head").run Try.prog w = .ok (f2, rc2) w) (hcf2 : ∀ (a : Array Value) w, (callFunc f2 a).run Try.prog w = .ok (.enter f2 a) w)
    (hl : ∀ w, Calls Try.prog 48 #[.iface T (.agg u)] w fun e w' => e = .returned (.string L) ∧ w = w')
    (hh : ∀ w', Below w.heap.size w w' → Calls Try.prog f2 #[rc2] w' (TextPost H w'))
    (hp : ∀ w, Calls Try.prog f #[rc] w (PartsPost [.iface T1 (.agg u1)] w))
    (c1 : ∀ w', Below w.heap.size w w' → Calls Try.prog 30 #[.iface T1 (.agg u1)] w' (TextPost r1 w')) :
    Calls Try.prog 30 #[.iface T (.agg u)] w (TextPost R w) := by
  have C1 := Lib.hid c1
  clear c1
  have HP := Lib.hid hp
  have HL := Lib.hid hl
  have HH := Lib.hid hh
  have HR := Lib.hid hR
  clear hp hl hh hR
  have f0 : ¬ (9223372036854775807 < L.size + H.size) := by omega
  have f1 : ¬ (9223372036854775807 < L.size + H.size + r1.size) := by omega
  go_enter Try.func30, Try.ntmps30
  go_wp2_with fail
  refine (HL.out _).mono ?_
  rintro e w' ⟨rfl, rfl⟩
  go_wp2_with fail
  refine (HH.out _ (Below.refl _ _)).mono ?_
  rintro e w1 ⟨rfl, hb⟩
  have HB1 := Lib.hid hb
  clear hb
  go_wp2_with fail
  refine (HP.out _).mono ?_
  rintro e w2 ⟨sl, rfl, hrow, hb⟩
  have HB2 := Lib.hid (bnext HB1.out hb)
  obtain ⟨g, cap, rfl, k1⟩ := hrow.one
  clear hb hrow
  go_wp2_with fail
  refine wp_loop_rounds 2 ?_
  rw [rounds_succ]
  go_wp2_with fail
  refine (C1.out _ HB2.out).mono ?_
  rintro e w3 ⟨rfl, hb⟩
  have HB3 := Lib.hid (bnext HB2.out hb)
  clear hb k1
  go_wp2_with fail
  rw [rounds_succ]
  go_wp2_with fail
  go_ret
  exact ⟨by rw [← HR.out]; rfl, HB3.out⟩

set_option maxRecDepth 100000 in
set_option maxHeartbeats 4000000 in
theorem tx_two (T T1 T2 : TypeId) (u u1 u2 : Array Value) (f f2 : Nat) (rc rc2 : Value) (w : World) (L H r1 r2 R : ByteArray) (zL : L.size ≤ 1000) (zH : H.size ≤ 1000) (z1 : r1.size ≤ 1000) (z2 : r2.size ≤ 1000) (hR : L ++ H ++ r1 ++ r2 = R)
    (hm : ∀ w, (method 229 T (.agg u) "loop.example/productprograms/impl.parts").run Try.prog w = .ok (f, rc) w) (hcf : ∀ (a : Array Value) w, (callFunc f a).run Try.prog w = .ok (.enter f a) w)
    (hm2 : ∀ w, (method 229 T (.agg u) "loop.example/productprograms/impl.head").run Try.prog w = .ok (f2, rc2) w) (hcf2 : ∀ (a : Array Value) w, (callFunc f2 a).run Try.prog w = .ok (.enter f2 a) w)
    (hl : ∀ w, Calls Try.prog 48 #[.iface T (.agg u)] w fun e w' => e = .returned (.string L) ∧ w = w')
    (hh : ∀ w', Below w.heap.size w w' → Calls Try.prog f2 #[rc2] w' (TextPost H w'))
    (hp : ∀ w, Calls Try.prog f #[rc] w (PartsPost [.iface T1 (.agg u1), .iface T2 (.agg u2)] w))
    (c1 : ∀ w', Below w.heap.size w w' → Calls Try.prog 30 #[.iface T1 (.agg u1)] w' (TextPost r1 w'))
    (c2 : ∀ w', Below w.heap.size w w' → Calls Try.prog 30 #[.iface T2 (.agg u2)] w' (TextPost r2 w')) :
    Calls Try.prog 30 #[.iface T (.agg u)] w (TextPost R w) := by
  have C1 := Lib.hid c1
  have C2 := Lib.hid c2
  clear c1 c2
  have HP := Lib.hid hp
  have HL := Lib.hid hl
  have HH := Lib.hid hh
  have HR := Lib.hid hR
  clear hp hl hh hR
  have f0 : ¬ (9223372036854775807 < L.size + H.size) := by omega
  have f1 : ¬ (9223372036854775807 < L.size + H.size + r1.size) := by omega
  have f2 : ¬ (9223372036854775807 < L.size + H.size + r1.size + r2.size) := by omega
  go_enter Try.func30, Try.ntmps30
  go_wp2_with fail
  refine (HL.out _).mono ?_
  rintro e w' ⟨rfl, rfl⟩
  go_wp2_with fail
  refine (HH.out _ (Below.refl _ _)).mono ?_
  rintro e w1 ⟨rfl, hb⟩
  have HB1 := Lib.hid hb
  clear hb
  go_wp2_with fail
  refine (HP.out _).mono ?_
  rintro e w2 ⟨sl, rfl, hrow, hb⟩
  have HB2 := Lib.hid (bnext HB1.out hb)
  obtain ⟨g, cap, rfl, k1, k2⟩ := hrow.two
  clear hb hrow
  go_wp2_with fail
  refine wp_loop_rounds 3 ?_
  rw [rounds_succ]
  go_wp2_with fail
  refine (C1.out _ HB2.out).mono ?_
  rintro e w3 ⟨rfl, hb⟩
  have k2 := ckeep hb k2
  have HB3 := Lib.hid (bnext HB2.out hb)
  clear hb k1
  go_wp2_with fail
  rw [rounds_succ]
  go_wp2_with fail
  refine (C2.out _ HB3.out).mono ?_
  rintro e w4 ⟨rfl, hb⟩
  have HB4 := Lib.hid (bnext HB3.out hb)
  clear hb k2
  go_wp2_with fail
  rw [rounds_succ]
  go_wp2_with fail
  go_ret
  exact ⟨by rw [← HR.out]; rfl, HB4.out⟩

theorem tx_any : ∀ (p : Pg), p.ok false → p.ser.length ≤ 1000 → ∀ (w0 : World) (B : Nat) (T : TypeId) (u : Array Value) (w : World), StV w0 B p (.iface T (.agg u)) → Below w0.heap.size w0 w →
    Calls Try.prog 30 #[.iface T (.agg u)] w (TextPost (bs p.ser) w) := by
  have zl : ∀ c : UInt8, (bs [c]).size ≤ 1000 := fun c => by rw [bs_size]; simp
  intro p
  induction p with
  | skip  =>
    intro hok hn w0 B T u w h hb
    obtain ⟨f, rc, kv, hm, hcf, hkv, hc⟩ := inv_parts h
    obtain ⟨f2, rc2, hm2, hcf2, hc2⟩ := inv_head hok hn h
    cases hkv
    refine tx_none T u f f2 rc rc2 w (bs [(Pg.skip).letter]) (bs (Pg.skip).hd) _ (zl _) (by rw [bs_size]; have := congrArg List.length (Pg.skip).ser_eq; simp only [List.length_cons, List.length_append] at this; omega) ?_ hm hcf hm2 hcf2 (fun w => let_any h w) (fun w' hb' => hc2 w' (bnext hb hb')) hc
    rw [bs_append, (Pg.skip).ser_eq]; simp [Pg.pks]
  | asg x y =>
    intro hok hn w0 B T u w h hb
    obtain ⟨f, rc, kv, hm, hcf, hkv, hc⟩ := inv_parts h
    obtain ⟨f2, rc2, hm2, hcf2, hc2⟩ := inv_head hok hn h
    cases hkv
    refine tx_none T u f f2 rc rc2 w (bs [(Pg.asg x y).letter]) (bs (Pg.asg x y).hd) _ (zl _) (by rw [bs_size]; have := congrArg List.length (Pg.asg x y).ser_eq; simp only [List.length_cons, List.length_append] at this; omega) ?_ hm hcf hm2 hcf2 (fun w => let_any h w) (fun w' hb' => hc2 w' (bnext hb hb')) hc
    rw [bs_append, (Pg.asg x y).ser_eq]; simp [Pg.pks]
  | seq a b ia ib =>
    intro hok hn w0 B T u w h hb
    obtain ⟨f, rc, kv, hm, hcf, ⟨T1, u1, kv', rfl, s1, T2, u2, kv'', rfl, s2, hkv⟩, hc⟩ := inv_parts h
    obtain ⟨f2, rc2, hm2, hcf2, hc2⟩ := inv_head hok hn h
    cases hkv
    have hn2 := hn
    simp [Pg.ser] at hn2
    refine tx_two T T1 T2 u u1 u2 f f2 rc rc2 w (bs [(Pg.seq a b).letter]) (bs (Pg.seq a b).hd) (bs a.ser) (bs b.ser) _ (zl _) (by rw [bs_size]; simp [Pg.hd]) (by rw [bs_size]; omega) (by rw [bs_size]; omega) ?_ hm hcf hm2 hcf2 (fun w => let_any h w) (fun w' hb' => hc2 w' (bnext hb hb')) hc (fun w' hb' => ia hok.1 (by omega) w0 B _ _ w' s1 (bnext hb hb')) (fun w' hb' => ib hok.2 (by omega) w0 B _ _ w' s2 (bnext hb hb'))
    rw [bs_append, bs_append, bs_append, (Pg.seq a b).ser_eq]; simp [Pg.pks]
  | ite t a b ia ib =>
    intro hok hn w0 B T u w h hb
    obtain ⟨f, rc, kv, hm, hcf, ⟨T1, u1, kv', rfl, s1, T2, u2, kv'', rfl, s2, hkv⟩, hc⟩ := inv_parts h
    obtain ⟨f2, rc2, hm2, hcf2, hc2⟩ := inv_head hok hn h
    cases hkv
    have hn2 := hn
    simp [Pg.ser] at hn2
    refine tx_two T T1 T2 u u1 u2 f f2 rc rc2 w (bs [(Pg.ite t a b).letter]) (bs (Pg.ite t a b).hd) (bs a.ser) (bs b.ser) _ (zl _) (by rw [bs_size]; simp [Pg.hd]; omega) (by rw [bs_size]; omega) (by rw [bs_size]; omega) ?_ hm hcf hm2 hcf2 (fun w => let_any h w) (fun w' hb' => hc2 w' (bnext hb hb')) hc (fun w' hb' => ia hok.2.1 (by omega) w0 B _ _ w' s1 (bnext hb hb')) (fun w' hb' => ib hok.2.2 (by omega) w0 B _ _ w' s2 (bnext hb hb'))
    rw [bs_append, bs_append, bs_append, (Pg.ite t a b).ser_eq]; simp [Pg.pks]
  | whl t a ia =>
    intro hok hn w0 B T u w h hb
    obtain ⟨f, rc, kv, hm, hcf, ⟨T1, u1, kv', rfl, s1, hkv⟩, hc⟩ := inv_parts h
    obtain ⟨f2, rc2, hm2, hcf2, hc2⟩ := inv_head hok hn h
    cases hkv
    have hn2 := hn
    simp [Pg.ser] at hn2
    refine tx_one T T1 u u1 f f2 rc rc2 w (bs [(Pg.whl t a).letter]) (bs (Pg.whl t a).hd) (bs a.ser) _ (zl _) (by rw [bs_size]; simp [Pg.hd]; omega) (by rw [bs_size]; omega) ?_ hm hcf hm2 hcf2 (fun w => let_any h w) (fun w' hb' => hc2 w' (bnext hb hb')) hc (fun w' hb' => ia hok.2 (by omega) w0 B _ _ w' s1 (bnext hb hb'))
    rw [bs_append, bs_append, (Pg.whl t a).ser_eq]; simp [Pg.pks]
  | cho a b ia ib =>
    intro hok hn w0 B T u w h hb
    obtain ⟨f, rc, kv, hm, hcf, ⟨T1, u1, kv', rfl, s1, T2, u2, kv'', rfl, s2, hkv⟩, hc⟩ := inv_parts h
    obtain ⟨f2, rc2, hm2, hcf2, hc2⟩ := inv_head hok hn h
    cases hkv
    have hn2 := hn
    simp [Pg.ser] at hn2
    refine tx_two T T1 T2 u u1 u2 f f2 rc rc2 w (bs [(Pg.cho a b).letter]) (bs (Pg.cho a b).hd) (bs a.ser) (bs b.ser) _ (zl _) (by rw [bs_size]; simp [Pg.hd]) (by rw [bs_size]; omega) (by rw [bs_size]; omega) ?_ hm hcf hm2 hcf2 (fun w => let_any h w) (fun w' hb' => hc2 w' (bnext hb hb')) hc (fun w' hb' => ia hok.1 (by omega) w0 B _ _ w' s1 (bnext hb hb')) (fun w' hb' => ib hok.2 (by omega) w0 B _ _ w' s2 (bnext hb hb'))
    rw [bs_append, bs_append, bs_append, (Pg.cho a b).ser_eq]; simp [Pg.pks]
  | asm t =>
    intro hok hn w0 B T u w h hb
    obtain ⟨f, rc, kv, hm, hcf, hkv, hc⟩ := inv_parts h
    obtain ⟨f2, rc2, hm2, hcf2, hc2⟩ := inv_head hok hn h
    cases hkv
    refine tx_none T u f f2 rc rc2 w (bs [(Pg.asm t).letter]) (bs (Pg.asm t).hd) _ (zl _) (by rw [bs_size]; have := congrArg List.length (Pg.asm t).ser_eq; simp only [List.length_cons, List.length_append] at this; omega) ?_ hm hcf hm2 hcf2 (fun w => let_any h w) (fun w' hb' => hc2 w' (bnext hb hb')) hc
    rw [bs_append, (Pg.asm t).ser_eq]; simp [Pg.pks]

/-! ### PartsOf -/
theorem infoStr' : (Try.prog.info? 9).map (fun i => (i.zero, i.size, i.bytes)) = some (some (.string ⟨#[]⟩), 1, 16) := by kernel_rfl
def RowPost' (vs : List Value) (w : World) (e : Ending) (w' : World) : Prop := ∃ sl, e = .returned sl ∧ Row w' w.heap.size 9 sl vs ∧ Below w.heap.size w w'

set_option maxHeartbeats 1000000 in
theorem implParts_no (s : ByteArray) (w : World) (h : ¬ (PValid false s.data.toList ∧ s.size ≤ 200)) :
    Calls Try.prog 8 #[.string s] w (RowPost' (strs []) w) := by
  have HC := fun w => Lib.hid (prog_no s w h)
  clear h
  go_enter Try.func8, Try.ntmps8
  go_wp2_with fail
  refine (HC _).out.mono ?_
  rintro e w1 ⟨rfl, hb⟩
  have HB := Lib.hid hb
  clear hb
  go_wp2_with fail
  go_ret
  exact ⟨_, rfl, Row.nil _ _ _, HB.out⟩

theorem stvs_cells {w0 w : World} {B B' : Nat} {T : TypeId} {v : Value} {ps : List Pg} {vs : List Value} (hv : StVs w0 B ps vs) (h : Row w B' T v vs) : ∃ a cap, v = .slice a ps.length cap ∧ ∀ (m : Nat) (hm : m < ps.length), ∃ g T u, a = some ⟨g, 0, none⟩ ∧ B' ≤ g ∧ w.cell? ⟨g, m, none⟩ = some (.iface T (.agg u)) ∧ StV w0 B ps[m] (.iface T (.agg u)) := by
  have hl := hv.len
  rcases h.cases with ⟨h1, h2⟩ | ⟨g, cap, h1, hb, _, h3⟩
  · have : ps = [] := by
      rw [h2] at hl
      exact List.eq_nil_of_length_eq_zero hl.symm
    subst this
    exact ⟨_, _, h1, fun m hm => by simp at hm⟩
  · rw [hl] at h1
    refine ⟨_, _, h1, fun m hm => ?_⟩
    obtain ⟨T, u, h4, h5⟩ := StVs.at m hm hv
    exact ⟨g, T, u, rfl, hb, h3 m _ h4, h5⟩
theorem pok_mem' {wide : Bool} {p q : Pg} (hp : p.ok wide) (hq : q ∈ p.pks) : q.ok wide ∧ q.ser.length ≤ p.ser.length := by
  cases p <;> simp [Pg.pks] at hq
  · rcases hq with rfl | rfl
    · exact ⟨hp.1, by simp [Pg.ser]; omega⟩
    · exact ⟨hp.2, by simp [Pg.ser]; omega⟩
  · rcases hq with rfl | rfl
    · exact ⟨hp.2.1, by simp [Pg.ser]; omega⟩
    · exact ⟨hp.2.2, by simp [Pg.ser]; omega⟩
  · subst hq; exact ⟨hp.2, by simp [Pg.ser]; omega⟩
  · rcases hq with rfl | rfl
    · exact ⟨hp.1, by simp [Pg.ser]; omega⟩
    · exact ⟨hp.2, by simp [Pg.ser]; omega⟩

set_option maxRecDepth 100000 in
set_option maxHeartbeats 4000000 in
theorem implParts_yes (s : ByteArray) (w : World) {p : Pg} (hp : p.ok false) (hs : s.data.toList = p.ser) (hl : s.size ≤ 200) :
    Calls Try.prog 8 #[.string s] w (RowPost' (strs (p.pks.map Pg.ser)) w) := by
  obtain ⟨i0, hi0, hz0, hz1, hz2⟩ := info_parts infoStr'
  have hsz : p.ser.length ≤ 1000 := by have := congrArg List.length hs; simp at this; omega
  have HC := fun w => Lib.hid (prog_yes s w hp hs hl)
  have hpl : p.pks.length ≤ 2 := by cases p <;> simp [Pg.pks]
  have HQ : Hid (∀ q ∈ p.pks, q.ok false ∧ q.ser.length ≤ 1000) := fun q hq => by obtain ⟨h1, h2⟩ := pok_mem' hp hq; exact ⟨h1, by omega⟩
  clear hs hp hsz
  go_enter Try.func8, Try.ntmps8
  go_wp2_with fail
  refine (HC _).out.mono ?_
  rintro e w1 ⟨T, u, rfl, hst, hb⟩
  have HB := Lib.hid hb
  obtain ⟨f, rc, kv, hm, hcf, hkv, hc⟩ := inv_parts hst
  have HP := Lib.hid hc
  have HKV := Lib.hid hkv
  clear hb hst hc hkv
  go_wp2_with fail
  refine (HP.out _).mono ?_
  rintro e w2 ⟨sl, rfl, hrow, hb⟩
  obtain ⟨a, cap, rfl, hat⟩ := stvs_cells HKV.out hrow
  have HA := Lib.hid hat
  have HB2 := Lib.hid (bnext HB.out hb)
  have HB1 := Lib.hid hb
  clear hb hat hrow hm hcf
  go_wp2_with fail
  go_loopw [5, 18] (fun v5 v18 wr => ∃ m : Nat, m ≤ p.pks.length ∧ v18 = .int .i64 m ∧ Hid (Row wr w2.heap.size 9 v5 (strs ((p.pks.take m).map Pg.ser))) ∧ Hid (Below w2.heap.size w2 wr)) (fun _ v18 _ => p.pks.length - (intOf v18).toNat)
  case atStart => exact ⟨0, Nat.zero_le _, rfl, Row.nil _ _ _, Below.refl _ _⟩
  case round =>
    obtain ⟨m, hm, rfl, HR1, HB3⟩ := hrel
    by_cases hlt : m < p.pks.length
    · obtain ⟨g, T1, u1, rfl, _, hc, hst⟩ := HA.out m hlt
      have hc := ckeep HB3.out hc
      obtain ⟨hqok, hqn⟩ := HQ.out _ (List.getElem_mem hlt)
      have HTX := Lib.hid (tx_any p.pks[m] hqok hqn w1 w.heap.size T1 u1 wr hst (bnext HB1.out HB3.out))
      have hXn : strs ((p.pks.take (m + 1)).map Pg.ser) = strs ((p.pks.take m).map Pg.ser) ++ [.string (bs p.pks[m].ser)] := by
        unfold strs
        rw [List.take_succ_eq_append_getElem hlt, List.map_append, List.map_append]; rfl
      have HXN := Lib.hid hXn
      have hxl : (strs ((p.pks.take m).map Pg.ser)).length ≤ 2 := by simp [strs]; omega
      have h0 : (0 : Int) ≤ (m : Int) := by omega
      have h1 : (m : Int) < (p.pks.length : Int) := by omega
      clear hXn hqok hst
      generalize strs ((p.pks.take m).map Pg.ser) = X at *
      generalize bs p.pks[m].ser = R at *
      go_wp2_with fail
      refine HTX.out.mono ?_
      rintro e W1 ⟨rfl, hb⟩
      have HRK := Lib.hid (HR1.out.kept hb)
      have HBK := Lib.hid (bnext HB3.out hb)
      clear hb hc
      go_wp2_with (at_builtin; refine wpList_append_lies _ (by rfl) _ _ _ (by rfl) w2.heap.size 9 i0 _ 1 16 Try.underlying24 hi0 hz0 hz1 hz2 rfl (by omega) _ _ _ (by rfl) (World.ownsRow.alloc HRK.out _) ⟨W1.heap.size, 0, none⟩ 1 1 [.string R] (by rfl) (by rfl) (World.news_of_block (cs := #[.string R]) (t := 9) (fr := (0, 0)) (heap_alloc_new W1 _)) (by simp [Value.oneCell']) (by omega) (by unfold maxLen; omega) (by omega) (by have := HBK.out.size; simp; omega) (W1.heap.size + 1) (by simp) ?_; intro g3 cap3 w3 hown hgrow hat hlt2)
      obtain ⟨hr3, hb3⟩ := Row.after (HBK.out.alloc HBK.out.size _) (Row.kept HRK.out ((Below.refl _ _).alloc (Nat.le_refl _) _)) hown hgrow
      exact ⟨⟨m + 1, hlt, by go_num, by rw [HXN.out]; exact hr3, hb3⟩, by simp [intOf]; omega⟩
    · have hme : m = p.pks.length := by omega
      have hr := HR1.out
      rw [hme, List.take_of_length_le (Nat.le_refl _)] at hr
      have HF := Lib.hid hr
      have h1 : ¬ (m : Int) < (p.pks.length : Int) := by omega
      clear hr HR1 hme
      go_wp2_with fail
      go_ret
      exact ⟨_, rfl, HF.out.mono HB2.out.size, bnext HB2.out HB3.out⟩
end Go.Proofs.Ytemkndpiljfefaa
