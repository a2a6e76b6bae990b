/-
  impl.depthOf: how deep statements are nested.
-/
import Derived.Test.YtpbbdhnnaagghaaPts
namespace Go.Proofs.Ytpbbdhnnaagghaa
open Go.RowKit


set_option maxRecDepth 100000 in
set_option maxHeartbeats 2000000 in
theorem dep_none (T : TypeId) (u : Array Value) (f : Nat) (rc : Value) (w : World)
    (hm : ∀ w, (method 235 T (.agg u) "loop.example/productprograms/impl.parts").run Try.prog w = .ok (f, rc) w) (hcf : ∀ (a : Array Value) w, (callFunc f a).run Try.prog w = .ok (.enter f a) w)
    (hp : ∀ w, Calls Try.prog f #[rc] w (PartsPost [] w)) :
    Calls Try.prog 50 #[.iface T (.agg u)] w (IntPost (1 : Nat) w) := by
  have HP := Lib.hid hp
  clear hp
  go_enter Try.func50, Try.ntmps50
  go_wp2_with fail
  refine (HP.out _).mono ?_
  rintro e w1 ⟨sl, rfl, hrow, hb⟩
  obtain ⟨g, cap, rfl⟩ := hrow.zero
  have HB := Lib.hid hb
  clear hb hrow
  go_wp2_with fail
  refine wp_loop_rounds 1 ?_
  rw [rounds_succ]
  go_wp2_with fail
  go_ret
  exact ⟨rfl, HB.out⟩

set_option maxRecDepth 100000 in
set_option maxHeartbeats 2000000 in
theorem dep_one (T T1 : TypeId) (u u1 : Array Value) (f : Nat) (rc : Value) (w : World) (d1 : Nat) (h1 : d1 ≤ 1000) (h0 : 1 ≤ d1)
    (hm : ∀ w, (method 235 T (.agg u) "loop.example/productprograms/impl.parts").run Try.prog w = .ok (f, rc) w) (hcf : ∀ (a : Array Value) w, (callFunc f a).run Try.prog w = .ok (.enter f a) w)
    (hp : ∀ w, Calls Try.prog f #[rc] w (PartsPost [.iface T1 (.agg u1)] w))
    (c1 : ∀ w', Below w.heap.size w w' → Calls Try.prog 50 #[.iface T1 (.agg u1)] w' (IntPost d1 w')) :
    Calls Try.prog 50 #[.iface T (.agg u)] w (IntPost (d1 + 1 : Nat) w) := by
  have HP := Lib.hid hp
  have C1 := Lib.hid c1
  have hd1 : (0 : Int) < (d1 : Int) := by omega
  clear hp c1
  go_enter Try.func50, Try.ntmps50
  go_wp2_with fail
  refine (HP.out _).mono ?_
  rintro e w1 ⟨sl, rfl, hrow, hb⟩
  obtain ⟨g, cap, rfl, k1⟩ := hrow.one
  have HB := Lib.hid hb
  clear hb hrow
  go_wp2_with fail
  refine wp_loop_rounds 2 ?_
  rw [rounds_succ]
  go_wp2_with fail
  refine (C1.out _ HB.out).mono ?_
  rintro e w2 ⟨rfl, hb⟩
  have HB2 := Lib.hid (bnext HB.out hb)
  clear hb k1
  go_wp2_with fail
  rw [rounds_succ]
  go_wp2_with fail
  go_ret
  exact ⟨rfl, HB2.out⟩

set_option maxRecDepth 100000 in
set_option maxHeartbeats 2000000 in
theorem dep_two (T T1 T2 : TypeId) (u u1 u2 : Array Value) (f : Nat) (rc : Value) (w : World) (d1 d2 : Nat) (h1 : d1 ≤ 1000) (h2 : d2 ≤ 1000) (h0 : 1 ≤ d1)
    (hm : ∀ w, (method 235 T (.agg u) "loop.example/productprograms/impl.parts").run Try.prog w = .ok (f, rc) w) (hcf : ∀ (a : Array Value) w, (callFunc f a).run Try.prog w = .ok (.enter f a) w)
    (hp : ∀ w, Calls Try.prog f #[rc] w (PartsPost [.iface T1 (.agg u1), .iface T2 (.agg u2)] w))
    (c1 : ∀ w', Below w.heap.size w w' → Calls Try.prog 50 #[.iface T1 (.agg u1)] w' (IntPost d1 w'))
    (c2 : ∀ w', Below w.heap.size w w' → Calls Try.prog 50 #[.iface T2 (.agg u2)] w' (IntPost d2 w')) :
    Calls Try.prog 50 #[.iface T (.agg u)] w (IntPost (max d1 d2 + 1 : Nat) w) := by
  have HP := Lib.hid hp
  have C1 := Lib.hid c1
  have C2 := Lib.hid c2
  have hd1 : (0 : Int) < (d1 : Int) := by omega
  clear hp c1 c2
  by_cases hlt : (d1 : Int) < (d2 : Int)
  · have HX : Hid (max d1 d2 = d2) := by show max d1 d2 = d2; omega
    go_enter Try.func50, Try.ntmps50
    go_wp2_with fail
    refine (HP.out _).mono ?_
    rintro e w1 ⟨sl, rfl, hrow, hb⟩
    obtain ⟨g, cap, rfl, k1, k2⟩ := hrow.two
    have HB := Lib.hid hb
    clear hb hrow
    go_wp2_with fail
    refine wp_loop_rounds 3 ?_
    rw [rounds_succ]
    go_wp2_with fail
    refine (C1.out _ HB.out).mono ?_
    rintro e w2 ⟨rfl, hb⟩
    have k2 := ckeep hb k2
    have HB2 := Lib.hid (bnext HB.out hb)
    clear hb k1
    go_wp2_with fail
    rw [rounds_succ]
    go_wp2_with fail
    refine (C2.out _ HB2.out).mono ?_
    rintro e w3 ⟨rfl, hb⟩
    have HB3 := Lib.hid (bnext HB2.out hb)
    clear hb k2
    go_wp2_with fail
    rw [rounds_succ]
    go_wp2_with fail
    go_ret
    exact ⟨by rw [HX.out]; rfl, HB3.out⟩
  · have HX : Hid (max d1 d2 = d1) := by show max d1 d2 = d1; omega
    go_enter Try.func50, Try.ntmps50
    go_wp2_with fail
    refine (HP.out _).mono ?_
    rintro e w1 ⟨sl, rfl, hrow, hb⟩
    obtain ⟨g, cap, rfl, k1, k2⟩ := hrow.two
    have HB := Lib.hid hb
    clear hb hrow
    go_wp2_with fail
    refine wp_loop_rounds 3 ?_
    rw [rounds_succ]
    go_wp2_with fail
    refine (C1.out _ HB.out).mono ?_
    rintro e w2 ⟨rfl, hb⟩
    have k2 := ckeep hb k2
    have HB2 := Lib.hid (bnext HB.out hb)
    clear hb k1
    go_wp2_with fail
    rw [rounds_succ]
    go_wp2_with fail
    refine (C2.out _ HB2.out).mono ?_
    rintro e w3 ⟨rfl, hb⟩
    have HB3 := Lib.hid (bnext HB2.out hb)
    clear hb k2
    go_wp2_with fail
    rw [rounds_succ]
    go_wp2_with fail
    go_ret
    exact ⟨by rw [HX.out]; rfl, HB3.out⟩

theorem dep_any : ∀ (p : Pg), p.ser.length ≤ 1000 → ∀ (w0 : World) (B : Nat) (T : TypeId) (u : Array Value) (w : World), StV w0 B p (.iface T (.agg u)) → Below w0.heap.size w0 w →
    Calls Try.prog 50 #[.iface T (.agg u)] w (IntPost p.dep w) := by
  intro p
  induction p with
  | skip => intro _ w0 B T u w h _; obtain ⟨f, rc, kv, hm, hcf, hkv, hc⟩ := inv_parts h; cases hkv; exact dep_none T u f rc w hm hcf hc
  | asg v e => intro _ w0 B T u w h _; obtain ⟨f, rc, kv, hm, hcf, hkv, hc⟩ := inv_parts h; cases hkv; exact dep_none T u f rc w hm hcf hc
  | asm t => intro _ w0 B T u w h _; obtain ⟨f, rc, kv, hm, hcf, hkv, hc⟩ := inv_parts h; cases hkv; exact dep_none T u f rc w hm hcf hc
  | whl t a ia =>
    intro hn w0 B T u w h hb
    obtain ⟨f, rc, kv, hm, hcf, ⟨T1, u1, kv', rfl, s1, hkv⟩, hc⟩ := inv_parts h
    cases hkv
    simp [Pg.ser] at hn
    exact dep_one T T1 u u1 f rc w a.dep (by have := a.dep_le; omega) a.dep_pos hm hcf hc (fun w' h => ia (by omega) w0 B _ _ w' s1 (bnext hb h))
  | seq a b ia ib =>
    intro hn w0 B T u w h hb
    obtain ⟨f, rc, kv, hm, hcf, ⟨T1, u1, kv', rfl, s1, T2, u2, kv'', rfl, s2, hkv⟩, hc⟩ := inv_parts h
    cases hkv
    simp [Pg.ser] at hn
    exact dep_two T T1 T2 u u1 u2 f rc w a.dep b.dep (by have := a.dep_le; omega) (by have := b.dep_le; omega) a.dep_pos hm hcf hc (fun w' h => ia (by omega) w0 B _ _ w' s1 (bnext hb h)) (fun w' h => ib (by omega) w0 B _ _ w' s2 (bnext hb h))
  | cho a b ia ib =>
    intro hn w0 B T u w h hb
    obtain ⟨f, rc, kv, hm, hcf, ⟨T1, u1, kv', rfl, s1, T2, u2, kv'', rfl, s2, hkv⟩, hc⟩ := inv_parts h
    cases hkv
    simp [Pg.ser] at hn
    exact dep_two T T1 T2 u u1 u2 f rc w a.dep b.dep (by have := a.dep_le; omega) (by have := b.dep_le; omega) a.dep_pos hm hcf hc (fun w' h => ia (by omega) w0 B _ _ w' s1 (bnext hb h)) (fun w' h => ib (by omega) w0 B _ _ w' s2 (bnext hb h))
  | ite t a b ia ib =>
    intro hn w0 B T u w h hb
    obtain ⟨f, rc, kv, hm, hcf, ⟨T1, u1, kv', rfl, s1, T2, u2, kv'', rfl, s2, hkv⟩, hc⟩ := inv_parts h
    cases hkv
    simp [Pg.ser] at hn
    exact dep_two T T1 T2 u u1 u2 f rc w a.dep b.dep (by have := a.dep_le; omega) (by have := b.dep_le; omega) a.dep_pos hm hcf hc (fun w' h => ia (by omega) w0 B _ _ w' s1 (bnext hb h)) (fun w' h => ib (by omega) w0 B _ _ w' s2 (bnext hb h))
end Go.Proofs.Ytpbbdhnnaagghaa
