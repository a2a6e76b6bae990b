/-
  impl.statementsWithin: a statement and all statements of its parts, in a row of its own.
-/
import Derived.Test.YtemkndpiljfefaaPts
import Derived.RowKit3
namespace Go.Proofs.Ytemkndpiljfefaa
open Go.RowKit

theorem StVs.cells {w : World} {B : Nat} : ∀ {ps : List Pg} {vs : List Value}, StVs w B ps vs → ∀ u ∈ vs, u.oneCell' = true := by
  intro ps
  induction ps with
  | nil => intro vs h u hu; rw [show vs = [] from h] at hu; simp at hu
  | cons p ps ih =>
    rintro vs ⟨T, u, vs', rfl, h1, h2⟩ x hx
    simp only [List.mem_cons] at hx
    rcases hx with rfl | hx
    · rfl
    · exact ih h2 x hx

theorem infoStmt : (Try.prog.info? 39).map (fun i => (i.zero, i.size, i.bytes)) = some (some .nilIface, 1, 16) := by kernel_rfl

def WinPost (w0 : World) (B : Nat) (ps : List Pg) (w : World) (e : Ending) (w' : World) : Prop := ∃ sl vs, e = .returned sl ∧ StVs w0 B ps vs ∧ Row w' w.heap.size 39 sl vs ∧ Below w.heap.size w w'

set_option maxRecDepth 100000 in
set_option maxHeartbeats 2000000 in
theorem win_none (w0 : World) (B : Nat) (p : Pg) (T : TypeId) (u : Array Value) (f : Nat) (rc : Value) (w : World) (hst : StV w0 B p (.iface T (.agg u)))
    (hm : ∀ w, (method 229 T (.agg u) "loop.example/productprograms/impl.parts").run Try.prog w = .ok (f, rc) w) (hcf : ∀ (a : Array Value) w, (callFunc f a).run Try.prog w = .ok (.enter f a) w)
    (hp : ∀ w, Calls Try.prog f #[rc] w (PartsPost [] w)) :
    Calls Try.prog 34 #[.iface T (.agg u)] w (WinPost w0 B [p] w) := by
  have HP := Lib.hid hp
  have HS := Lib.hid hst
  have hB := (Below.refl w.heap.size w).alloc (Nat.le_refl _) (.cells #[.iface T (.agg u)] 39)
  have HL := Lib.hid (Row.new w 39 [.iface T (.agg u)] (by simp))
  have HB := Lib.hid hB
  clear hp hst hB
  go_enter Try.func34, Try.ntmps34
  go_wp2_with fail
  refine (HP.out _).mono ?_
  rintro e w1 ⟨sl, rfl, hrow, hb⟩
  obtain ⟨g, cap, rfl⟩ := hrow.zero
  have HL1 := Lib.hid (HL.out.kept hb)
  have HB1 := Lib.hid (bnext HB.out hb)
  clear hb hrow
  go_wp2_with fail
  refine wp_loop_rounds 1 ?_
  rw [rounds_succ]
  go_wp2_with fail
  go_ret
  exact ⟨_, _, rfl, ⟨_, _, _, rfl, HS.out, rfl⟩, HL1.out, HB1.out⟩

set_option maxRecDepth 100000 in
set_option maxHeartbeats 2000000 in
theorem win_one (w0 : World) (B : Nat) (p q : Pg) (hq1 : q.all.length ≤ 1000) (T T1 : TypeId) (u u1 : Array Value) (f : Nat) (rc : Value) (w : World) (hst : StV w0 B p (.iface T (.agg u)))
    (hm : ∀ w, (method 229 T (.agg u) "loop.example/productprograms/impl.parts").run Try.prog w = .ok (f, rc) w) (hcf : ∀ (a : Array Value) w, (callFunc f a).run Try.prog w = .ok (.enter f a) w)
    (hp : ∀ w, Calls Try.prog f #[rc] w (PartsPost [.iface T1 (.agg u1)] w))
    (c1 : ∀ w', Below w.heap.size w w' → Calls Try.prog 34 #[.iface T1 (.agg u1)] w' (WinPost w0 B q.all w')) :
    Calls Try.prog 34 #[.iface T (.agg u)] w (WinPost w0 B (p :: q.all) w) := by
  have C1 := Lib.hid c1
  clear c1
  obtain ⟨i0, hi0, hz0, hz1, hz2⟩ := info_parts infoStmt
  have HP := Lib.hid hp
  have HS := Lib.hid hst
  have hB := (Below.refl w.heap.size w).alloc (Nat.le_refl _) (.cells #[.iface T (.agg u)] 39)
  have HL := Lib.hid (Row.new w 39 [.iface T (.agg u)] (by simp))
  have HB := Lib.hid hB
  clear hp hst hB
  go_enter Try.func34, Try.ntmps34
  go_wp2_with fail
  refine (HP.out _).mono ?_
  rintro e w1 ⟨sl, rfl, hrow, hb⟩
  obtain ⟨g, cap, rfl, hg, k1⟩ := hrow.one'
  have HL1 := Lib.hid (HL.out.kept hb)
  have HB1 := Lib.hid (bnext HB.out hb)
  clear hb hrow hg
  go_wp2_with fail
  refine wp_loop_rounds 2 ?_
  rw [rounds_succ]
  go_wp2_with fail
  refine (C1.out _ HB1.out).mono ?_
  rintro e w2 ⟨sl2, vs2, rfl, hvs, hrow2, hb⟩
  have hvl := hvs.len
  obtain ⟨g2, cap2, rfl, hg2, hg2l, hnews⟩ := hrow2.news (by rw [hvl]; exact q.all_pos)
  have HL2 := Lib.hid (HL1.out.kept hb)
  have HB2 := Lib.hid (bnext HB1.out hb)
  have HV := Lib.hid hvs
  have HN := Lib.hid hnews
  have HVL : Hid (0 < vs2.length ∧ vs2.length ≤ 1000) := by show _ ∧ _; rw [hvl]; exact ⟨q.all_pos, hq1⟩
  clear hb hvs hrow2 hvl hnews k1
  go_wp2_with (at_builtin; refine wpList_append_lies _ (by rfl) _ _ _ (by rfl) w.heap.size 39 i0 _ 1 16 Try.underlying42 hi0 hz0 hz1 hz2 rfl (by omega) _ _ _ (by rfl) HL2.out ⟨g2, 0, none⟩ vs2.length cap2 vs2 (by rfl) (by simp) HN.out HV.out.cells HVL.out.1 (by have := HVL.out.2; unfold maxLen; simp; omega) (by have := HVL.out.2; simp; omega) HB2.out.size w2.heap.size rfl ?_; intro g3 cap3 w3 hown hgrow hat hlt)
  obtain ⟨hr3, hb3⟩ := Row.after HB2.out HL2.out hown hgrow
  have HR3 := Lib.hid hr3
  have HB3 := Lib.hid hb3
  clear hown hgrow hat hlt hr3 hb3
  rw [rounds_succ]
  go_wp2_with fail
  go_ret
  exact ⟨_, _, rfl, ⟨_, _, _, rfl, HS.out, HV.out⟩, HR3.out, HB3.out⟩

set_option maxRecDepth 100000 in
set_option maxHeartbeats 2000000 in
theorem win_two (w0 : World) (B : Nat) (p q q2 : Pg) (hq1 : q.all.length ≤ 1000) (hq2 : q2.all.length ≤ 1000) (T T1 T2 : TypeId) (u u1 u2 : Array Value) (f : Nat) (rc : Value) (w : World) (hst : StV w0 B p (.iface T (.agg u)))
    (hm : ∀ w, (method 229 T (.agg u) "loop.example/productprograms/impl.parts").run Try.prog w = .ok (f, rc) w) (hcf : ∀ (a : Array Value) w, (callFunc f a).run Try.prog w = .ok (.enter f a) w)
    (hp : ∀ w, Calls Try.prog f #[rc] w (PartsPost [.iface T1 (.agg u1), .iface T2 (.agg u2)] w))
    (c1 : ∀ w', Below w.heap.size w w' → Calls Try.prog 34 #[.iface T1 (.agg u1)] w' (WinPost w0 B q.all w'))
    (c2 : ∀ w', Below w.heap.size w w' → Calls Try.prog 34 #[.iface T2 (.agg u2)] w' (WinPost w0 B q2.all w')) :
    Calls Try.prog 34 #[.iface T (.agg u)] w (WinPost w0 B (p :: (q.all ++ q2.all)) w) := by
  have C1 := Lib.hid c1
  have C2 := Lib.hid c2
  clear c1 c2
  obtain ⟨i0, hi0, hz0, hz1, hz2⟩ := info_parts infoStmt
  have HP := Lib.hid hp
  have HS := Lib.hid hst
  have hB := (Below.refl w.heap.size w).alloc (Nat.le_refl _) (.cells #[.iface T (.agg u)] 39)
  have HL := Lib.hid (Row.new w 39 [.iface T (.agg u)] (by simp))
  have HB := Lib.hid hB
  clear hp hst hB
  go_enter Try.func34, Try.ntmps34
  go_wp2_with fail
  refine (HP.out _).mono ?_
  rintro e w1 ⟨sl, rfl, hrow, hb⟩
  obtain ⟨g, cap, rfl, hg, k1, k2⟩ := hrow.two'
  have HL1 := Lib.hid (HL.out.kept hb)
  have HB1 := Lib.hid (bnext HB.out hb)
  simp at hg
  have HG := Lib.hid hg
  clear hb hrow hg
  go_wp2_with fail
  refine wp_loop_rounds 3 ?_
  rw [rounds_succ]
  go_wp2_with fail
  refine (C1.out _ HB1.out).mono ?_
  rintro e w2 ⟨sl2, vs2, rfl, hvs, hrow2, hb⟩
  have hvl := hvs.len
  obtain ⟨g2, cap2, rfl, hg2, hg2l, hnews⟩ := hrow2.news (by rw [hvl]; exact q.all_pos)
  have HL2 := Lib.hid (HL1.out.kept hb)
  have HB2 := Lib.hid (bnext HB1.out hb)
  have HK2 := Lib.hid (ckeep hb k2)
  have HV := Lib.hid hvs
  have HN := Lib.hid hnews
  have HVL : Hid (0 < vs2.length ∧ vs2.length ≤ 1000) := by show _ ∧ _; rw [hvl]; exact ⟨q.all_pos, hq1⟩
  clear hb hvs hrow2 hvl hnews k1 k2
  go_wp2_with (at_builtin; refine wpList_append_lies _ (by rfl) _ _ _ (by rfl) w.heap.size 39 i0 _ 1 16 Try.underlying42 hi0 hz0 hz1 hz2 rfl (by omega) _ _ _ (by rfl) HL2.out ⟨g2, 0, none⟩ vs2.length cap2 vs2 (by rfl) (by simp) HN.out HV.out.cells HVL.out.1 (by have := HVL.out.2; unfold maxLen; simp; omega) (by have := HVL.out.2; simp; omega) HB2.out.size w2.heap.size rfl ?_; intro g3 cap3 w3 hown hgrow hat hlt)
  obtain ⟨hr3, hb3⟩ := Row.after HB2.out HL2.out hown hgrow
  have k3 := hgrow.cell HK2.out (by have := HG.out; simp [Value.ownBlock]; omega)
  have hg3 : g3 ≠ g := by
    have h1 := HG.out
    have h2 := World.block_lt_of_cell? _ _ HK2.out
    simp at h2
    rcases hat with h | h
    · simp [Value.ownBlock] at h; omega
    · omega
  have HG3 := Lib.hid hg3
  have HR3 := Lib.hid hr3
  have HB3 := Lib.hid hb3
  clear hown hgrow hat hlt hr3 hb3 HK2 hg3
  rw [rounds_succ]
  go_wp2_with fail
  refine (C2.out _ HB3.out).mono ?_
  rintro e w4 ⟨sl4, vs4, rfl, hvs, hrow4, hb⟩
  have hvl := hvs.len
  obtain ⟨g4, cap4, rfl, hg4, hg4l, hnews⟩ := hrow4.news (by rw [hvl]; exact q2.all_pos)
  have HL4 := Lib.hid (HR3.out.kept hb)
  have HB4 := Lib.hid (bnext HB3.out hb)
  have HV4 := Lib.hid hvs
  have HN4 := Lib.hid hnews
  have HVL4 : Hid (0 < vs4.length ∧ vs4.length ≤ 1000) := by show _ ∧ _; rw [hvl]; exact ⟨q2.all_pos, hq2⟩
  clear hb hvs hrow4 hvl hnews k3
  have hln : ([Value.iface T (.agg u)] ++ vs2).length ≤ 1001 := by have := HVL.out.2; simp; omega
  go_wp2_with (at_builtin; refine wpList_append_lies _ (by rfl) _ _ _ (by rfl) w.heap.size 39 i0 _ 1 16 Try.underlying42 hi0 hz0 hz1 hz2 rfl (by omega) _ _ _ (by simp; rfl) HL4.out ⟨g4, 0, none⟩ vs4.length cap4 vs4 (by rfl) (by simp) HN4.out HV4.out.cells HVL4.out.1 (by have := HVL4.out.2; unfold maxLen; omega) (by have := HVL4.out.2; omega) HB4.out.size w4.heap.size rfl ?_; intro g5 cap5 w5 hown hgrow hat hlt)
  obtain ⟨hr5, hb5⟩ := Row.after HB4.out HL4.out hown hgrow
  have HR5 := Lib.hid hr5
  have HB5 := Lib.hid hb5
  clear hown hgrow hat hlt hr5 hb5
  rw [rounds_succ]
  go_wp2_with fail
  go_ret
  exact ⟨_, _, rfl, ⟨_, _, _, rfl, HS.out, HV.out.append HV4.out⟩, by simpa using HR5.out, HB5.out⟩

theorem win_any : ∀ (p : Pg), p.ser.length ≤ 1000 → ∀ (w0 : World) (B : Nat) (T : TypeId) (u : Array Value) (w : World), StV w0 B p (.iface T (.agg u)) → Below w0.heap.size w0 w →
    Calls Try.prog 34 #[.iface T (.agg u)] w (WinPost w0 B p.all w) := by
  intro p
  induction p with
  | skip => intro _ w0 B T u w h _; obtain ⟨f, rc, kv, hm, hcf, hkv, hc⟩ := inv_parts h; cases hkv; exact win_none w0 B .skip T u f rc w h hm hcf hc
  | asg v e => intro _ w0 B T u w h _; obtain ⟨f, rc, kv, hm, hcf, hkv, hc⟩ := inv_parts h; cases hkv; exact win_none w0 B (.asg v e) T u f rc w h hm hcf hc
  | asm t => intro _ w0 B T u w h _; obtain ⟨f, rc, kv, hm, hcf, hkv, hc⟩ := inv_parts h; cases hkv; exact win_none w0 B (.asm t) T u f rc w h hm hcf hc
  | whl t a ia =>
    intro hn w0 B T u w h hb
    obtain ⟨f, rc, kv, hm, hcf, ⟨T1, u1, kv', rfl, s1, hkv⟩, hc⟩ := inv_parts h
    cases hkv
    simp [Pg.ser] at hn
    exact win_one w0 B (.whl t a) a (by have := a.all_le; omega) T T1 u u1 f rc w h hm hcf hc (fun w' h => ia (by omega) w0 B _ _ w' s1 (bnext hb h))
  | seq a b ia ib =>
    intro hn w0 B T u w h hb
    obtain ⟨f, rc, kv, hm, hcf, ⟨T1, u1, kv', rfl, s1, T2, u2, kv'', rfl, s2, hkv⟩, hc⟩ := inv_parts h
    cases hkv
    simp [Pg.ser] at hn
    exact win_two w0 B (.seq a b) a b (by have := a.all_le; omega) (by have := b.all_le; omega) T T1 T2 u u1 u2 f rc w h hm hcf hc (fun w' h => ia (by omega) w0 B _ _ w' s1 (bnext hb h)) (fun w' h => ib (by omega) w0 B _ _ w' s2 (bnext hb h))
  | cho a b ia ib =>
    intro hn w0 B T u w h hb
    obtain ⟨f, rc, kv, hm, hcf, ⟨T1, u1, kv', rfl, s1, T2, u2, kv'', rfl, s2, hkv⟩, hc⟩ := inv_parts h
    cases hkv
    simp [Pg.ser] at hn
    exact win_two w0 B (.cho a b) a b (by have := a.all_le; omega) (by have := b.all_le; omega) T T1 T2 u u1 u2 f rc w h hm hcf hc (fun w' h => ia (by omega) w0 B _ _ w' s1 (bnext hb h)) (fun w' h => ib (by omega) w0 B _ _ w' s2 (bnext hb h))
  | ite t a b ia ib =>
    intro hn w0 B T u w h hb
    obtain ⟨f, rc, kv, hm, hcf, ⟨T1, u1, kv', rfl, s1, T2, u2, kv'', rfl, s2, hkv⟩, hc⟩ := inv_parts h
    cases hkv
    simp [Pg.ser] at hn
    exact win_two w0 B (.ite t a b) a b (by have := a.all_le; omega) (by have := b.all_le; omega) T T1 T2 u u1 u2 f rc w h hm hcf hc (fun w' h => ia (by omega) w0 B _ _ w' s1 (bnext hb h)) (fun w' h => ib (by omega) w0 B _ _ w' s2 (bnext hb h))
end Go.Proofs.Ytemkndpiljfefaa
