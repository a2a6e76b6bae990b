/-
  StatementsOf: the statements that a program executes in sequence; the program and the model.
-/
import Derived.Test.YtheclmdpiijakaaDoorTxO
import Derived.Test.YtheclmdpiijakaaDoorTas
import Derived.Test.YtheclmdpiijakaaDoorSpO
import Derived.Test.YtheclmdpiijakaaDoorMark
import Derived.RowKit3
import Derived.Deep.RegionLaw
import Derived.Deep.AppendLies
namespace Go.Proofs.YtheclmdpiijakaaDoor
open Go.RowKit Tm

/-- The statements of a program, none of which is a sequence. -/
def exq : Pg → List Pg
  | .seq a b => exq a ++ exq b
  | p => [p]
theorem exq_pos (p : Pg) : 0 < (exq p).length := by
  induction p <;> simp [exq]
  omega
theorem exq_le (p : Pg) : (exq p).length ≤ p.ser.length := by
  induction p <;> simp [exq, Pg.ser] <;> omega
theorem exq_mem {wide : Bool} {p q : Pg} (hp : p.ok wide) (hq : q ∈ exq p) : q.ok wide ∧ q.ser.length ≤ p.ser.length := by
  induction p with
  | seq a b ia ib =>
    rcases List.mem_append.1 (show q ∈ exq a ++ exq b from hq) with h | h
    · have := ia hp.1 h; exact ⟨this.1, by simp [Pg.ser]; omega⟩
    · have := ib hp.2 h; exact ⟨this.1, by simp [Pg.ser]; omega⟩
  | _ => obtain rfl := List.mem_singleton.1 hq; exact ⟨hp, Nat.le_refl _⟩

theorem sto_cells {w : World} {B : Nat} : ∀ {ps : List Pg} {vs : List Value}, StVs w B ps vs → ∀ u ∈ vs, u.oneCell' = true := by
  intro ps
  induction ps with
  | nil => intro vs h u hu; rw [show vs = [] from h] at hu; simp at hu
  | cons p ps ih =>
    rintro vs ⟨T, u, vs', rfl, h1, h2⟩ x hx
    simp only [List.mem_cons] at hx
    rcases hx with rfl | hx
    · rfl
    · exact ih h2 x hx
theorem infoSto : (Tryd.prog.info? 89).map (fun i => (i.zero, i.size, i.bytes)) = some (some .nilIface, 1, 16) := by kernel_rfl

def ExPost (w0 : World) (B : Nat) (ps : List Pg) (w : World) (e : Ending) (w' : World) : Prop := ∃ sl vs, e = .returned sl ∧ StVs w0 B ps vs ∧ Row w' w.heap.size 89 sl vs ∧ Below w.heap.size w w'

set_option maxRecDepth 100000 in
set_option maxHeartbeats 2000000 in
theorem ex_leaf (w0 : World) (B : Nat) (p : Pg) (T : TypeId) (u : Array Value) (w : World) (hst : StV w0 B p (.iface T (.agg u)))
    (hT : ∀ W, (Instr.typeAssert (.iface T (.agg u)) 89 130 true).run Tryd.prog W = .ok (.tuple #[.agg #[.nilIface, .nilIface], .bool false]) W) :
    Calls Tryd.prog 64 #[.iface T (.agg u)] w (ExPost w0 B [p] w) := by
  have HS := Lib.hid hst
  clear hst
  have HR := Lib.hid (Row.mono (Row.new (w.alloc (.cells #[.nilIface, .nilIface] 130)) 89 [.iface T (.agg u)] (by simp)) (show w.heap.size ≤ _ by simp))
  go_enter Tryd.func64, Tryd.ntmps64
  go_wp2_with fail
  go_ret
  exact ⟨_, _, rfl, ⟨_, _, _, rfl, HS.out, rfl⟩, by simpa using HR.out, bput (bput (Below.refl _ _) _) _⟩

set_option maxRecDepth 100000 in
set_option maxHeartbeats 2000000 in
theorem ex_seq (w0 : World) (B : Nat) (q q2 : Pg) (hn1' : (exq q).length ≤ 1000) (hn2' : (exq q2).length ≤ 1000) (T1 T2 : TypeId) (u1 u2 : Array Value) (w : World)
    (c1 : ∀ w', Below w.heap.size w w' → Calls Tryd.prog 64 #[.iface T1 (.agg u1)] w' (ExPost w0 B (exq q) w'))
    (c2 : ∀ w', Below w.heap.size w w' → Calls Tryd.prog 64 #[.iface T2 (.agg u2)] w' (ExPost w0 B (exq q2) w')) :
    Calls Tryd.prog 64 #[.iface 130 (.agg #[.iface T1 (.agg u1), .iface T2 (.agg u2)])] w (ExPost w0 B (exq q ++ exq q2) w) := by
  have C1 := Lib.hid c1
  have C2 := Lib.hid c2
  have TS := tas_seq_seq (.agg #[.iface T1 (.agg u1), .iface T2 (.agg u2)])
  clear c1 c2
  obtain ⟨i0, hi0, hz0, hz1, hz2⟩ := info_parts infoSto
  have bx := (Below.refl w.heap.size w).alloc (Nat.le_refl _) (.cells #[.iface T1 (.agg u1), .iface T2 (.agg u2)] 130)
  have t0 := Blk.new w #[.iface T1 (.agg u1), .iface T2 (.agg u2)] 130
  go_enter Tryd.func64, Tryd.ntmps64
  go_wp2_with fail
  generalize w.alloc (.cells #[.iface T1 (.agg u1), .iface T2 (.agg u2)] 130) = W0 at *
  have q0 : W0.cell? ⟨w.heap.size, 0, none⟩ = some (.iface T1 (.agg u1)) := t0.cell 0
  have q1 : W0.cell? ⟨w.heap.size, 1, none⟩ = some (.iface T2 (.agg u2)) := t0.cell 1
  have bx' := bx.drew
  have d1 : W0.drew.cell? ⟨w.heap.size, 1, none⟩ = some (.iface T2 (.agg u2)) := q1
  clear t0 TS
  go_region_law (first
    | (refine step_append_lies _ (by rfl) _ _ _ (by rfl) w.heap.size 89 i0 _ 1 16 Tryd.underlying92 hi0 hz0 hz1 hz2 rfl (by omega) (.slice (some ⟨g1, 0, none⟩) vs1.length cap1) vs1.length vs1 (by simp [Act.eval]) hL ⟨g2, 0, none⟩ vs2.length cap2 vs2 (by first | rfl | simp [Act.eval, Act.put]) (by simp) hn2 (sto_cells hv2) (by rw [hl2.out]; exact exq_pos q2) (by rw [hl1.out, hl2.out]; unfold maxLen; omega) (by rw [hl1.out, hl2.out]; omega) hB3.size w3.heap.size rfl ?_; intro g3 cap3 w4 hown hgrow hat hlt)
    | (go_simp; go_wp2_with (first
      | (go_at_call 64; (with_reducible refine (C1.out _ bx').mono ?_); rintro e w2 ⟨s1, vs1, rfl, hv1, hr1, hq⟩; have z1 := ckeep hq d1; have hB2 := bnext bx' hq; have hl1 := Lib.hid hv1.len;
         obtain ⟨g1, cap1, rfl, hg1, hg1l, hn1⟩ := hr1.news (by rw [hl1.out]; exact exq_pos q))
      | (go_at_call 64; (with_reducible refine (C2.out _ hB2).mono ?_); rintro e w3 ⟨s2, vs2, rfl, hv2, hr2, hq2⟩; have hB3 := bnext hB2 hq2; have hl2 := Lib.hid hv2.len;
         obtain ⟨g2, cap2, rfl, hg2, hg2l, hn2⟩ := hr2.news (by rw [hl2.out]; exact exq_pos q2); have hL := (hr1.mono bx'.size).kept hq2))))
  all_goals
    obtain ⟨hr3, hb3⟩ := Row.after hB3 hL hown hgrow
    have HR3 := Lib.hid hr3
    have HB3 := Lib.hid hb3
    have HV := Lib.hid (hv1.append hv2)
    clear hown hgrow hat hlt hr3 hb3 hn1 hn2 hv1 hv2 hr1 hr2 hL
    go_wp2_with fail
    go_ret
    exact ⟨_, _, rfl, HV.out, HR3.out, HB3.out⟩

theorem ex_any : ∀ (p : Pg), p.ser.length ≤ 1000 → ∀ (w0 : World) (B : Nat) (T : TypeId) (u : Array Value) (w : World), StV w0 B p (.iface T (.agg u)) → Below w0.heap.size w0 w →
    Calls Tryd.prog 64 #[.iface T (.agg u)] w (ExPost w0 B (exq p) w) := by
  intro p
  induction p with
  | skip => intro _ w0 B T u w h _; have h' := h; cases (show Value.iface T (.agg u) = _ from h'); exact ex_leaf w0 B .skip _ _ w h (tas_seq_skip _)
  | asg v e => intro _ w0 B T u w h _; obtain ⟨_, _, h1, _⟩ := id h; cases h1; exact ex_leaf w0 B (.asg v e) _ _ w h (tas_seq_asg _)
  | asm t => intro _ w0 B T u w h _; obtain ⟨_, _, h1, _⟩ := id h; cases h1; exact ex_leaf w0 B (.asm t) _ _ w h (tas_seq_asm _)
  | whl t a ia => intro _ w0 B T u w h _; obtain ⟨_, _, _, h1, _⟩ := id h; cases h1; exact ex_leaf w0 B (.whl t a) _ _ w h (tas_seq_whl _)
  | cho a b ia ib => intro _ w0 B T u w h _; obtain ⟨_, _, h1, _⟩ := id h; cases h1; exact ex_leaf w0 B (.cho a b) _ _ w h (tas_seq_cho _)
  | ite t a b ia ib => intro _ w0 B T u w h _; obtain ⟨_, _, _, _, h1, _⟩ := id h; cases h1; exact ex_leaf w0 B (.ite t a b) _ _ w h (tas_seq_ite _)
  | seq a b ia ib =>
    intro hn w0 B T u w h hb
    obtain ⟨va, vb, h1, ha, hb2⟩ := h
    obtain ⟨T1, u1, rfl⟩ := ha.forms
    obtain ⟨T2, u2, rfl⟩ := hb2.forms
    cases h1
    simp [Pg.ser] at hn
    exact ex_seq w0 B a b (by have := exq_le a; omega) (by have := exq_le b; omega) T1 T2 u1 u2 w (fun w' h => ia (by omega) w0 B _ _ w' ha (bnext hb h)) (fun w' h => ib (by omega) w0 B _ _ w' hb2 (bnext hb h))

def StoPost (vs : List Value) (w : World) (e : Ending) (w' : World) : Prop := ∃ sl, e = .returned sl ∧ Row w' w.heap.size 9 sl vs ∧ Below w.heap.size w w'
theorem infoStrO : (Tryd.prog.info? 9).map (fun i => (i.zero, i.size, i.bytes)) = some (some (.string ⟨#[]⟩), 1, 16) := by kernel_rfl

set_option maxHeartbeats 1000000 in
theorem implSto_no (s : ByteArray) (w : World) (h : ¬ (PValid false s.data.toList ∧ s.size ≤ 200)) :
    Calls Tryd.prog 26 #[.string s] w (StoPost (strs []) w) := by
  have HC := fun w => Lib.hid (prog_no s w h)
  clear h
  go_enter Tryd.func26, Tryd.ntmps26
  go_wp2_with fail
  refine (HC _).out.mono ?_
  rintro e w1 ⟨rfl, hb⟩
  have HB := Lib.hid hb
  clear hb
  go_wp2_with fail
  go_ret
  exact ⟨_, rfl, Row.nil _ _ _, HB.out⟩

set_option maxRecDepth 100000 in
set_option maxHeartbeats 4000000 in
theorem implSto_yes (s : ByteArray) (w : World) {p : Pg} (hp : p.ok false) (hs : s.data.toList = p.ser) (hl : s.size ≤ 200) :
    Calls Tryd.prog 26 #[.string s] w (StoPost (strs ((exq p).map Pg.ser)) w) := by
  obtain ⟨i0, hi0, hz0, hz1, hz2⟩ := info_parts infoStrO
  have hsz : p.ser.length ≤ 200 := by have := congrArg List.length hs; simp at this; omega
  have HC := fun w => Lib.hid (prog_yes s w hp hs hl)
  have hpl : (exq p).length ≤ 200 := Nat.le_trans (exq_le p) hsz
  have HQ : Hid (∀ q ∈ exq p, q.ok false ∧ q.ser.length ≤ 1000) := fun q hq => by obtain ⟨h1, h2⟩ := exq_mem hp hq; exact ⟨h1, by omega⟩
  have HE := Lib.hid (ex_any p (by omega))
  clear hs hp hsz
  go_enter Tryd.func26, Tryd.ntmps26
  go_wp2_with fail
  refine (HC _).out.mono ?_
  rintro e w1 ⟨T, u, rfl, hst, hb⟩
  have HB := Lib.hid hb
  have HX := Lib.hid (HE.out w1 _ T u w1 hst (Below.refl _ _))
  clear hb hst HE
  go_wp2_with fail
  refine HX.out.mono ?_
  rintro e w2 ⟨sl, kv, rfl, hkv, hrow, hb⟩
  have HKV := Lib.hid hkv
  obtain ⟨a, cap, rfl, hat⟩ := stvs_cells HKV.out hrow
  have HA := Lib.hid hat
  have HB2 := Lib.hid (bnext HB.out hb)
  have HB1 := Lib.hid hb
  clear hb hat hrow hkv HX
  generalize exq p = ps at *
  go_wp2_with fail
  go_loopw [5, 18] (fun v5 v18 wr => ∃ m : Nat, m ≤ ps.length ∧ v18 = .int .i64 m ∧ Hid (Row wr w2.heap.size 9 v5 (strs ((ps.take m).map Pg.ser))) ∧ Hid (Below w2.heap.size w2 wr)) (fun _ v18 _ => ps.length - (intOf v18).toNat)
  case atStart => exact ⟨0, Nat.zero_le _, rfl, Row.nil _ _ _, Below.refl _ _⟩
  case round =>
    obtain ⟨m, hm, rfl, HR1, HB3⟩ := hrel
    by_cases hlt : m < ps.length
    · obtain ⟨g, T1, u1, rfl, _, hc, hst⟩ := HA.out m hlt
      have hc := ckeep HB3.out hc
      obtain ⟨hqok, hqn⟩ := HQ.out _ (List.getElem_mem hlt)
      have HTX := Lib.hid (tx_any ps[m] hqok hqn w1 _ T1 u1 wr hst (bnext HB1.out HB3.out))
      have hXn : strs ((ps.take (m + 1)).map Pg.ser) = strs ((ps.take m).map Pg.ser) ++ [.string (bs ps[m].ser)] := by
        unfold strs
        rw [List.take_succ_eq_append_getElem hlt, List.map_append, List.map_append]; rfl
      have HXN := Lib.hid hXn
      have hxl : (strs ((ps.take m).map Pg.ser)).length ≤ 200 := by simp [strs]; omega
      have h0 : (0 : Int) ≤ (m : Int) := by omega
      have h1 : (m : Int) < (ps.length : Int) := by omega
      clear hXn hqok hst
      generalize strs ((ps.take m).map Pg.ser) = X at *
      generalize bs ps[m].ser = R at *
      go_wp2_with fail
      refine HTX.out.mono ?_
      rintro e W1 ⟨rfl, hb⟩
      have HRK := Lib.hid (HR1.out.kept hb)
      have HBK := Lib.hid (bnext HB3.out hb)
      clear hb hc
      go_wp2_with (at_builtin; refine wpList_append_lies _ (by rfl) _ _ _ (by rfl) w2.heap.size 9 i0 _ 1 16 Tryd.underlying43 hi0 hz0 hz1 hz2 rfl (by omega) _ _ _ (by rfl) (World.ownsRow.alloc HRK.out _) ⟨W1.heap.size, 0, none⟩ 1 1 [.string R] (by rfl) (by rfl) (World.news_of_block (cs := #[.string R]) (t := 9) (fr := (0, 0)) (heap_alloc_new W1 _)) (by simp [Value.oneCell']) (by omega) (by unfold maxLen; omega) (by omega) (by have := HBK.out.size; simp; omega) (W1.heap.size + 1) (by simp) ?_; intro g3 cap3 w3 hown hgrow hat hlt2)
      obtain ⟨hr3, hb3⟩ := Row.after (HBK.out.alloc HBK.out.size _) (Row.kept HRK.out ((Below.refl _ _).alloc (Nat.le_refl _) _)) hown hgrow
      exact ⟨⟨m + 1, hlt, by go_num, by rw [HXN.out]; exact hr3, hb3⟩, by simp [intOf]; omega⟩
    · have hme : m = ps.length := by omega
      have hr := HR1.out
      rw [hme, List.take_of_length_le (Nat.le_refl _)] at hr
      have HF := Lib.hid hr
      have h1 : ¬ (m : Int) < (ps.length : Int) := by omega
      clear hr HR1 hme
      go_wp2_with fail
      go_ret
      exact ⟨_, rfl, HF.out.mono HB2.out.size, bnext HB2.out HB3.out⟩

/-! ### The model -/
set_option maxHeartbeats 1000000 in
theorem st7_leaf (s : ByteArray) (w : World) (hz : 0 < s.size) (hc : s[0] ≠ 59) :
    Calls Tryd.prog 62 #[.string s] w (StoPost [.string s] w) := by
  have hc2 : ((s[0].toNat : Int) == 59) = false := by
    rw [beq_eq_false_iff_ne]
    intro h
    exact hc (UInt8.toNat_inj.1 (show s[0].toNat = 59 by omega))
  have hz2 : (0 : Int) < (s.size : Int) := by omega
  go_enter Tryd.func62, Tryd.ntmps62
  go_wp2_with fail
  go_ret
  exact ⟨_, rfl, Row.new _ 9 [.string s] (by simp), bput (Below.refl _ _) _⟩

set_option maxRecDepth 100000 in
set_option maxHeartbeats 2000000 in
theorem st7_seq (s : ByteArray) (a b : List UInt8) (ls ms : List (List UInt8)) (w : World) (hz : 0 < s.size) (hc : s[0] = 59) (hls : 0 < ls.length ∧ ls.length ≤ 1000) (hms : 0 < ms.length ∧ ms.length ≤ 1000)
    (hp : ∀ w, Calls Tryd.prog 96 #[.string s, .bool false] w (RowPost 9 (strs [a, b]) w))
    (c1 : ∀ w, Calls Tryd.prog 62 #[.string (bs a)] w (StoPost (strs ls) w))
    (c2 : ∀ w, Calls Tryd.prog 62 #[.string (bs b)] w (StoPost (strs ms) w)) :
    Calls Tryd.prog 62 #[.string s] w (StoPost (strs (ls ++ ms)) w) := by
  have C1 := fun w => Lib.hid (c1 w)
  have C2 := fun w => Lib.hid (c2 w)
  have HP := fun w => Lib.hid (hp w)
  clear c1 c2 hp
  obtain ⟨i0, hi0, hz0, hz1, hz2⟩ := info_parts infoStrO
  have hc1 : (s[0].toNat : Int) = 59 := by rw [hc]; rfl
  have hz' : (0 : Int) < (s.size : Int) := by omega
  have hla := Lib.hid (show (strs ls).length = ls.length by simp [strs])
  have hlb := Lib.hid (show (strs ms).length = ms.length by simp [strs])
  have hcs : ∀ u ∈ strs ms, u.oneCell' = true := by
    intro u hu
    unfold strs at hu
    obtain ⟨x, _, rfl⟩ := List.mem_map.1 hu
    rfl
  have hcs := Lib.hid hcs
  go_enter Tryd.func62, Tryd.ntmps62
  go_wp2_with fail
  refine (HP _).out.mono ?_
  rintro e w1 ⟨sl, rfl, hrow, hb⟩
  obtain ⟨g, cap, rfl, hg, k1, k2⟩ := hrow.two'
  have hB1 := hb
  have hB1' := hb.drew
  have hbb := (Below.refl w1.heap.size w1).drew
  have d2 : w1.drew.cell? ⟨g, 1, none⟩ = some (.string (bs b)) := k2
  clear hb hrow HP
  go_wp2_with fail
  go_region_law (first
    | (refine step_append_lies _ (by rfl) _ _ _ (by rfl) w.heap.size 9 i0 _ 1 16 Tryd.underlying43 hi0 hz0 hz1 hz2 rfl (by omega) (.slice (some ⟨g1, 0, none⟩) (strs ls).length cap1) (strs ls).length (strs ls) (by simp [Act.eval]) hL ⟨g2, 0, none⟩ (strs ms).length cap2 (strs ms) (by first | rfl | simp [Act.eval, Act.put]) (by simp) hn2 hcs.out (by rw [hlb.out]; exact hms.1) (by rw [hla.out, hlb.out]; unfold maxLen; omega) (by rw [hla.out, hlb.out]; omega) hB3.size w3.heap.size rfl ?_; intro g3 cap3 w4 hown hgrow hat hlt)
    | (go_simp; go_wp2_with (first
      | (go_at_call 62; (with_reducible refine (C1 _).out.mono ?_); rintro e w2 ⟨s1, rfl, hr1, hq⟩; have z1 := ckeep hq d2; have hB2 := bnext hB1' hq;
         obtain ⟨g1, cap1, rfl, hg1, hg1l, hn1⟩ := hr1.news (by rw [hla.out]; exact hls.1))
      | (go_at_call 62; (with_reducible refine (C2 _).out.mono ?_); rintro e w3 ⟨s2, rfl, hr2, hq2⟩; have hB3 := bnext hB2 hq2;
         obtain ⟨g2, cap2, rfl, hg2, hg2l, hn2⟩ := hr2.news (by rw [hlb.out]; exact hms.1); have hL := (hr1.mono hB1'.size).kept hq2))))
  all_goals
    obtain ⟨hr3, hb3⟩ := Row.after hB3 hL hown hgrow
    have HR3 := Lib.hid hr3
    have HB3 := Lib.hid hb3
    clear hown hgrow hat hlt hr3 hb3 hn1 hn2 hr1 hr2 hL
    go_wp2_with fail
    go_ret
    exact ⟨_, rfl, by have := HR3.out; unfold strs at *; rw [List.map_append]; exact this, HB3.out⟩

theorem st7_any : ∀ (p : Pg), p.ok false → ∀ (s : ByteArray), s.data.toList = p.ser → s.size ≤ 1000 → ∀ w, Calls Tryd.prog 62 #[.string s] w (StoPost (strs ((exq p).map Pg.ser)) w) := by
  intro p
  have leaf : ∀ (p : Pg), exq p = [p] → p.letter ≠ 59 → ∀ (s : ByteArray), s.data.toList = p.ser → s.size ≤ 1000 → ∀ w, Calls Tryd.prog 62 #[.string s] w (StoPost (strs ((exq p).map Pg.ser)) w) := by
    intro p he hl s hs hz w
    obtain ⟨h0, h1⟩ := byte0 (s := s) (c := p.letter) (r := p.hd ++ p.pks.flatMap Pg.ser) (by rw [hs, Pg.ser_eq])
    have := st7_leaf s w h0 (by rw [h1]; exact hl)
    rw [he]
    have e : strs ([p].map Pg.ser) = [.string s] := by
      unfold strs
      simp only [List.map_cons, List.map_nil]
      rw [← hs]
      congr 2
    rw [e]; exact this
  induction p with
  | seq a b ia ib =>
    intro hp s hs hz w
    obtain ⟨h0, h1⟩ := byte0 (s := s) (c := 59) (r := a.ser ++ b.ser) (by rw [hs]; rfl)
    have hl : s.size = 1 + a.ser.length + b.ser.length := by have := congrArg List.length hs; simp [Pg.ser] at this; omega
    have := st7_seq s a.ser b.ser ((exq a).map Pg.ser) ((exq b).map Pg.ser) w h0 h1 (by have := exq_pos a; have := exq_le a; simp; omega) (by have := exq_pos b; have := exq_le b; simp; omega)
      (fun w => parts_any false (.seq a b) hp s hs (by omega) w) (fun w => ia hp.1 (bs a.ser) (by simp [bs]) (by rw [bs_size]; omega) w) (fun w => ib hp.2 (bs b.ser) (by simp [bs]) (by rw [bs_size]; omega) w)
    rw [show (exq (.seq a b)).map Pg.ser = (exq a).map Pg.ser ++ (exq b).map Pg.ser by simp [exq]]
    exact this
  | skip => intro _; exact leaf .skip rfl (by decide)
  | asg v e => intro _; exact leaf (.asg v e) rfl (by simp [Pg.letter])
  | asm t => intro _; exact leaf (.asm t) rfl (by simp [Pg.letter])
  | whl t a ia => intro _; exact leaf (.whl t a) rfl (by simp [Pg.letter])
  | cho a b ia ib => intro _; exact leaf (.cho a b) rfl (by simp [Pg.letter])
  | ite t a b ia ib => intro _; exact leaf (.ite t a b) rfl (by simp [Pg.letter])

set_option maxHeartbeats 1000000 in
theorem specSto_yes (s : ByteArray) (w : World) {p : Pg} (hp : p.ok false) (hs : s.data.toList = p.ser) (hl : s.size ≤ 200) :
    Calls Tryd.prog 25 #[.string s] w (StoPost (strs ((exq p).map Pg.ser)) w) := by
  have HV := fun w => Lib.hid (specPV_yes s w ⟨p, hp, hs⟩ hl)
  have HC := fun w => Lib.hid (st7_any p hp s hs (by omega) w)
  clear hs
  go_enter Tryd.func25, Tryd.ntmps25
  go_wp2_with fail
  refine (HV _).out.mono ?_
  rintro e w1 ⟨rfl, n, rfl⟩
  go_wp2_with fail
  refine (HC _).out.mono ?_
  rintro e w2 ⟨sl, rfl, hrow, hb⟩
  have HB := Lib.hid (bnext (bdrewN (Below.refl w.heap.size w) n) hb)
  have HR : Hid (Row w2 w.heap.size 9 sl (strs ((exq p).map Pg.ser))) := by
    show Row _ _ _ _ _
    exact hrow.mono (by simp)
  clear hb hrow
  go_wp2_with fail
  go_ret
  exact ⟨_, rfl, HR.out, HB.out⟩
set_option maxHeartbeats 1000000 in
theorem specSto_no (s : ByteArray) (w : World) (h : ¬ (PValid false s.data.toList ∧ s.size ≤ 200)) :
    Calls Tryd.prog 25 #[.string s] w (StoPost (strs []) w) := by
  have HV := fun w => Lib.hid (specPV_no s w h)
  have HN := Lib.hid (fun n => Row.kept (Row.new (w.drewN n) 9 [] (by simp)) (Below.refl _ _))
  clear h
  go_enter Tryd.func25, Tryd.ntmps25
  go_wp2_with fail
  refine (HV _).out.mono ?_
  rintro e w1 ⟨rfl, n, rfl⟩
  go_wp2_with fail
  go_ret
  exact ⟨_, rfl, by have := HN.out n; show Row _ _ _ _ []; simpa using this, bput (bdrewN (Below.refl w.heap.size w) n) _⟩
end Go.Proofs.YtheclmdpiijakaaDoor
