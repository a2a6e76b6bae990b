/-
  The model's words on all statements of a valid program: l3Size, l3Depth, l3Heads, l3Plain; SizeOf, DepthOf, HeadOf, LoopCount, IsPlain, JoinPrograms.
-/
import Derived.Test.YtemkndpiljfefaaSpP
namespace Go.Proofs.Ytemkndpiljfefaa
open Go.RowKit Tm

theorem bs_list (l : List UInt8) : (bs l).data.toList = l := by simp [bs]
theorem Pg.all_eq (p : Pg) : p.all = p :: p.pks.flatMap Pg.all := by cases p <;> simp [Pg.all, Pg.pks]
theorem Pg.dep_eq (p : Pg) : p.dep = (p.pks.map Pg.dep).foldl max 0 + 1 := by cases p <;> simp [Pg.dep, Pg.pks]
theorem mem_len {p q : Pg} (h : q ∈ p.pks) : q.ser.length < p.ser.length := by
  cases p <;> simp [Pg.pks] at h
  · rcases h with rfl | rfl <;> (simp [Pg.ser]; omega)
  · rcases h with rfl | rfl <;> (simp [Pg.ser]; omega)
  · subst h; simp [Pg.ser]; omega
  · rcases h with rfl | rfl <;> (simp [Pg.ser]; omega)
theorem pks_le (p : Pg) : p.pks.length ≤ 2 := by cases p <;> simp [Pg.pks]


/-- The parts' row, as the loops read it. -/
theorem strs_at {w : World} {B : Nat} {T : TypeId} {v : Value} {ps : List Pg} (h : Row w B T v (strs (ps.map Pg.ser))) : ∃ a cap, v = .slice a ps.length cap ∧ ∀ (m : Nat) (hm : m < ps.length), ∃ g, a = some ⟨g, 0, none⟩ ∧ B ≤ g ∧ w.cell? ⟨g, m, none⟩ = some (.string (bs ps[m].ser)) := by
  have hl : (strs (ps.map Pg.ser)).length = ps.length := by simp [strs]
  rcases h.cases with ⟨h1, h2⟩ | ⟨g, cap, h1, hb, _, h3⟩
  · have : ps = [] := by
      rw [h2] at hl
      exact List.eq_nil_of_length_eq_zero hl.symm
    subst this
    exact ⟨_, _, h1, fun m hm => by simp at hm⟩
  · rw [hl] at h1
    exact ⟨_, _, h1, fun m hm => ⟨g, rfl, hb, h3 m _ (by simp [strs, List.getElem?_eq_getElem hm])⟩⟩

theorem foldl_max (l : List Nat) (a : Nat) : a ≤ l.foldl max a := by
  induction l generalizing a with
  | nil => simp
  | cons x l ih => simp only [List.foldl_cons]; have := ih (max a x); omega
/-- The heads of all statements, and their letters. -/
def HeadsPost (p : Pg) (w : World) (e : Ending) (w' : World) : Prop := ∃ sl, e = .returned (.tuple #[sl, .string (bs (p.all.map Pg.letter))]) ∧ Row w' w.heap.size 9 sl (strs (p.all.map Pg.hd)) ∧ Below w.heap.size w w'

set_option maxRecDepth 100000 in
set_option maxHeartbeats 4000000 in
theorem heads_of (wide : Bool) : ∀ (n : Nat) (p : Pg) (w : World), p.ser.length ≤ n → n ≤ 1000 → p.ok wide → Calls Try.prog 54 #[.string (bs p.ser), .bool wide] w (HeadsPost p w) := by
  intro n
  induction n with
  | zero => intro p w hn; rw [p.ser_eq] at hn; simp at hn
  | succ n ih =>
    intro p w hn hn2 hp
    obtain ⟨i0, hi0, hz0, hz1', hz2'⟩ := info_parts infoStr
    have HI : Hid (∀ q ∈ p.pks, ∀ w, Calls Try.prog 54 #[.string (bs q.ser), .bool wide] w (HeadsPost q w)) := fun q hq w => ih q w (by have := mem_len hq; omega) (by omega) (pok_mem hp hq)
    have HP := fun w => Lib.hid (parts_any wide p hp (bs p.ser) (bs_list _) (by rw [bs_size]; omega) w)
    have HH := fun w => Lib.hid (lh_any wide p hp (bs p.ser) (bs_list _) (by rw [bs_size]; omega) w)
    have hk2 := pks_le p
    have hsz : (bs p.ser).size = 1 + p.hd.length + (p.pks.flatMap Pg.ser).length := by rw [bs_size, p.ser_eq]; simp; omega
    have hx1 : Hid ((bs p.ser).extract 1 (1 + p.hd.length) = bs p.hd) := extract_bs (r := p.pks.flatMap Pg.ser) (by rw [bs_list, p.ser_eq]; rfl) rfl (by omega)
    have hx2 : Hid ((bs p.ser).extract 0 1 = bs [p.letter]) := by
      have := extract_bs (s := bs p.ser) (a := 0) (n := 1) (x := [p.letter]) (r := p.hd ++ p.pks.flatMap Pg.ser) (by rw [bs_list, p.ser_eq]; rfl) rfl (Nat.zero_le _)
      exact this
    have hl1 : (1 : Int) ≤ 1 + (p.hd.length : Int) := by omega
    have hl2 : 1 + (p.hd.length : Int) ≤ ((bs p.ser).size : Int) := by omega
    have hl3 : (1 : Int) ≤ ((bs p.ser).size : Int) := by omega
    clear ih hp hsz
    generalize bs p.ser = S at *
    go_enter Try.func54, Try.ntmps54
    go_wp2_with fail
    refine (HH _).out.mono ?_
    rintro e w0 ⟨rfl, n0, rfl⟩
    go_wp2_with fail
    refine (HP _).out.mono ?_
    rintro e w1 ⟨sl, rfl, hrow, hb⟩
    obtain ⟨a, cap, rfl, hat⟩ := strs_at hrow
    have HA := Lib.hid hat
    have hr1 := (Row.new (w.drewN n0) 9 [.string (S.extract 1 (1 + p.hd.length))] (by simp)).kept hb
    have HB := Lib.hid (bnext (bput (bdrewN (Below.refl w.heap.size w) n0) _) hb)
    have HR : Hid (Row w1 w.heap.size 9 (.slice (some ⟨w.heap.size, 0, none⟩) 1 1) (strs ((p :: (p.pks.take 0).flatMap Pg.all).map Pg.hd))) := by
      simp [strs]
      rw [hx1.out] at hr1
      exact hr1
    have HX2 : Hid (S.extract 0 1 = bs ((p :: (p.pks.take 0).flatMap Pg.all).map Pg.letter)) := by
      show _ = _
      rw [hx2.out]; rfl
    clear hrow hb hat hr1 hl1 hl2 hl3 hx1 hx2
    go_wp2_with fail
    generalize S.extract 1 (1 + p.hd.length) = S1 at *
    generalize hS0 : S.extract 0 1 = S0 at *
    clear hS0
    go_loopw [6, 7, 9] (fun v6 v7 v9 wr => ∃ m : Nat, m ≤ p.pks.length ∧ v9 = .int .i64 m ∧ v7 = .string (bs ((p :: (p.pks.take m).flatMap Pg.all).map Pg.letter)) ∧ Hid (Row wr w.heap.size 9 v6 (strs ((p :: (p.pks.take m).flatMap Pg.all).map Pg.hd))) ∧ Hid (∀ b o v, w.heap.size < b → w1.cell? ⟨b, o, none⟩ = some v → wr.cell? ⟨b, o, none⟩ = some v) ∧ Hid ((∀ k, v6.ownBlock = some k → k = w.heap.size ∨ w1.heap.size ≤ k) ∧ w1.heap.size ≤ wr.heap.size) ∧ Hid (Below w.heap.size w wr)) (fun _ _ v9 _ => p.pks.length - (intOf v9).toNat)
    case atStart => exact ⟨0, Nat.zero_le _, rfl, by rw [HX2.out], HR, fun _ _ _ _ h => h, ⟨fun k hk => .inl (by simpa [Value.ownBlock, eq_comm] using hk), Nat.le_refl _⟩, HB⟩
    case round =>
      obtain ⟨m, hm, rfl, rfl, HR1, HK1, HO1, HBW⟩ := hrel
      have hbd : (p :: (p.pks.take m).flatMap Pg.all).length ≤ 1000 := by
        have h1 := p.all_le
        have h2 := congrArg List.length p.all_eq
        have h3 : p.pks.flatMap Pg.all = (p.pks.take m).flatMap Pg.all ++ (p.pks.drop m).flatMap Pg.all := by rw [← List.flatMap_append, List.take_append_drop]
        rw [h3] at h2
        simp at h2 ⊢; omega
      by_cases hlt : m < p.pks.length
      · obtain ⟨g, rfl, hgB, hc⟩ := HA.out m hlt
        have hgw : w.heap.size < g := by have := hgB; simp at this; omega
        have hc := HK1.out _ _ _ hgw hc
        have hcall := Lib.hid (HI.out _ (List.getElem_mem hlt))
        have hsum : p :: (p.pks.take (m + 1)).flatMap Pg.all = (p :: (p.pks.take m).flatMap Pg.all) ++ p.pks[m].all := by
          rw [List.take_succ_eq_append_getElem hlt, List.flatMap_append]; simp
        have hbq : p.pks[m].all.length ≤ 1000 := by have := p.pks[m].all_le; have := mem_len (List.getElem_mem hlt); omega
        have hqp := p.pks[m].all_pos
        have HSM := Lib.hid hsum
        have h0 : (0 : Int) ≤ (m : Int) := by omega
        have h1 : (m : Int) < (p.pks.length : Int) := by omega
        clear hsum
        generalize p.pks[m] = q at *
        generalize p :: (p.pks.take m).flatMap Pg.all = A at *
        have hz1 : (bs (A.map Pg.letter)).size ≤ 1000 := by rw [bs_size]; simpa using hbd
        have hz2 : (bs (q.all.map Pg.letter)).size ≤ 1000 := by rw [bs_size]; simpa using hbq
        have f0 : ¬ (9223372036854775807 < (bs (A.map Pg.letter)).size + (bs (q.all.map Pg.letter)).size) := by omega
        have hcat : Hid (bs (A.map Pg.letter) ++ bs (q.all.map Pg.letter) = bs ((A ++ q.all).map Pg.letter)) := by show _ = _; rw [bs_append, List.map_append]
        have hsl1 : (strs (A.map Pg.hd)).length = A.length := by simp [strs]
        have hsl2 : (strs (q.all.map Pg.hd)).length = q.all.length := by simp [strs]
        have hcat2 : Hid (strs (A.map Pg.hd) ++ strs (q.all.map Pg.hd) = strs ((A ++ q.all).map Pg.hd)) := by show _ = _; simp [strs]
        unfold HeadsPost at hcall
        generalize bs (A.map Pg.letter) = K1 at *
        generalize bs (q.all.map Pg.letter) = K2 at *
        have HC2 := strs_cells (q.all.map Pg.hd)
        have HCX := Lib.hid HC2
        clear HC2
        generalize strs (A.map Pg.hd) = X1 at *
        generalize strs (q.all.map Pg.hd) = X2 at *
        have HL1 := Lib.hid hsl1
        have HL2 := Lib.hid hsl2
        clear hsl1 hsl2
        go_wp2_with fail
        refine (hcall.out _).mono ?_
        rintro e w2 ⟨sl2, rfl, hrow2, hb⟩
        obtain ⟨g2, cap2, rfl, hg2, hg2l, hnews⟩ := hrow2.news (by rw [HL2.out]; exact hqp)
        have HR2 := Lib.hid (HR1.out.kept hb)
        have HK2 : Hid (∀ b o v, w.heap.size < b → w1.cell? ⟨b, o, none⟩ = some v → w2.cell? ⟨b, o, none⟩ = some v) := fun b o v h1 h2 => ckeep hb (HK1.out b o v h1 h2)
        have HS2 : Hid (w1.heap.size ≤ w2.heap.size) := Nat.le_trans HO1.out.2 hb.size
        have HBW2 := Lib.hid (bnext HBW.out hb)
        have HN := Lib.hid hnews
        clear hb hc hrow2 hnews
        go_wp2_with (at_builtin; refine wpList_append_lies _ (by rfl) _ _ _ (by rfl) w.heap.size 9 i0 _ 1 16 Try.underlying24 hi0 hz0 hz1' hz2' rfl (by omega) _ _ _ (by rfl) HR2.out ⟨g2, 0, none⟩ X2.length cap2 X2 (by rfl) (by simp) HN.out HCX.out (by rw [HL2.out]; exact hqp) (by rw [HL1.out, HL2.out]; unfold maxLen; omega) (by rw [HL1.out, HL2.out]; omega) HBW2.out.size w2.heap.size rfl ?_; intro g3 cap3 w3 hown hgrow hat hlt2)
        obtain ⟨hr3, hb3⟩ := Row.after HBW2.out HR2.out hown hgrow
        refine ⟨⟨m + 1, hlt, by go_num, by rw [HSM.out, hcat.out], ?_, ?_, ?_, hb3⟩, by simp [intOf]; omega⟩
        · show Row _ _ _ _ _
          rw [HSM.out, ← hcat2.out]; exact hr3
        · intro b o v h1 h2
          refine hgrow.cell (HK2.out b o v h1 h2) ?_
          have hlt3 := World.block_lt_of_cell? _ _ h2
          simp at hlt3 ⊢
          intro e
          rcases HO1.out.1 b e.symm with h | h <;> omega
        · refine ⟨fun k hk => ?_, Nat.le_trans HS2.out hgrow.size⟩
          simp [Value.ownBlock] at hk
          subst hk
          rcases hat with h | h
          · exact HO1.out.1 _ h
          · right; have := HS2.out; omega
      · have hme : m = p.pks.length := by omega
        have hfin : Hid (p :: (p.pks.take m).flatMap Pg.all = p.all) := by
          show _ = _
          rw [hme, List.take_of_length_le (Nat.le_refl _), p.all_eq]
        have h1 : ¬ (m : Int) < (p.pks.length : Int) := by omega
        clear hme hlt hbd
        generalize p :: (p.pks.take m).flatMap Pg.all = A at *
        go_wp2_with fail
        go_ret2
        exact ⟨_, by rw [← hfin.out]; rfl, by rw [← hfin.out]; exact HR1.out, HBW.out⟩
end Go.Proofs.Ytemkndpiljfefaa
