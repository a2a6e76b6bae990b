/-
  The model's words on the text of a valid program: l3Head tells where its head ends, l3Parts its direct parts.
-/
import Derived.Test.YtinjmdjnkneidaaGreatDoorEnd
import Derived.Test.YtinjmdjnkneidaaGreatDoorTopB
import Derived.Test.YtinjmdjnkneidaaGreatDoorTopP
import Derived.Test.YtinjmdjnkneidaaGreatDoorStrs
import Derived.RowKit3
namespace Go.Proofs.YtinjmdjnkneidaaGreatDoor
open Go.RowKit Tm

theorem byte0 {s : ByteArray} {c : UInt8} {r : List UInt8} (h : s.data.toList = c :: r) : ∃ h0 : 0 < s.size, s[0] = c := by
  have hl := congrArg List.length h
  simp at hl
  refine ⟨by omega, ?_⟩
  have : s.data.toList[0]? = some c := by rw [h]; rfl
  rw [List.getElem?_eq_getElem (by simp; omega)] at this
  exact Option.some.inj this

set_option maxHeartbeats 1000000 in
theorem lh_one (wide : Bool) (s : ByteArray) (w : World) (h0 : 0 < s.size) (hc : s[0].toNat = 115 ∨ s[0].toNat = 59 ∨ s[0].toNat = 47) : Calls Tryz.prog 82 #[.string s, .bool wide] w (Quiet (.int .i64 1) w) := by
  rcases hc with hc | hc | hc
  all_goals
    go_enter Tryz.func82, Tryz.ntmps82
    go_wp2_with fail
    go_ret
    exact ⟨rfl, 0, rfl⟩
set_option maxHeartbeats 1000000 in
theorem lh_a (wide : Bool) (s : ByteArray) (w : World) (h0 : 0 < s.size) (hc : s[0].toNat = 97) : Calls Tryz.prog 82 #[.string s, .bool wide] w (Quiet (.int .i64 s.size) w) := by
  go_enter Tryz.func82, Tryz.ntmps82
  go_wp2_with fail
  go_ret
  exact ⟨rfl, 0, rfl⟩
set_option maxHeartbeats 1000000 in
theorem lh_t (wide : Bool) (s : ByteArray) (w : World) (h0 : 0 < s.size) (hc : s[0].toNat = 63 ∨ s[0].toNat = 64 ∨ s[0].toNat = 126) (r : Int) (c1 : ∀ w, Calls Tryz.prog 130 #[.string s, .int .i64 1, .bool wide] w (Quiet (.int .i64 r) w)) :
    Calls Tryz.prog 82 #[.string s, .bool wide] w (Quiet (.int .i64 r) w) := by
  have C1 := Lib.hid c1
  clear c1
  rcases hc with hc | hc | hc
  all_goals
    go_enter Tryz.func82, Tryz.ntmps82
    go_wp2_with fail
    refine (C1.out _).mono ?_
    rintro e w' ⟨rfl, n, rfl⟩
    go_wp2_with fail
    go_ret
    exact ⟨rfl, n, rfl⟩
theorem lh_any (wide : Bool) (p : Pg) (hp : p.ok wide) (s : ByteArray) (hs : s.data.toList = p.ser) (hl : s.size ≤ 1000000) (w : World) : Calls Tryz.prog 82 #[.string s, .bool wide] w (Quiet (.int .i64 (1 + p.hd.length : Nat)) w) := by
  have hse := hs
  rw [p.ser_eq] at hse
  obtain ⟨h0, hb⟩ := byte0 hse
  have tst : ∀ (t : Tm) (r : List UInt8), Ok wide true t → s.data.toList = p.letter :: (t.ser ++ r) → ∀ w, Calls Tryz.prog 130 #[.string s, .int .i64 1, .bool wide] w (Quiet (.int .i64 (1 + t.ser.length : Nat)) w) := by
    intro t r ht e w
    refine gtest_any wide s hl 1 _ w ?_
    have := GAt.ser (wide := wide) (f := emb t .nil) (ks := [116]) (i := 1) (rest := r) (l := s.data.toList) (emb_ok (k := true) ht rfl) (by rw [e, emb_ser]; simp [Fo.ser])
    rw [emb_ser] at this
    simpa [Fo.ser] using this
  cases p with
  | skip => exact lh_one wide s w h0 (by rw [hb]; simp [Pg.letter])
  | seq a b => exact lh_one wide s w h0 (by rw [hb]; simp [Pg.letter])
  | cho a b => exact lh_one wide s w h0 (by rw [hb]; simp [Pg.letter])
  | asg v e =>
    have : s.size = 1 + (Pg.asg v e).hd.length := by have := congrArg List.length hs; simp [Pg.ser] at this; simp [Pg.hd]; omega
    rw [← this]
    exact lh_a wide s w h0 (by rw [hb]; simp [Pg.letter])
  | ite t a b => exact lh_t wide s w h0 (by rw [hb]; simp [Pg.letter]) _ (tst t _ hp.1 hse)
  | whl t a => exact lh_t wide s w h0 (by rw [hb]; simp [Pg.letter]) _ (tst t _ hp.1 hse)
  | asm t => exact lh_t wide s w h0 (by rw [hb]; simp [Pg.letter]) _ (tst t [] hp (by rw [hse]; simp [Pg.hd, Pg.pks]))

theorem infoStr : (Tryz.prog.info? 9).map (fun i => (i.zero, i.size, i.bytes)) = some (some (.string ⟨#[]⟩), 1, 16) := by kernel_rfl

theorem strs_cells (l : List (List UInt8)) : ∀ u ∈ strs l, u.oneCell' = true := by
  intro u hu
  simp only [strs, List.mem_map] at hu
  obtain ⟨b, _, rfl⟩ := hu
  rfl
def RowPost (T : TypeId) (vs : List Value) (w : World) (e : Ending) (w' : World) : Prop := ∃ sl, e = .returned sl ∧ Row w' w.heap.size T sl vs ∧ Below w.heap.size w w'

theorem extract_bs {s : ByteArray} {a n : Nat} {x r : List UInt8} (h : s.data.toList.drop a = x ++ r) (hn : n = x.length) (_ha : a ≤ s.size) : s.extract a (a + n) = bs x := by
  apply ByteArray.ext
  apply Array.ext'
  simp only [ByteArray.data_extract, bs, Array.toList_extract]
  rw [List.extract_eq_take_drop, h]
  simp [hn]

theorem pok_mem {wide : Bool} {p q : Pg} (hp : p.ok wide) (hq : q ∈ p.pks) : q.ok wide := by
  cases p <;> simp [Pg.pks] at hq
  · rcases hq with rfl | rfl
    · exact hp.1
    · exact hp.2
  · rcases hq with rfl | rfl
    · exact hp.2.1
    · exact hp.2.2
  · subst hq; exact hp.2
  · rcases hq with rfl | rfl
    · exact hp.1
    · exact hp.2

set_option maxRecDepth 100000 in
set_option maxHeartbeats 4000000 in
theorem parts_any (wide : Bool) (p : Pg) (hp : p.ok wide) (s : ByteArray) (hs : s.data.toList = p.ser) (hl : s.size ≤ 1000000) (w : World) :
    Calls Tryz.prog 83 #[.string s, .bool wide] w (RowPost 9 (strs (p.pks.map Pg.ser)) w) := by
  obtain ⟨i0, hi0, hz0, hz1, hz2⟩ := info_parts infoStr
  have HH := fun w => Lib.hid (lh_any wide p hp s hs hl w)
  have HS := Lib.hid hs
  have HO := Lib.hid hp
  clear hs hp
  go_enter Tryz.func83, Tryz.ntmps83
  go_wp2_with fail
  refine (HH _).out.mono ?_
  rintro e w' ⟨rfl, n, rfl⟩
  go_wp2_with fail
  have hdrop : s.data.toList.drop (1 + p.hd.length) = (p.pks.drop 0).flatMap Pg.ser := by
    rw [HS.out, p.ser_eq, Nat.add_comm, List.drop_succ_cons, List.drop_left' rfl, List.drop_zero]
  have hle : 1 + p.hd.length ≤ s.size := by
    have := congrArg List.length HS.out
    rw [p.ser_eq] at this
    simp at this; omega
  have hr0 := Row.kept (Row.new w 9 [] (by simp)) (bdrewN (Below.refl (w.alloc (.cells #[] 9)).heap.size _) n)
  have hb0 := bdrewN ((Below.refl w.heap.size w).alloc (Nat.le_refl _) (.cells #[] 9)) n
  have HD := Lib.hid hdrop
  have HR := Lib.hid hr0
  have HB := Lib.hid hb0
  clear hdrop hr0 hb0
  generalize (w.alloc (.cells #[] 9)).drewN n = W0 at *
  go_loopw [5, 6] (fun v5 v6 wr => ∃ (m a : Nat), m ≤ p.pks.length ∧ v6 = .int .i64 a ∧ a ≤ s.size ∧ Hid (s.data.toList.drop a = (p.pks.drop m).flatMap Pg.ser) ∧ Hid (Row wr w.heap.size 9 v5 (strs ((p.pks.take m).map Pg.ser))) ∧ Hid (Below w.heap.size w wr)) (fun _ v6 _ => s.size - (intOf v6).toNat)
  case atStart => exact ⟨0, 1 + p.hd.length, Nat.zero_le _, by go_num, hle, HD, HR, HB⟩
  case round =>
    obtain ⟨m, a, hm, rfl, ha, HD1, HR1, HB1⟩ := hrel
    by_cases hlt : m < p.pks.length
    · have hpk : p.pks.drop m = p.pks[m] :: p.pks.drop (m + 1) := List.drop_eq_getElem_cons hlt
      have hd1 := HD1.out
      rw [hpk, List.flatMap_cons] at hd1
      have hqok : p.pks[m].ok wide := pok_mem HO.out (List.getElem_mem hlt)
      have htk : p.pks.take (m + 1) = p.pks.take m ++ [p.pks[m]] := by rw [List.take_succ_eq_append_getElem hlt]
      have hml : p.pks.length ≤ 2 := by cases p <;> simp [Pg.pks]
      generalize p.pks[m] = q at *
      have hlen := congrArg List.length hd1
      have hpos : 0 < q.ser.length := by rw [q.ser_eq]; simp
      simp at hlen
      have hag : GAt wide [112] s.data.toList a (a + q.ser.length) := by
        have := GAt.ser (wide := wide) (f := q.fo .nil) (ks := [112]) (i := a) (l := s.data.toList) (rest := (p.pks.drop (m + 1)).flatMap Pg.ser) (pg_ok hqok rfl) (by rw [hd1, pg_ser]; simp [Fo.ser])
        rw [pg_ser] at this
        simpa [Fo.ser] using this
      have HE := fun w => Lib.hid (pend_any wide s hl a _ w hag)
      have hex := extract_bs hd1 rfl ha
      have hd2 : s.data.toList.drop (a + q.ser.length) = (p.pks.drop (m + 1)).flatMap Pg.ser := by rw [← List.drop_drop, hd1, List.drop_left' rfl]
      have HX := Lib.hid hex
      have HD2 := Lib.hid hd2
      have HT := Lib.hid htk
      have h0 : (0 : Int) ≤ (a : Int) := by omega
      have h1 : (a : Int) < (s.size : Int) := by omega
      have hle2 : a + q.ser.length ≤ s.size := by omega
      clear hd1 hag hex hd2 htk hpk hqok hlen
      generalize hL : q.ser.length = L at *
      have HLn := Lib.hid hL
      clear hL
      go_wp2_with fail
      refine (HE _).out.mono ?_
      rintro e w' ⟨rfl, n1, rfl⟩
      have hrk := HR1.out.kept (bdrewN (Below.refl wr.heap.size wr) n1)
      have hbk := bdrewN HB1.out n1
      have HRK := Lib.hid hrk
      have HBK := Lib.hid hbk
      clear hrk hbk
      generalize wr.drewN n1 = W1 at *
      have hxl : (strs ((p.pks.take m).map Pg.ser)).length ≤ 2 := by simp [strs]; omega
      have hXn : strs ((p.pks.take (m + 1)).map Pg.ser) = strs ((p.pks.take m).map Pg.ser) ++ [.string (bs q.ser)] := by rw [HT.out]; simp [strs]
      have HXN := Lib.hid hXn
      clear hXn HR1
      generalize strs ((p.pks.take m).map Pg.ser) = X at *
      go_wp2_with (at_builtin; refine wpList_append_lies _ (by rfl) _ _ _ (by rfl) w.heap.size 9 i0 _ 1 16 Tryz.underlying87 hi0 hz0 hz1 hz2 rfl (by omega) _ _ _ (by rfl) (World.ownsRow.alloc HRK.out _) ⟨W1.heap.size, 0, none⟩ 1 1 [.string (s.extract a (a + L))] (by rfl) (by rfl) (World.news_of_block (cs := #[.string (s.extract a (a + L))]) (t := 9) (fr := (0, 0)) (heap_alloc_new W1 _)) (by simp [Value.oneCell']) (by omega) (by unfold maxLen; omega) (by omega) (by have := HBK.out.size; simp; omega) (W1.heap.size + 1) (by simp) ?_; intro g3 cap3 w3 hown hgrow hat hlt2)
      obtain ⟨hr3, hb3⟩ := Row.after (HBK.out.alloc HBK.out.size _) (Row.kept HRK.out ((Below.refl _ _).alloc (Nat.le_refl _) _)) hown hgrow
      exact ⟨⟨m + 1, a + L, hlt, by go_num, hle2, HD2, by rw [HXN.out, ← HX.out]; exact hr3, hb3⟩, by simp [intOf]; omega⟩
    · have hme : m = p.pks.length := by omega
      have hd1 := HD1.out
      rw [hme, List.drop_of_length_le (Nat.le_refl _)] at hd1
      have hae := congrArg List.length hd1
      simp at hae
      have h1 : ¬ (a : Int) < (s.size : Int) := by omega
      have hfin : Hid (Row wr w.heap.size 9 u5 (strs (p.pks.map Pg.ser))) := by
        have := HR1.out
        rw [hme, List.take_of_length_le (Nat.le_refl _)] at this
        exact this
      clear hme hd1 hae HR1 HD1 hlt
      go_wp2_with fail
      go_ret
      exact ⟨_, rfl, hfin.out, HB1.out⟩
end Go.Proofs.YtinjmdjnkneidaaGreatDoor
