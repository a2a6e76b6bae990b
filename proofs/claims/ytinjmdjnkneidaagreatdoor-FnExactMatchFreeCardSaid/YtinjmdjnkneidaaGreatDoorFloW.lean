/-
  A flow in memory: its stops, what they do, the numbers of the stops behind them; the points that may come next.
-/
import Derived.Test.YtinjmdjnkneidaaGreatDoorWStp
import Derived.Test.YtinjmdjnkneidaaGreatDoorWn
import Derived.Test.YtinjmdjnkneidaaGreatDoorTopP
import Derived.Test.YtinjmdjnkneidaaGreatDoorTopV
import Derived.RowKit3
namespace Go.Proofs.YtinjmdjnkneidaaGreatDoor
open Go.RowKit

/-! ### Rows of points -/
def ptC (l : List Pt) : List Value := l.flatMap fun p => [.int .i64 p.1, .int .i64 p.2]
theorem ptC_len (l : List Pt) : (ptC l).length = l.length * 2 := by
  induction l with
  | nil => rfl
  | cons x l ih => unfold ptC at *; simp [ih]; omega
theorem ptC_app (l l' : List Pt) : ptC (l ++ l') = ptC l ++ ptC l' := by simp [ptC]
theorem ptC_get : ∀ {l : List Pt} {k : Nat} {p : Pt}, l[k]? = some p → (ptC l)[k * 2]? = some (.int .i64 p.1) ∧ (ptC l)[k * 2 + 1]? = some (.int .i64 p.2) := by
  intro l
  induction l with
  | nil => intro k p h; simp at h
  | cons x l ih =>
    intro k p h
    cases k with
    | zero => simp at h; subst h; exact ⟨rfl, rfl⟩
    | succ k =>
      have h' := ih (by simpa using h)
      rw [show ptC (x :: l) = [.int .i64 x.1, .int .i64 x.2] ++ ptC l from rfl, show (k + 1) * 2 = 2 + k * 2 by omega]
      refine ⟨?_, ?_⟩ <;> rw [List.getElem?_append_right (by show 2 ≤ _; omega)]
      · rw [show 2 + k * 2 - [Value.int .i64 (x.1 : Int), .int .i64 x.2].length = k * 2 by simp]; exact h'.1
      · rw [show 2 + k * 2 + 1 - [Value.int .i64 (x.1 : Int), .int .i64 x.2].length = k * 2 + 1 by show 2 + k * 2 + 1 - 2 = _; omega]; exact h'.2
def PRow (w : World) (B : Nat) (v : Value) (l : List Pt) : Prop := w.ownsRow B 104 2 v l.length (ptC l)
theorem infoPt : (Tryz.prog.info? 104).map (fun i => (i.zero, i.size, i.bytes)) = some (some (.agg #[.int .i64 0, .int .i64 0]), 2, 16) := by kernel_rfl
theorem PRow.nil (w : World) (B : Nat) : PRow w B (.slice none 0 0) [] := ⟨rfl, .inl ⟨rfl, rfl⟩⟩
theorem PRow.nil0 (w : World) (B : Nat) : w.ownsRow B 104 2 (.slice none 0 0) 0 [] := ⟨rfl, .inl ⟨rfl, rfl⟩⟩
def FollPost (l : List Pt) (w : World) (e : Ending) (w' : World) : Prop := ∃ v, e = .returned v ∧ PRow w' w.heap.size v l ∧ Below w.heap.size w w'

/-! ### The slice of the numbers that come next -/
def NxS (w : World) (v : Value) (l : List Nat) : Prop := ∃ a cap, v = .slice a l.length cap ∧ l.length ≤ cap ∧ (l = [] ∨ ∃ b o, a = some ⟨b, o, none⟩ ∧ ∀ j n, l[j]? = some n → w.cell? ⟨b, o + j, none⟩ = some (.int .i64 (n : Nat)))
theorem NxS.kept {w w' : World} {v : Value} {l : List Nat} (h : NxS w v l) (hb : Below w.heap.size w w') : NxS w' v l := by
  obtain ⟨a, cap, h1, h2, h3⟩ := h
  refine ⟨a, cap, h1, h2, ?_⟩
  rcases h3 with h3 | ⟨b, o, h3, h4⟩
  · exact .inl h3
  · exact .inr ⟨b, o, h3, fun j n hj => ckeep hb (h4 j n hj)⟩

def StopR (w : World) (B : Nat) (s : Stp) (x y : Value) : Prop :=
  match s.d with
  | none => x = .nilIface ∧ y = .slice none 0 0 ∧ s.nx = []
  | some p => StV w B p x ∧ ∃ b, y = .slice (some ⟨b, 0, none⟩) s.nx.length s.nx.length ∧ ∀ j n, s.nx[j]? = some n → w.cell? ⟨b, j, none⟩ = some (.int .i64 (n : Nat))
/-- The flow with these stops. -/
def FlowR (w : World) (B : Nat) (sp : Value) (G : List Stp) : Prop := ∃ rb cap, sp = .slice (some ⟨rb, 0, none⟩) G.length cap ∧ G.length ≤ cap ∧ ∀ k s, G[k]? = some s → ∃ x y, w.cell? ⟨rb, k * 2, none⟩ = some x ∧ w.cell? ⟨rb, k * 2 + 1, none⟩ = some y ∧ StopR w B s x y

set_option maxRecDepth 100000 in
set_option maxHeartbeats 4000000 in
theorem foll_plain (rb : Nat) (n cap k : Nat) (st : Int) (i : Nat) (x z z2 : Value) (a : Option Addr) (c2 : Nat) (l : List Nat) (w : World) (hk : k < n) (_hc : n ≤ cap) (hl : l.length ≤ 2)
    (hx : w.cell? ⟨rb, k * 2, none⟩ = some x) (hy : w.cell? ⟨rb, k * 2 + 1, none⟩ = some (.slice a l.length c2)) (hn : NxS w (.slice a l.length c2) l)
    (ta : ∀ W, (Instr.typeAssert x 42 219 true).run Tryz.prog W = .ok (.tuple #[z, .bool false]) W)
    (tg : ∀ W, (Instr.typeAssert x 42 235 true).run Tryz.prog W = .ok (.tuple #[z2, .bool false]) W) :
    Calls Tryz.prog 173 #[.agg #[.slice (some ⟨rb, 0, none⟩) n cap, .int .i64 st], .agg #[.int .i64 k, .int .i64 i]] w (FollPost (l.map (·, i)) w) := by
  obtain ⟨i0, hi0, hz0, hz1, hz2⟩ := info_parts infoPt
  have W1 := Blk.new w #[.slice (some ⟨rb, 0, none⟩) n cap, .int .i64 st] 61
  have b1 := (Below.refl w.heap.size w).alloc (Nat.le_refl _) (.cells #[.slice (some ⟨rb, 0, none⟩) n cap, .int .i64 st] 61)
  have W2 := Blk.new (w.alloc (.cells #[.slice (some ⟨rb, 0, none⟩) n cap, .int .i64 st] 61)) #[.int .i64 k, .int .i64 i] 104
  have b2 := b1.alloc (by simp) (.cells #[.int .i64 k, .int .i64 i] 104)
  have W1' := W1.alloc (.cells #[.int .i64 k, .int .i64 i] 104)
  have e0 : (w.alloc (.cells #[.slice (some ⟨rb, 0, none⟩) n cap, .int .i64 st] 61)).heap.size = w.heap.size + 1 := by simp
  rw [e0] at W2
  clear W1 b1 e0
  go_enter Tryz.func173, Tryz.ntmps173
  go_wp2_with fail
  generalize (w.alloc (.cells #[.slice (some ⟨rb, 0, none⟩) n cap, .int .i64 st] 61)).alloc (.cells #[.int .i64 k, .int .i64 i] 104) = w0 at *
  have j0 := W1'.cell 0
  have j1 := W1'.cell 1
  have p0 := W2.cell 0
  have p1 := W2.cell 1
  simp at j0 j1 p0 p1
  have hx0 := ckeep b2 hx
  have hy0 := ckeep b2 hy
  have hkc : (k : Int) < n := by omega
  have HNK := Lib.hid hn
  have B2 := Lib.hid b2
  clear hn b2 hx hy W1' W2
  go_quiet (fail)
  go_wp2_with fail
  have HB0 := Lib.hid (bdrewN B2.out nq)
  clear B2
  generalize w0.drewN nq = wl at *
  go_loopw [9, 47] (fun v j wr => ∃ k : Nat, k ≤ l.length ∧ j = .int .i64 k ∧ Hid (PRow wr w.heap.size v ((l.take k).map (·, i))) ∧ Hid (Below w.heap.size w wr)) (fun _ j _ => l.length - (intOf j).toNat)
  case atStart => exact ⟨0, by omega, rfl, PRow.nil _ _, HB0⟩
  case round =>
    clear HB0
    obtain ⟨k, hk, rfl, HR, HB⟩ := hrel
    by_cases hlt : k < l.length
    · have hlt2 : (k : Int) < l.length := by omega
      obtain ⟨a', cap', e1, h4, h5⟩ := HNK.out.kept HB.out
      injection e1 with e1 _ e2
      subst e1 e2
      rcases h5 with h5 | ⟨b, o, h5, h6⟩
      · rw [h5] at hlt; simp at hlt
      subst h5
      have hc := h6 k l[k] (List.getElem?_eq_getElem hlt)
      have HS := Lib.hid (List.take_succ_eq_append_getElem hlt)
      generalize l[k] = m at hc HS
      clear h6
      have hlen : ((l.take k).map (fun x => ((x, i) : Pt))).length = k := by simp; omega
      have HL := Lib.hid hlen
      have HR2 := Lib.hid (show wr.ownsRow w.heap.size 104 2 u9 k (ptC ((l.take k).map (fun x => ((x, i) : Pt)))) from by have := HR.out; unfold PRow at this; rw [HL.out] at this; exact this)
      clear HR hlen
      go_wp2_with (at_builtin; refine wpList_append_lies _ (by rfl) _ _ _ (by rfl) w.heap.size 104 i0 _ 2 16 Tryz.underlying215 hi0 hz0 hz1 hz2 rfl (by omega) _ _ _ (by rfl) (World.ownsRow.alloc HR2.out _) ⟨wr.heap.size, 0, none⟩ 1 1 [.int .i64 (m : Int), .int .i64 (i : Int)] (by rfl) (by rfl) (World.news_of_block (cs := #[.int .i64 (m : Int), .int .i64 (i : Int)]) (t := 104) (fr := (0, 0)) (heap_alloc_new wr _)) (by simp [Value.oneCell']) (by omega) (by unfold maxLen; omega) (by omega) (by have := HB.out.size; simp; omega) (wr.heap.size + 1) (by simp) ?_; intro g3 cap3 w3 hown hgrow hat hlt3)
      have hb3 := (HB.out.alloc HB.out.size _).grown hgrow (by have := HB.out.size; simp; omega) (fun k hk => (World.ownsRow.lt HR2.out k hk).1)
      refine ⟨⟨k + 1, by omega, by go_num, ?_, hb3⟩, by simp [intOf]; omega⟩
      show w3.ownsRow _ _ _ _ _ _
      rw [HS.out, List.map_append, ptC_app]
      simp only [List.length_append, HL.out]
      exact hown
    · have hk2 : k = l.length := by omega
      subst hk2
      have HR2 := Lib.hid (show PRow wr w.heap.size u9 (l.map (·, i)) from by have := HR.out; rwa [List.take_length] at this)
      clear HR
      go_wp2_with fail
      go_ret
      exact ⟨_, rfl, HR2.out, HB.out⟩
set_option maxRecDepth 100000 in
set_option maxHeartbeats 4000000 in
theorem foll_asg (rb : Nat) (n cap k : Nat) (st : Int) (i : Nat) (v : UInt8) (xc : Int) (ya : Option Addr) (yn ym : Nat) (a : Option Addr) (c2 : Nat) (l : List Nat) (sv : Nat) (w : World) (hk : k < n) (_hc : n ≤ cap) (hl : l.length ≤ 2)
    (hx : w.cell? ⟨rb, k * 2, none⟩ = some (.iface 219 (.agg #[.string (bs [v]), .int .u8 xc, .slice ya yn ym]))) (hy : w.cell? ⟨rb, k * 2 + 1, none⟩ = some (.slice a l.length c2)) (hn : NxS w (.slice a l.length c2) l)
    (S : ∀ w', Below w.heap.size w w' → Calls Tryz.prog 161 #[.agg #[.string (bs [v]), .int .u8 xc, .slice ya yn ym], .int .i64 i] w' fun e w2 => e = .returned (.int .i64 (sv : Nat)) ∧ Below w'.heap.size w' w2) :
    Calls Tryz.prog 173 #[.agg #[.slice (some ⟨rb, 0, none⟩) n cap, .int .i64 st], .agg #[.int .i64 k, .int .i64 i]] w (FollPost (l.map (·, sv)) w) := by
  have HS := Lib.hid S
  clear S
  have ta := tas_asg_asg (.agg #[.string (bs [v]), .int .u8 xc, .slice ya yn ym])
  obtain ⟨i0, hi0, hz0, hz1, hz2⟩ := info_parts infoPt
  have W1 := Blk.new w #[.slice (some ⟨rb, 0, none⟩) n cap, .int .i64 st] 61
  have b1 := (Below.refl w.heap.size w).alloc (Nat.le_refl _) (.cells #[.slice (some ⟨rb, 0, none⟩) n cap, .int .i64 st] 61)
  have W2 := Blk.new (w.alloc (.cells #[.slice (some ⟨rb, 0, none⟩) n cap, .int .i64 st] 61)) #[.int .i64 k, .int .i64 i] 104
  have b2 := b1.alloc (by simp) (.cells #[.int .i64 k, .int .i64 i] 104)
  have W1' := W1.alloc (.cells #[.int .i64 k, .int .i64 i] 104)
  have e0 : (w.alloc (.cells #[.slice (some ⟨rb, 0, none⟩) n cap, .int .i64 st] 61)).heap.size = w.heap.size + 1 := by simp
  rw [e0] at W2
  clear W1 b1 e0
  go_enter Tryz.func173, Tryz.ntmps173
  go_wp2_with fail
  generalize (w.alloc (.cells #[.slice (some ⟨rb, 0, none⟩) n cap, .int .i64 st] 61)).alloc (.cells #[.int .i64 k, .int .i64 i] 104) = w0 at *
  have j0 := W1'.cell 0
  have j1 := W1'.cell 1
  have p0 := W2.cell 0
  have p1 := W2.cell 1
  simp at j0 j1 p0 p1
  have hx0 := ckeep b2 hx
  have hy0 := ckeep b2 hy
  have hkc : (k : Int) < n := by omega
  have HNK := Lib.hid hn
  have B2 := Lib.hid b2
  clear hn b2 hx hy W1' W2
  go_quiet (fail)
  have k0 : (w0.drewN nq).cell? ⟨w.heap.size, 0, none⟩ = _ := j0
  have k1 : (w0.drewN nq).cell? ⟨w.heap.size, 1, none⟩ = _ := j1
  have k2 : (w0.drewN nq).cell? ⟨w.heap.size + 1, 0, none⟩ = _ := p0
  have k3 : (w0.drewN nq).cell? ⟨rb, k * 2, none⟩ = _ := hx0
  have B2' := Lib.hid (bdrewN B2.out nq)
  clear j0 j1 p0 p1 hx0 hy0 B2
  generalize w0.drewN nq = wq at *
  go_wp2_with fail
  have b3 := B2'.out.alloc (by have := B2'.out.size; omega) (.cells #[.string (bs [v]), .int .u8 xc, .slice ya yn ym] 219)
  refine (HS.out _ b3).mono ?_
  rintro e w2 ⟨rfl, hq⟩
  have B3 := Lib.hid (bnext b3 hq)
  clear b3 hq B2'
  go_wp2_with fail
  have HB0 := B3
  clear B3
  go_loopw [9, 47] (fun v j wr => ∃ k : Nat, k ≤ l.length ∧ j = .int .i64 k ∧ Hid (PRow wr w.heap.size v ((l.take k).map (·, sv))) ∧ Hid (Below w.heap.size w wr)) (fun _ j _ => l.length - (intOf j).toNat)
  case atStart => exact ⟨0, by omega, rfl, PRow.nil _ _, HB0⟩
  case round =>
    clear HB0
    obtain ⟨k, hk, rfl, HR, HB⟩ := hrel
    by_cases hlt : k < l.length
    · have hlt2 : (k : Int) < l.length := by omega
      obtain ⟨a', cap', e1, h4, h5⟩ := HNK.out.kept HB.out
      injection e1 with e1 _ e2
      subst e1 e2
      rcases h5 with h5 | ⟨b, o, h5, h6⟩
      · rw [h5] at hlt; simp at hlt
      subst h5
      have hc := h6 k l[k] (List.getElem?_eq_getElem hlt)
      have HS := Lib.hid (List.take_succ_eq_append_getElem hlt)
      generalize l[k] = m at hc HS
      clear h6
      have hlen : ((l.take k).map (fun x => ((x, sv) : Pt))).length = k := by simp; omega
      have HL := Lib.hid hlen
      have HR2 := Lib.hid (show wr.ownsRow w.heap.size 104 2 u9 k (ptC ((l.take k).map (fun x => ((x, sv) : Pt)))) from by have := HR.out; unfold PRow at this; rw [HL.out] at this; exact this)
      clear HR hlen
      go_wp2_with (at_builtin; refine wpList_append_lies _ (by rfl) _ _ _ (by rfl) w.heap.size 104 i0 _ 2 16 Tryz.underlying215 hi0 hz0 hz1 hz2 rfl (by omega) _ _ _ (by rfl) (World.ownsRow.alloc HR2.out _) ⟨wr.heap.size, 0, none⟩ 1 1 [.int .i64 (m : Int), .int .i64 (sv : Int)] (by rfl) (by rfl) (World.news_of_block (cs := #[.int .i64 (m : Int), .int .i64 (sv : Int)]) (t := 104) (fr := (0, 0)) (heap_alloc_new wr _)) (by simp [Value.oneCell']) (by omega) (by unfold maxLen; omega) (by omega) (by have := HB.out.size; simp; omega) (wr.heap.size + 1) (by simp) ?_; intro g3 cap3 w3 hown hgrow hat hlt3)
      have hb3 := (HB.out.alloc HB.out.size _).grown hgrow (by have := HB.out.size; simp; omega) (fun k hk => (World.ownsRow.lt HR2.out k hk).1)
      refine ⟨⟨k + 1, by omega, by go_num, ?_, hb3⟩, by simp [intOf]; omega⟩
      show w3.ownsRow _ _ _ _ _ _
      rw [HS.out, List.map_append, ptC_app]
      simp only [List.length_append, HL.out]
      exact hown
    · have hk2 : k = l.length := by omega
      subst hk2
      have HR2 := Lib.hid (show PRow wr w.heap.size u9 (l.map (·, sv)) from by have := HR.out; rwa [List.take_length] at this)
      clear HR
      go_wp2_with fail
      go_ret
      exact ⟨_, rfl, HR2.out, HB.out⟩
set_option maxRecDepth 100000 in
set_option maxHeartbeats 4000000 in
theorem foll_grd_t (rb : Nat) (n cap k : Nat) (st : Int) (i : Nat) (T : TypeId) (u z : Value) (f : Nat) (rc : Value) (b0 : Nat) (c n1 : Nat) (hc1 : 1 ≤ c) (w : World) (hk : k < n) (_hc : n ≤ cap)
    (hx : w.cell? ⟨rb, k * 2, none⟩ = some (.iface T u)) (hy : w.cell? ⟨rb, k * 2 + 1, none⟩ = some (.slice (some ⟨b0, 0, none⟩) c c)) (hn1 : w.cell? ⟨b0, 0, none⟩ = some (.int .i64 (n1 : Nat)))
    (ta : ∀ W, (Instr.typeAssert (.iface T u) 42 219 true).run Tryz.prog W = .ok (.tuple #[z, .bool false]) W)
    (tg : ∀ W, (Instr.typeAssert (.iface T u) 42 235 true).run Tryz.prog W = .ok (.tuple #[.iface T u, .bool true]) W)
    (tm : ∀ w, (method 377 T u "loop.example/productprograms/impl.passes").run Tryz.prog w = .ok (f, rc) w) (tf : ∀ (a : Array Value) w, (callFunc f a).run Tryz.prog w = .ok (.enter f a) w)
    (S : ∀ w', Below w.heap.size w w' → Calls Tryz.prog f #[rc, .int .i64 i] w' fun e w2 => e = .returned (.bool true) ∧ Below w'.heap.size w' w2) :
    Calls Tryz.prog 173 #[.agg #[.slice (some ⟨rb, 0, none⟩) n cap, .int .i64 st], .agg #[.int .i64 k, .int .i64 i]] w (FollPost [(n1, i)] w) := by
  have HS := Lib.hid S
  clear S
  obtain ⟨i0, hi0, hz0, hz1, hz2⟩ := info_parts infoPt
  have W1 := Blk.new w #[.slice (some ⟨rb, 0, none⟩) n cap, .int .i64 st] 61
  have b1 := (Below.refl w.heap.size w).alloc (Nat.le_refl _) (.cells #[.slice (some ⟨rb, 0, none⟩) n cap, .int .i64 st] 61)
  have W2 := Blk.new (w.alloc (.cells #[.slice (some ⟨rb, 0, none⟩) n cap, .int .i64 st] 61)) #[.int .i64 k, .int .i64 i] 104
  have b2 := b1.alloc (by simp) (.cells #[.int .i64 k, .int .i64 i] 104)
  have W1' := W1.alloc (.cells #[.int .i64 k, .int .i64 i] 104)
  have e0 : (w.alloc (.cells #[.slice (some ⟨rb, 0, none⟩) n cap, .int .i64 st] 61)).heap.size = w.heap.size + 1 := by simp
  rw [e0] at W2
  clear W1 b1 e0
  go_enter Tryz.func173, Tryz.ntmps173
  go_wp2_with fail
  generalize (w.alloc (.cells #[.slice (some ⟨rb, 0, none⟩) n cap, .int .i64 st] 61)).alloc (.cells #[.int .i64 k, .int .i64 i] 104) = w0 at *
  have j0 := W1'.cell 0
  have j1 := W1'.cell 1
  have p0 := W2.cell 0
  have p1 := W2.cell 1
  simp at j0 j1 p0 p1
  have hx0 := ckeep b2 hx
  have hy0 := ckeep b2 hy
  have hkc : (k : Int) < n := by omega
  have B2 := Lib.hid b2
  clear b2 hx hy W1' W2
  go_quiet (fail)
  go_wp2_with fail
  have b3 := bdrewN B2.out nq
  refine (HS.out _ b3).mono ?_
  rintro e w2 ⟨rfl, hq⟩
  have b4 := bnext b3 hq
  have hc2 : (1 : Int) ≤ c := by omega
  have c0 := ckeep b4 hn1
  have B4 := Lib.hid b4
  clear b3 b4 hq B2 hn1
  go_wp2_with fail
  refine wp_loop_rounds 2 ?_
  rw [rounds_succ]
  go_wp2_with (at_builtin; refine wpList_append_lies _ (by rfl) _ _ _ (by rfl) w.heap.size 104 i0 _ 2 16 Tryz.underlying215 hi0 hz0 hz1 hz2 rfl (by omega) _ _ _ (by rfl) (PRow.nil0 _ _) ⟨w2.heap.size, 0, none⟩ 1 1 [.int .i64 (n1 : Int), .int .i64 (i : Int)] (by rfl) (by rfl) (World.news_of_block (cs := #[.int .i64 (n1 : Int), .int .i64 (i : Int)]) (t := 104) (fr := (0, 0)) (heap_alloc_new w2 _)) (by simp [Value.oneCell']) (by omega) (by unfold maxLen; omega) (by omega) (by have := B4.out.size; simp; omega) (w2.heap.size + 1) (by simp) ?_; intro g3 cap3 w3 hown hgrow hat hlt3)
  have HO := Lib.hid hown
  have b5 := Lib.hid ((B4.out.alloc B4.out.size _).grown hgrow (by have := B4.out.size; simp; omega) (fun k hk => by simp [Value.ownBlock] at hk))
  clear hown hgrow hat hlt3 c0
  rw [rounds_succ]
  go_wp2_with fail
  go_ret
  exact ⟨_, rfl, HO.out, b5.out⟩
set_option maxRecDepth 100000 in
set_option maxHeartbeats 4000000 in
theorem foll_grd_f (rb : Nat) (n cap k : Nat) (st : Int) (i : Nat) (T : TypeId) (u z : Value) (f : Nat) (rc : Value) (b0 : Nat) (n2 : Nat) (w : World) (hk : k < n) (_hc : n ≤ cap)
    (hx : w.cell? ⟨rb, k * 2, none⟩ = some (.iface T u)) (hy : w.cell? ⟨rb, k * 2 + 1, none⟩ = some (.slice (some ⟨b0, 0, none⟩) 2 2)) (hn2 : w.cell? ⟨b0, 1, none⟩ = some (.int .i64 (n2 : Nat)))
    (ta : ∀ W, (Instr.typeAssert (.iface T u) 42 219 true).run Tryz.prog W = .ok (.tuple #[z, .bool false]) W)
    (tg : ∀ W, (Instr.typeAssert (.iface T u) 42 235 true).run Tryz.prog W = .ok (.tuple #[.iface T u, .bool true]) W)
    (tm : ∀ w, (method 377 T u "loop.example/productprograms/impl.passes").run Tryz.prog w = .ok (f, rc) w) (tf : ∀ (a : Array Value) w, (callFunc f a).run Tryz.prog w = .ok (.enter f a) w)
    (S : ∀ w', Below w.heap.size w w' → Calls Tryz.prog f #[rc, .int .i64 i] w' fun e w2 => e = .returned (.bool false) ∧ Below w'.heap.size w' w2) :
    Calls Tryz.prog 173 #[.agg #[.slice (some ⟨rb, 0, none⟩) n cap, .int .i64 st], .agg #[.int .i64 k, .int .i64 i]] w (FollPost [(n2, i)] w) := by
  have HS := Lib.hid S
  clear S
  obtain ⟨i0, hi0, hz0, hz1, hz2⟩ := info_parts infoPt
  have W1 := Blk.new w #[.slice (some ⟨rb, 0, none⟩) n cap, .int .i64 st] 61
  have b1 := (Below.refl w.heap.size w).alloc (Nat.le_refl _) (.cells #[.slice (some ⟨rb, 0, none⟩) n cap, .int .i64 st] 61)
  have W2 := Blk.new (w.alloc (.cells #[.slice (some ⟨rb, 0, none⟩) n cap, .int .i64 st] 61)) #[.int .i64 k, .int .i64 i] 104
  have b2 := b1.alloc (by simp) (.cells #[.int .i64 k, .int .i64 i] 104)
  have W1' := W1.alloc (.cells #[.int .i64 k, .int .i64 i] 104)
  have e0 : (w.alloc (.cells #[.slice (some ⟨rb, 0, none⟩) n cap, .int .i64 st] 61)).heap.size = w.heap.size + 1 := by simp
  rw [e0] at W2
  clear W1 b1 e0
  go_enter Tryz.func173, Tryz.ntmps173
  go_wp2_with fail
  generalize (w.alloc (.cells #[.slice (some ⟨rb, 0, none⟩) n cap, .int .i64 st] 61)).alloc (.cells #[.int .i64 k, .int .i64 i] 104) = w0 at *
  have j0 := W1'.cell 0
  have j1 := W1'.cell 1
  have p0 := W2.cell 0
  have p1 := W2.cell 1
  simp at j0 j1 p0 p1
  have hx0 := ckeep b2 hx
  have hy0 := ckeep b2 hy
  have hkc : (k : Int) < n := by omega
  have B2 := Lib.hid b2
  clear b2 hx hy W1' W2
  go_quiet (fail)
  go_wp2_with fail
  have b3 := bdrewN B2.out nq
  refine (HS.out _ b3).mono ?_
  rintro e w2 ⟨rfl, hq⟩
  have b4 := bnext b3 hq
  have c0 := ckeep b4 hn2
  have B4 := Lib.hid b4
  clear b3 b4 hq B2 hn2
  go_wp2_with fail
  refine wp_loop_rounds 2 ?_
  rw [rounds_succ]
  go_wp2_with (at_builtin; refine wpList_append_lies _ (by rfl) _ _ _ (by rfl) w.heap.size 104 i0 _ 2 16 Tryz.underlying215 hi0 hz0 hz1 hz2 rfl (by omega) _ _ _ (by rfl) (PRow.nil0 _ _) ⟨w2.heap.size, 0, none⟩ 1 1 [.int .i64 (n2 : Int), .int .i64 (i : Int)] (by rfl) (by rfl) (World.news_of_block (cs := #[.int .i64 (n2 : Int), .int .i64 (i : Int)]) (t := 104) (fr := (0, 0)) (heap_alloc_new w2 _)) (by simp [Value.oneCell']) (by omega) (by unfold maxLen; omega) (by omega) (by have := B4.out.size; simp; omega) (w2.heap.size + 1) (by simp) ?_; intro g3 cap3 w3 hown hgrow hat hlt3)
  have HO := Lib.hid hown
  have b5 := Lib.hid ((B4.out.alloc B4.out.size _).grown hgrow (by have := B4.out.size; simp; omega) (fun k hk => by simp [Value.ownBlock] at hk))
  clear hown hgrow hat hlt3 c0
  rw [rounds_succ]
  go_wp2_with fail
  go_ret
  exact ⟨_, rfl, HO.out, b5.out⟩
set_option maxRecDepth 100000 in
set_option maxHeartbeats 4000000 in
theorem foll_grd_0 (rb : Nat) (n cap k : Nat) (st : Int) (i : Nat) (T : TypeId) (u z : Value) (f : Nat) (rc : Value) (b0 : Nat)  (w : World) (hk : k < n) (_hc : n ≤ cap)
    (hx : w.cell? ⟨rb, k * 2, none⟩ = some (.iface T u)) (hy : w.cell? ⟨rb, k * 2 + 1, none⟩ = some (.slice (some ⟨b0, 0, none⟩) 1 1)) 
    (ta : ∀ W, (Instr.typeAssert (.iface T u) 42 219 true).run Tryz.prog W = .ok (.tuple #[z, .bool false]) W)
    (tg : ∀ W, (Instr.typeAssert (.iface T u) 42 235 true).run Tryz.prog W = .ok (.tuple #[.iface T u, .bool true]) W)
    (tm : ∀ w, (method 377 T u "loop.example/productprograms/impl.passes").run Tryz.prog w = .ok (f, rc) w) (tf : ∀ (a : Array Value) w, (callFunc f a).run Tryz.prog w = .ok (.enter f a) w)
    (S : ∀ w', Below w.heap.size w w' → Calls Tryz.prog f #[rc, .int .i64 i] w' fun e w2 => e = .returned (.bool false) ∧ Below w'.heap.size w' w2) :
    Calls Tryz.prog 173 #[.agg #[.slice (some ⟨rb, 0, none⟩) n cap, .int .i64 st], .agg #[.int .i64 k, .int .i64 i]] w (FollPost [] w) := by
  have HS := Lib.hid S
  clear S
  obtain ⟨i0, hi0, hz0, hz1, hz2⟩ := info_parts infoPt
  have W1 := Blk.new w #[.slice (some ⟨rb, 0, none⟩) n cap, .int .i64 st] 61
  have b1 := (Below.refl w.heap.size w).alloc (Nat.le_refl _) (.cells #[.slice (some ⟨rb, 0, none⟩) n cap, .int .i64 st] 61)
  have W2 := Blk.new (w.alloc (.cells #[.slice (some ⟨rb, 0, none⟩) n cap, .int .i64 st] 61)) #[.int .i64 k, .int .i64 i] 104
  have b2 := b1.alloc (by simp) (.cells #[.int .i64 k, .int .i64 i] 104)
  have W1' := W1.alloc (.cells #[.int .i64 k, .int .i64 i] 104)
  have e0 : (w.alloc (.cells #[.slice (some ⟨rb, 0, none⟩) n cap, .int .i64 st] 61)).heap.size = w.heap.size + 1 := by simp
  rw [e0] at W2
  clear W1 b1 e0
  go_enter Tryz.func173, Tryz.ntmps173
  go_wp2_with fail
  generalize (w.alloc (.cells #[.slice (some ⟨rb, 0, none⟩) n cap, .int .i64 st] 61)).alloc (.cells #[.int .i64 k, .int .i64 i] 104) = w0 at *
  have j0 := W1'.cell 0
  have j1 := W1'.cell 1
  have p0 := W2.cell 0
  have p1 := W2.cell 1
  simp at j0 j1 p0 p1
  have hx0 := ckeep b2 hx
  have hy0 := ckeep b2 hy
  have hkc : (k : Int) < n := by omega
  have B2 := Lib.hid b2
  clear b2 hx hy W1' W2
  go_quiet (fail)
  go_wp2_with fail
  have b3 := bdrewN B2.out nq
  refine (HS.out _ b3).mono ?_
  rintro e w2 ⟨rfl, hq⟩
  have b4 := bnext b3 hq
  have B4 := Lib.hid b4
  clear b3 b4 hq B2
  go_wp2_with fail
  refine wp_loop_rounds 1 ?_
  rw [rounds_succ]
  go_wp2_with fail
  go_ret
  exact ⟨_, rfl, PRow.nil _ _, B4.out⟩
end Go.Proofs.YtinjmdjnkneidaaGreatDoor
