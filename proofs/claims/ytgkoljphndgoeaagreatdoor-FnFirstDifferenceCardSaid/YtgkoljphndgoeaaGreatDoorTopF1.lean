import Derived.Test.YtgkoljphndgoeaaGreatDoorTopW1
import Derived.Test.YtgkoljphndgoeaaGreatDoorTopH
import Derived.Test.YtgkoljphndgoeaaGreatDoorTopP
import Derived.Test.YtgkoljphndgoeaaGreatDoorTopV
import Derived.RowKit3
import Derived.Deep.RegionHeld3
import Derived.Deep.RegionWith
import Derived.WalkSmall
import Derived.Deep.AppendLies
import Derived.RegionTactic
import Derived.ScopeJumps
import Derived.WalkMore
import Derived.ChangeAlike
import Derived.StillTailTactics
import Derived.BigQuiet
import Derived.Test.YtgkoljphndgoeaaGreatDoorTopB
namespace Go.Proofs.YtgkoljphndgoeaaGreatDoor
open Go.RowKit Tm
theorem pair_env (k : Nat) (hk : k < 729) (w : World) : Calls Tryz.prog 221 #[.int .i64 k] w fun e w' => e = .returned (.agg #[.int .i64 (wenv k 0), .int .i64 (wenv k 1), .int .i64 (wenv k 2), .int .i64 (wenv k 3), .int .i64 (wenv k 4), .int .i64 (wenv k 5)]) ∧ Below w.heap.size w w' := by
 have h := pair_at (k % 27) (k / 27) (by omega) (by omega) w
 rw [Nat.mod_add_div] at h
 exact h
set_option maxHeartbeats 2000000 in
theorem passes_any (t : Tm) (B : Nat) (xc : Int) (ya : Option Addr) (yn ym : Nat) (i : Nat) (hi : i < 729) (w : World) (ht : Ok true true t) (hr : RepT w B t (.int .u8 xc) (.slice ya yn ym)) :
  Calls Tryz.prog 330 #[.agg #[.int .u8 xc, .slice ya yn ym], .int .i64 i] w fun e w' => e = .returned (.bool (wtst t i)) ∧ Below w.heap.size w w' := by
 have HR := Lib.hid (hr.below ((Below.refl _ w).alloc (Nat.le_refl _) (.cells #[.int .u8 xc, .slice ya yn ym] 152)))
 have P := fun w => Lib.hid (pair_env i hi w)
 have D := fun w h => Lib.hid (holds_any (wenv i) (wenv_bd hi) t B (.int .u8 xc) (.slice ya yn ym) w ht h)
 rw [show tru (wenv i) t = wtst t i from rfl] at D
 have HB := Lib.hid ((Below.refl w.heap.size w).alloc (Nat.le_refl _) (.cells #[.int .u8 xc, .slice ya yn ym] 152))
 have HK := Lib.hid (Blk.new w #[.int .u8 xc, .slice ya yn ym] 152)
 clear hr
 go_enter Tryz.func330, Tryz.ntmps330
 go_wp2_with fail
 generalize w.alloc (.cells #[.int .u8 xc, .slice ya yn ym] 152) = w0 at *
 have q0 : w0.cell? ⟨w.heap.size, 0, none⟩ = some (.int .u8 xc) := HK.out.cell 0
 have q1 : w0.cell? ⟨w.heap.size, 1, none⟩ = some (.slice ya yn ym) := HK.out.cell 1
 have hbb := (Below.refl w0.heap.size w0).drew
 have RG : ∀ w', Below w0.heap.size w0 w' → Below w0.heap.size w0 w' ∧ w'.cell? ⟨w.heap.size, 0, none⟩ = some (.int .u8 xc) ∧ w'.cell? ⟨w.heap.size, 1, none⟩ = some (.slice ya yn ym) := fun w' h => ⟨h, ckeep h q0, ckeep h q1⟩
 have RG' := Lib.hid RG
 clear RG
 go_region_held3 (fun w' => Below w0.heap.size w0 w' ∧ w'.cell? ⟨w.heap.size, 0, none⟩ = some (.int .u8 xc) ∧ w'.cell? ⟨w.heap.size, 1, none⟩ = some (.slice ya yn ym))
  ((first
   | exact RG'.out _ (by assumption)
   | (go_split_ands; exact RG'.out _ (by assumption))
   | (go_split_ands; exact RG'.out _ (bnext (by assumption) hq))))
  (first
   | (go_at_call 221; (with_reducible refine (P _).out.mono ?_); rintro e w5 ⟨rfl, hq⟩)
   | (go_at_call 220; (with_reducible refine (D _ (HR.out.below (by go_split_ands; assumption))).out.mono ?_); rintro e w5 ⟨rfl, hq⟩))
 all_goals
  go_split_ands
  have HF := Lib.hid (bnext HB.out (by assumption))
  go_wp2_with fail
  go_ret
  exact ⟨rfl, HF.out⟩
set_option maxRecDepth 100000 in
set_option maxHeartbeats 4000000 in
theorem step_of (c : UInt8) (i : Nat) (hi : i < 729) (t : Tm) (B : Nat) (xc : Int) (ya : Option Addr) (yn ym : Nat) (p0 p1 p2 q0 q1 q2 : Int) (w : World) (ht : Ok true false t) (hr : RepT w B t (.int .u8 xc) (.slice ya yn ym))
  (hs : st3 p0 p1 p2 = true) (hs' : st3 q0 q1 q2 = true)
  (D : ∀ w, Calls Tryz.prog 246 #[.agg #[.int .i64 (wenv i 0), .int .i64 (wenv i 1), .int .i64 (wenv i 2), .int .i64 (wenv i 3), .int .i64 (wenv i 4), .int .i64 (wenv i 5)], .string (bs [c]), .int .i64 (val (wenv i) t)] w fun e w' => e = .returned (.agg #[.int .i64 p0, .int .i64 p1, .int .i64 p2, .int .i64 q0, .int .i64 q1, .int .i64 q2]) ∧ Below w.heap.size w w') :
  Calls Tryz.prog 199 #[.agg #[.string (bs [c]), .int .u8 xc, .slice ya yn ym], .int .i64 i] w fun e w' => e = .returned (.int .i64 ((ixx p0 p1 p2 + 27 * ixx q0 q1 q2 : Nat) : Int)) ∧ Below w.heap.size w w' := by
 have D' := fun w => Lib.hid (D w)
 have P := fun w => Lib.hid (pair_env i hi w)
 have V := fun w h => Lib.hid (value_any (wenv i) (wenv_bd hi) t B (.int .u8 xc) (.slice ya yn ym) w ht h)
 have I := fun w => Lib.hid (pair_num p0 p1 p2 q0 q1 q2 hs hs' w)
 have HR := Lib.hid (hr.below ((Below.refl _ w).alloc (Nat.le_refl _) (.cells #[.string (bs [c]), .int .u8 xc, .slice ya yn ym] 112)))
 have HB := Lib.hid ((Below.refl w.heap.size w).alloc (Nat.le_refl _) (.cells #[.string (bs [c]), .int .u8 xc, .slice ya yn ym] 112))
 have HK := Lib.hid (Blk.new w #[.string (bs [c]), .int .u8 xc, .slice ya yn ym] 112)
 clear D hr hs hs'
 generalize wenv i 0 = e0 at *
 generalize wenv i 1 = e1 at *
 generalize wenv i 2 = e2 at *
 generalize wenv i 3 = e3 at *
 generalize wenv i 4 = e4 at *
 generalize wenv i 5 = e5 at *
 generalize val (wenv i) t = vv at *
 generalize ((ixx p0 p1 p2 + 27 * ixx q0 q1 q2 : Nat) : Int) = res at *
 go_enter Tryz.func199, Tryz.ntmps199
 go_wp2_with fail
 generalize w.alloc (.cells #[.string (bs [c]), .int .u8 xc, .slice ya yn ym] 112) = wa at *
 refine (P _).out.mono ?_
 rintro e w1 ⟨rfl, hb⟩
 have HB1 := Lib.hid (bnext HB.out hb)
 have HK1 := Lib.hid (HK.out.kept hb)
 have HR1 := Lib.hid (HR.out.below hb)
 clear hb HK HR HB
 have HA1 := Lib.hid (Blk.new w1 #[.int .i64 e0, .int .i64 e1, .int .i64 e2, .int .i64 e3, .int .i64 e4, .int .i64 e5] 242)
 have hbx := (Below.refl _ w1).alloc (Nat.le_refl _) (.cells #[.int .i64 e0, .int .i64 e1, .int .i64 e2, .int .i64 e3, .int .i64 e4, .int .i64 e5] 242)
 have HBx := Lib.hid (bnext HB1.out hbx)
 have HRx := Lib.hid (HR1.out.below hbx)
 have HKx := Lib.hid (HK1.out.kept hbx)
 clear hbx HB1 HR1 HK1
 go_wp2_with fail
 generalize w1.alloc (.cells #[.int .i64 e0, .int .i64 e1, .int .i64 e2, .int .i64 e3, .int .i64 e4, .int .i64 e5] 242) = w0 at *
 have q0 : w0.cell? ⟨w.heap.size, 0, none⟩ = some (.string (bs [c])) := HKx.out.cell 0
 have q1 : w0.cell? ⟨w.heap.size, 1, none⟩ = some (.int .u8 xc) := HKx.out.cell 1
 have q2 : w0.cell? ⟨w.heap.size, 2, none⟩ = some (.slice ya yn ym) := HKx.out.cell 2
 have r0 : w0.cell? ⟨w1.heap.size, 0, none⟩ = some (.int .i64 e0) := HA1.out.cell 0
 have r1 : w0.cell? ⟨w1.heap.size, 1, none⟩ = some (.int .i64 e1) := HA1.out.cell 1
 have r2 : w0.cell? ⟨w1.heap.size, 2, none⟩ = some (.int .i64 e2) := HA1.out.cell 2
 have r3 : w0.cell? ⟨w1.heap.size, 3, none⟩ = some (.int .i64 e3) := HA1.out.cell 3
 have r4 : w0.cell? ⟨w1.heap.size, 4, none⟩ = some (.int .i64 e4) := HA1.out.cell 4
 have r5 : w0.cell? ⟨w1.heap.size, 5, none⟩ = some (.int .i64 e5) := HA1.out.cell 5
 have hbb := (Below.refl w0.heap.size w0).drew
 have RG : ∀ w', Below w0.heap.size w0 w' → Below w0.heap.size w0 w' ∧ w'.cell? ⟨w.heap.size, 0, none⟩ = some (.string (bs [c])) ∧ w'.cell? ⟨w.heap.size, 1, none⟩ = some (.int .u8 xc) ∧ w'.cell? ⟨w.heap.size, 2, none⟩ = some (.slice ya yn ym) ∧
   w'.cell? ⟨w1.heap.size, 0, none⟩ = some (.int .i64 e0) ∧ w'.cell? ⟨w1.heap.size, 1, none⟩ = some (.int .i64 e1) ∧ w'.cell? ⟨w1.heap.size, 2, none⟩ = some (.int .i64 e2) ∧ w'.cell? ⟨w1.heap.size, 3, none⟩ = some (.int .i64 e3) ∧ w'.cell? ⟨w1.heap.size, 4, none⟩ = some (.int .i64 e4) ∧ w'.cell? ⟨w1.heap.size, 5, none⟩ = some (.int .i64 e5) :=
  fun w' h => ⟨h, ckeep h q0, ckeep h q1, ckeep h q2, ckeep h r0, ckeep h r1, ckeep h r2, ckeep h r3, ckeep h r4, ckeep h r5⟩
 have RG' := Lib.hid RG
 clear RG
 go_region_held3 (fun w' => Below w0.heap.size w0 w' ∧ w'.cell? ⟨w.heap.size, 0, none⟩ = some (.string (bs [c])) ∧ w'.cell? ⟨w.heap.size, 1, none⟩ = some (.int .u8 xc) ∧ w'.cell? ⟨w.heap.size, 2, none⟩ = some (.slice ya yn ym) ∧
   w'.cell? ⟨w1.heap.size, 0, none⟩ = some (.int .i64 e0) ∧ w'.cell? ⟨w1.heap.size, 1, none⟩ = some (.int .i64 e1) ∧ w'.cell? ⟨w1.heap.size, 2, none⟩ = some (.int .i64 e2) ∧ w'.cell? ⟨w1.heap.size, 3, none⟩ = some (.int .i64 e3) ∧ w'.cell? ⟨w1.heap.size, 4, none⟩ = some (.int .i64 e4) ∧ w'.cell? ⟨w1.heap.size, 5, none⟩ = some (.int .i64 e5))
  ((first
   | exact RG'.out _ (by assumption)
   | (go_split_ands; exact RG'.out _ (by assumption))
   | (go_split_ands; exact RG'.out _ (bnext (by assumption) hq))))
  (first
   | (go_at_call 247; (with_reducible refine (V _ (HRx.out.below (by go_split_ands; assumption))).out.mono ?_); rintro e w5 ⟨rfl, hq⟩)
   | (go_at_call 246; (with_reducible refine (D' _).out.mono ?_); rintro e w5 ⟨rfl, hq⟩)
   | (go_at_call 248; (with_reducible refine (I _).out.mono ?_); rintro e w5 ⟨rfl, hq⟩))
 all_goals
  go_split_ands
  have HF := Lib.hid (bnext HBx.out (by assumption))
  go_wp2_with fail
  go_ret
  exact ⟨rfl, HF.out⟩
theorem wst3 {k : Nat} (hk : k < 729) : (val3 (wenv k 0) = true ∧ val3 (wenv k 1) = true ∧ val3 (wenv k 2) = true) ∧ val3 (wenv k 3) = true ∧ val3 (wenv k 4) = true ∧ val3 (wenv k 5) = true := by
 have h := wenv_bd hk
 exact ⟨⟨val3_t (h 0).1 (by have := (h 0).2; omega), val3_t (h 1).1 (by have := (h 1).2; omega), val3_t (h 2).1 (by have := (h 2).2; omega)⟩, val3_t (h 3).1 (by have := (h 3).2; omega), val3_t (h 4).1 (by have := (h 4).2; omega), val3_t (h 5).1 (by have := (h 5).2; omega)⟩
theorem ixx_env0 {k : Nat} : ixx (wenv k 0) (wenv k 1) (wenv k 2) = k % 27 := by
 show ixx (ax _) (ay _) (az _) = _
 unfold ixx
 rw [at_ix]; omega
theorem ixx_env3 {k : Nat} : ixx (wenv k 3) (wenv k 4) (wenv k 5) = k / 27 := by
 show ixx (ax _) (ay _) (az _) = _
 unfold ixx
 rw [at_ix]; omega
theorem step_any (c : UInt8) (hc : c = 120 ∨ c = 121 ∨ c = 122 ∨ c = 88 ∨ c = 89 ∨ c = 90) (i : Nat) (t : Tm) (B : Nat) (xc : Int) (ya : Option Addr) (yn ym : Nat) (w : World) (hi : i < 729) (ht : Ok true false t) (hr : RepT w B t (.int .u8 xc) (.slice ya yn ym)) :
  Calls Tryz.prog 199 #[.agg #[.string (bs [c]), .int .u8 xc, .slice ya yn ym], .int .i64 i] w fun e w' => e = .returned (.int .i64 (wasg c t i : Nat)) ∧ Below w.heap.size w w' := by
 obtain ⟨⟨h0, h1, h2⟩, h3, h4, h5⟩ := wst3 hi
 have hv := wval ht hi
 have a := st3_of h0 h1 h2
 have b := st3_of h3 h4 h5
 unfold wasg wset
 rcases hc with rfl | rfl | rfl | rfl | rfl | rfl
 ·rw [if_neg (by decide), ← ixx_env3 (k := i)]
  exact step_of 120 i hi t B xc ya yn ym _ _ _ _ _ _ w ht hr (st3_of hv h1 h2) b (fun w => pair_with_0 _ _ _ _ _ _ _ w)
 ·rw [if_neg (by decide), ← ixx_env3 (k := i)]
  exact step_of 121 i hi t B xc ya yn ym _ _ _ _ _ _ w ht hr (st3_of h0 hv h2) b (fun w => pair_with_1 _ _ _ _ _ _ _ w)
 ·rw [if_neg (by decide), ← ixx_env3 (k := i)]
  exact step_of 122 i hi t B xc ya yn ym _ _ _ _ _ _ w ht hr (st3_of h0 h1 hv) b (fun w => pair_with_2 _ _ _ _ _ _ _ w)
 ·rw [if_pos (by decide), ← ixx_env0 (k := i)]
  exact step_of 88 i hi t B xc ya yn ym _ _ _ _ _ _ w ht hr a (st3_of hv h4 h5) (fun w => pair_with_3 _ _ _ _ _ _ _ w)
 ·rw [if_pos (by decide), ← ixx_env0 (k := i)]
  exact step_of 89 i hi t B xc ya yn ym _ _ _ _ _ _ w ht hr a (st3_of h3 hv h5) (fun w => pair_with_4 _ _ _ _ _ _ _ w)
 ·rw [if_pos (by decide), ← ixx_env0 (k := i)]
  exact step_of 90 i hi t B xc ya yn ym _ _ _ _ _ _ w ht hr a (st3_of h3 h4 hv) (fun w => pair_with_5 _ _ _ _ _ _ _ w)
end Go.Proofs.YtgkoljphndgoeaaGreatDoor
namespace Go.Proofs.YtgkoljphndgoeaaGreatDoor
open Go.RowKit
def ptC (l : List Pt) : List Value := l.flatMap fun p => [.int .i64 p.1, .int .i64 p.2]
theorem ptC_app (l l' : List Pt) : ptC (l ++ l') = ptC l ++ ptC l' := by simp [ptC]
theorem ptC_get : ∀ {l : List Pt} {k : Nat} {p : Pt}, l[k]? = some p → (ptC l)[k * 2]? = some (.int .i64 p.1) ∧ (ptC l)[k * 2 + 1]? = some (.int .i64 p.2) := by
 intro l
 induction l with
 | nil => intro k p h; simp at h
 | cons x l ih =>
  intro k p h
  cases k with
  | zero => simp at h; subst h; exact ⟨rfl, rfl⟩
  | succ k =>
   have h' := ih (by simpa using h)
   rw [show ptC (x :: l) = [.int .i64 x.1, .int .i64 x.2] ++ ptC l from rfl, show (k + 1) * 2 = 2 + k * 2 by omega]
   refine ⟨?_, ?_⟩ <;> rw [List.getElem?_append_right (by show 2 ≤ _; omega)]
   ·rw [show 2 + k * 2 - [Value.int .i64 (x.1 : Int), .int .i64 x.2].length = k * 2 by simp]; exact h'.1
   ·rw [show 2 + k * 2 + 1 - [Value.int .i64 (x.1 : Int), .int .i64 x.2].length = k * 2 + 1 by show 2 + k * 2 + 1 - 2 = _; omega]; exact h'.2
def PRow (w : World) (B : Nat) (v : Value) (l : List Pt) : Prop := w.ownsRow B 221 2 v l.length (ptC l)
theorem infoPt : (Tryz.prog.info? 221).map (fun i => (i.zero, i.size, i.bytes)) = some (some (.agg #[.int .i64 0, .int .i64 0]), 2, 16) := by kernel_rfl
theorem PRow.nil (w : World) (B : Nat) : PRow w B (.slice none 0 0) [] := ⟨rfl, .inl ⟨rfl, rfl⟩⟩
theorem PRow.nil0 (w : World) (B : Nat) : w.ownsRow B 221 2 (.slice none 0 0) 0 [] := ⟨rfl, .inl ⟨rfl, rfl⟩⟩
def FollPost (l : List Pt) (w : World) (e : Ending) (w' : World) : Prop := ∃ v, e = .returned v ∧ PRow w' w.heap.size v l ∧ Below w.heap.size w w'
def NxS (w : World) (v : Value) (l : List Nat) : Prop := ∃ a cap, v = .slice a l.length cap ∧ l.length ≤ cap ∧ (l = [] ∨ ∃ b o, a = some ⟨b, o, none⟩ ∧ ∀ j n, l[j]? = some n → w.cell? ⟨b, o + j, none⟩ = some (.int .i64 (n : Nat)))
theorem NxS.kept {w w' : World} {v : Value} {l : List Nat} (h : NxS w v l) (hb : Below w.heap.size w w') : NxS w' v l := by
 obtain ⟨a, cap, h1, h2, h3⟩ := h
 refine ⟨a, cap, h1, h2, ?_⟩
 rcases h3 with h3 | ⟨b, o, h3, h4⟩
 ·exact .inl h3
 ·exact .inr ⟨b, o, h3, fun j n hj => ckeep hb (h4 j n hj)⟩
def StopR (w : World) (B : Nat) (s : Stp) (x y : Value) : Prop :=
 match s.d with
 | none => x = .nilIface ∧ y = .slice none 0 0 ∧ s.nx = []
 | some p => StV w B p x ∧ ∃ b, y = .slice (some ⟨b, 0, none⟩) s.nx.length s.nx.length ∧ ∀ j n, s.nx[j]? = some n → w.cell? ⟨b, j, none⟩ = some (.int .i64 (n : Nat))
def FlowR (w : World) (B : Nat) (sp : Value) (G : List Stp) : Prop := ∃ rb cap, sp = .slice (some ⟨rb, 0, none⟩) G.length cap ∧ G.length ≤ cap ∧ ∀ k s, G[k]? = some s → ∃ x y, w.cell? ⟨rb, k * 2, none⟩ = some x ∧ w.cell? ⟨rb, k * 2 + 1, none⟩ = some y ∧ StopR w B s x y
set_option maxRecDepth 100000 in
set_option maxHeartbeats 4000000 in
theorem foll_plain (rb : Nat) (n cap k : Nat) (st : Int) (i : Nat) (x z z2 : Value) (a : Option Addr) (c2 : Nat) (l : List Nat) (w : World) (hk : k < n) (_hc : n ≤ cap) (hl : l.length ≤ 2)
  (hx : w.cell? ⟨rb, k * 2, none⟩ = some x) (hy : w.cell? ⟨rb, k * 2 + 1, none⟩ = some (.slice a l.length c2)) (hn : NxS w (.slice a l.length c2) l)
  (ta : ∀ W, (Instr.typeAssert x 72 116 true).run Tryz.prog W = .ok (.tuple #[z, .bool false]) W)
  (tg : ∀ W, (Instr.typeAssert x 72 303 true).run Tryz.prog W = .ok (.tuple #[z2, .bool false]) W) :
  Calls Tryz.prog 259 #[.agg #[.slice (some ⟨rb, 0, none⟩) n cap, .int .i64 st], .agg #[.int .i64 k, .int .i64 i]] w (FollPost (l.map (·, i)) w) := by
 obtain ⟨i0, hi0, hz0, hz1, hz2⟩ := info_parts infoPt
 have W1 := Blk.new w #[.slice (some ⟨rb, 0, none⟩) n cap, .int .i64 st] 131
 have b1 := (Below.refl w.heap.size w).alloc (Nat.le_refl _) (.cells #[.slice (some ⟨rb, 0, none⟩) n cap, .int .i64 st] 131)
 have W2 := Blk.new (w.alloc (.cells #[.slice (some ⟨rb, 0, none⟩) n cap, .int .i64 st] 131)) #[.int .i64 k, .int .i64 i] 221
 have b2 := b1.alloc (by simp) (.cells #[.int .i64 k, .int .i64 i] 221)
 have W1' := W1.alloc (.cells #[.int .i64 k, .int .i64 i] 221)
 have e0 : (w.alloc (.cells #[.slice (some ⟨rb, 0, none⟩) n cap, .int .i64 st] 131)).heap.size = w.heap.size + 1 := by simp
 rw [e0] at W2
 clear W1 b1 e0
 go_enter Tryz.func259, Tryz.ntmps259
 go_wp2_with fail
 generalize (w.alloc (.cells #[.slice (some ⟨rb, 0, none⟩) n cap, .int .i64 st] 131)).alloc (.cells #[.int .i64 k, .int .i64 i] 221) = w0 at *
 have j0 := W1'.cell 0
 have j1 := W1'.cell 1
 have p0 := W2.cell 0
 have p1 := W2.cell 1
 simp at j0 j1 p0 p1
 have hx0 := ckeep b2 hx
 have hy0 := ckeep b2 hy
 have hkc : (k : Int) < n := by omega
 have HNK := Lib.hid hn
 have B2 := Lib.hid b2
 clear hn b2 hx hy W1' W2
 go_quiet (fail)
 go_wp2_with fail
 have HB0 := Lib.hid (bdrewN B2.out nq)
 clear B2
 generalize w0.drewN nq = wl at *
 go_loopw [9, 47] (fun v j wr => ∃ k : Nat, k ≤ l.length ∧ j = .int .i64 k ∧ Hid (PRow wr w.heap.size v ((l.take k).map (·, i))) ∧ Hid (Below w.heap.size w wr)) (fun _ j _ => l.length - (intOf j).toNat)
 case atStart => exact ⟨0, by omega, rfl, PRow.nil _ _, HB0⟩
 case round =>
  clear HB0
  obtain ⟨k, hk, rfl, HR, HB⟩ := hrel
  by_cases hlt : k < l.length
  ·have hlt2 : (k : Int) < l.length := by omega
   obtain ⟨a', cap', e1, h4, h5⟩ := HNK.out.kept HB.out
   injection e1 with e1 _ e2
   subst e1 e2
   rcases h5 with h5 | ⟨b, o, h5, h6⟩
   ·rw [h5] at hlt; simp at hlt
   subst h5
   have hc := h6 k l[k] (List.getElem?_eq_getElem hlt)
   have HS := Lib.hid (List.take_succ_eq_append_getElem hlt)
   generalize l[k] = m at hc HS
   clear h6
   have hlen : ((l.take k).map (fun x => ((x, i) : Pt))).length = k := by simp; omega
   have HL := Lib.hid hlen
   have HR2 := Lib.hid (show wr.ownsRow w.heap.size 221 2 u9 k (ptC ((l.take k).map (fun x => ((x, i) : Pt)))) from by have := HR.out; unfold PRow at this; rw [HL.out] at this; exact this)
   clear HR hlen
   go_wp2_with (at_builtin; refine wpList_append_lies _ (by rfl) _ _ _ (by rfl) w.heap.size 221 i0 _ 2 16 Tryz.underlying286 hi0 hz0 hz1 hz2 rfl (by omega) _ _ _ (by rfl) (World.ownsRow.alloc HR2.out _) ⟨wr.heap.size, 0, none⟩ 1 1 [.int .i64 (m : Int), .int .i64 (i : Int)] (by rfl) (by rfl) (World.news_of_block (cs := #[.int .i64 (m : Int), .int .i64 (i : Int)]) (t := 221) (fr := (0, 0)) (heap_alloc_new wr _)) (by simp [Value.oneCell']) (by omega) (by unfold maxLen; omega) (by omega) (by have := HB.out.size; simp; omega) (wr.heap.size + 1) (by simp) ?_; intro g3 cap3 w3 hown hgrow hat hlt3)
   have hb3 := (HB.out.alloc HB.out.size _).grown hgrow (by have := HB.out.size; simp; omega) (fun k hk => (World.ownsRow.lt HR2.out k hk).1)
   refine ⟨⟨k + 1, by omega, by go_num, ?_, hb3⟩, by simp [intOf]; omega⟩
   show w3.ownsRow _ _ _ _ _ _
   rw [HS.out, List.map_append, ptC_app]
   simp only [List.length_append, HL.out]
   exact hown
  ·have hk2 : k = l.length := by omega
   subst hk2
   have HR2 := Lib.hid (show PRow wr w.heap.size u9 (l.map (·, i)) from by have := HR.out; rwa [List.take_length] at this)
   clear HR
   go_wp2_with fail
   go_ret
   exact ⟨_, rfl, HR2.out, HB.out⟩
set_option maxRecDepth 100000 in
set_option maxHeartbeats 4000000 in
theorem foll_asg (rb : Nat) (n cap k : Nat) (st : Int) (i : Nat) (v : UInt8) (xc : Int) (ya : Option Addr) (yn ym : Nat) (a : Option Addr) (c2 : Nat) (l : List Nat) (sv : Nat) (w : World) (hk : k < n) (_hc : n ≤ cap) (hl : l.length ≤ 2)
  (hx : w.cell? ⟨rb, k * 2, none⟩ = some (.iface 116 (.agg #[.string (bs [v]), .int .u8 xc, .slice ya yn ym]))) (hy : w.cell? ⟨rb, k * 2 + 1, none⟩ = some (.slice a l.length c2)) (hn : NxS w (.slice a l.length c2) l)
  (S : ∀ w', Below w.heap.size w w' → Calls Tryz.prog 199 #[.agg #[.string (bs [v]), .int .u8 xc, .slice ya yn ym], .int .i64 i] w' fun e w2 => e = .returned (.int .i64 (sv : Nat)) ∧ Below w'.heap.size w' w2) :
  Calls Tryz.prog 259 #[.agg #[.slice (some ⟨rb, 0, none⟩) n cap, .int .i64 st], .agg #[.int .i64 k, .int .i64 i]] w (FollPost (l.map (·, sv)) w) := by
 have HS := Lib.hid S
 clear S
 have ta := tas_asg_asg (.agg #[.string (bs [v]), .int .u8 xc, .slice ya yn ym])
 obtain ⟨i0, hi0, hz0, hz1, hz2⟩ := info_parts infoPt
 have W1 := Blk.new w #[.slice (some ⟨rb, 0, none⟩) n cap, .int .i64 st] 131
 have b1 := (Below.refl w.heap.size w).alloc (Nat.le_refl _) (.cells #[.slice (some ⟨rb, 0, none⟩) n cap, .int .i64 st] 131)
 have W2 := Blk.new (w.alloc (.cells #[.slice (some ⟨rb, 0, none⟩) n cap, .int .i64 st] 131)) #[.int .i64 k, .int .i64 i] 221
 have b2 := b1.alloc (by simp) (.cells #[.int .i64 k, .int .i64 i] 221)
 have W1' := W1.alloc (.cells #[.int .i64 k, .int .i64 i] 221)
 have e0 : (w.alloc (.cells #[.slice (some ⟨rb, 0, none⟩) n cap, .int .i64 st] 131)).heap.size = w.heap.size + 1 := by simp
 rw [e0] at W2
 clear W1 b1 e0
 go_enter Tryz.func259, Tryz.ntmps259
 go_wp2_with fail
 generalize (w.alloc (.cells #[.slice (some ⟨rb, 0, none⟩) n cap, .int .i64 st] 131)).alloc (.cells #[.int .i64 k, .int .i64 i] 221) = w0 at *
 have j0 := W1'.cell 0
 have j1 := W1'.cell 1
 have p0 := W2.cell 0
 have p1 := W2.cell 1
 simp at j0 j1 p0 p1
 have hx0 := ckeep b2 hx
 have hy0 := ckeep b2 hy
 have hkc : (k : Int) < n := by omega
 have HNK := Lib.hid hn
 have B2 := Lib.hid b2
 clear hn b2 hx hy W1' W2
 go_quiet (fail)
 have k0 : (w0.drewN nq).cell? ⟨w.heap.size, 0, none⟩ = _ := j0
 have k1 : (w0.drewN nq).cell? ⟨w.heap.size, 1, none⟩ = _ := j1
 have k2 : (w0.drewN nq).cell? ⟨w.heap.size + 1, 0, none⟩ = _ := p0
 have k3 : (w0.drewN nq).cell? ⟨rb, k * 2, none⟩ = _ := hx0
 have B2' := Lib.hid (bdrewN B2.out nq)
 clear j0 j1 p0 p1 hx0 hy0 B2
 generalize w0.drewN nq = wq at *
 go_wp2_with fail
 have b3 := B2'.out.alloc (by have := B2'.out.size; omega) (.cells #[.string (bs [v]), .int .u8 xc, .slice ya yn ym] 116)
 refine (HS.out _ b3).mono ?_
 rintro e w2 ⟨rfl, hq⟩
 have B3 := Lib.hid (bnext b3 hq)
 clear b3 hq B2'
 go_wp2_with fail
 have HB0 := B3
 clear B3
 go_loopw [9, 47] (fun v j wr => ∃ k : Nat, k ≤ l.length ∧ j = .int .i64 k ∧ Hid (PRow wr w.heap.size v ((l.take k).map (·, sv))) ∧ Hid (Below w.heap.size w wr)) (fun _ j _ => l.length - (intOf j).toNat)
 case atStart => exact ⟨0, by omega, rfl, PRow.nil _ _, HB0⟩
 case round =>
  clear HB0
  obtain ⟨k, hk, rfl, HR, HB⟩ := hrel
  by_cases hlt : k < l.length
  ·have hlt2 : (k : Int) < l.length := by omega
   obtain ⟨a', cap', e1, h4, h5⟩ := HNK.out.kept HB.out
   injection e1 with e1 _ e2
   subst e1 e2
   rcases h5 with h5 | ⟨b, o, h5, h6⟩
   ·rw [h5] at hlt; simp at hlt
   subst h5
   have hc := h6 k l[k] (List.getElem?_eq_getElem hlt)
   have HS := Lib.hid (List.take_succ_eq_append_getElem hlt)
   generalize l[k] = m at hc HS
   clear h6
   have hlen : ((l.take k).map (fun x => ((x, sv) : Pt))).length = k := by simp; omega
   have HL := Lib.hid hlen
   have HR2 := Lib.hid (show wr.ownsRow w.heap.size 221 2 u9 k (ptC ((l.take k).map (fun x => ((x, sv) : Pt)))) from by have := HR.out; unfold PRow at this; rw [HL.out] at this; exact this)
   clear HR hlen
   go_wp2_with (at_builtin; refine wpList_append_lies _ (by rfl) _ _ _ (by rfl) w.heap.size 221 i0 _ 2 16 Tryz.underlying286 hi0 hz0 hz1 hz2 rfl (by omega) _ _ _ (by rfl) (World.ownsRow.alloc HR2.out _) ⟨wr.heap.size, 0, none⟩ 1 1 [.int .i64 (m : Int), .int .i64 (sv : Int)] (by rfl) (by rfl) (World.news_of_block (cs := #[.int .i64 (m : Int), .int .i64 (sv : Int)]) (t := 221) (fr := (0, 0)) (heap_alloc_new wr _)) (by simp [Value.oneCell']) (by omega) (by unfold maxLen; omega) (by omega) (by have := HB.out.size; simp; omega) (wr.heap.size + 1) (by simp) ?_; intro g3 cap3 w3 hown hgrow hat hlt3)
   have hb3 := (HB.out.alloc HB.out.size _).grown hgrow (by have := HB.out.size; simp; omega) (fun k hk => (World.ownsRow.lt HR2.out k hk).1)
   refine ⟨⟨k + 1, by omega, by go_num, ?_, hb3⟩, by simp [intOf]; omega⟩
   show w3.ownsRow _ _ _ _ _ _
   rw [HS.out, List.map_append, ptC_app]
   simp only [List.length_append, HL.out]
   exact hown
  ·have hk2 : k = l.length := by omega
   subst hk2
   have HR2 := Lib.hid (show PRow wr w.heap.size u9 (l.map (·, sv)) from by have := HR.out; rwa [List.take_length] at this)
   clear HR
   go_wp2_with fail
   go_ret
   exact ⟨_, rfl, HR2.out, HB.out⟩
set_option maxRecDepth 100000 in
set_option maxHeartbeats 4000000 in
theorem foll_grd_t (rb : Nat) (n cap k : Nat) (st : Int) (i : Nat) (T : TypeId) (u z : Value) (f : Nat) (rc : Value) (b0 : Nat) (c n1 : Nat) (hc1 : 1 ≤ c) (w : World) (hk : k < n) (_hc : n ≤ cap)
  (hx : w.cell? ⟨rb, k * 2, none⟩ = some (.iface T u)) (hy : w.cell? ⟨rb, k * 2 + 1, none⟩ = some (.slice (some ⟨b0, 0, none⟩) c c)) (hn1 : w.cell? ⟨b0, 0, none⟩ = some (.int .i64 (n1 : Nat)))
  (ta : ∀ W, (Instr.typeAssert (.iface T u) 72 116 true).run Tryz.prog W = .ok (.tuple #[z, .bool false]) W)
  (tg : ∀ W, (Instr.typeAssert (.iface T u) 72 303 true).run Tryz.prog W = .ok (.tuple #[.iface T u, .bool true]) W)
  (tm : ∀ w, (method 449 T u "loop.example/productprograms/impl.passes").run Tryz.prog w = .ok (f, rc) w) (tf : ∀ (a : Array Value) w, (callFunc f a).run Tryz.prog w = .ok (.enter f a) w)
  (S : ∀ w', Below w.heap.size w w' → Calls Tryz.prog f #[rc, .int .i64 i] w' fun e w2 => e = .returned (.bool true) ∧ Below w'.heap.size w' w2) :
  Calls Tryz.prog 259 #[.agg #[.slice (some ⟨rb, 0, none⟩) n cap, .int .i64 st], .agg #[.int .i64 k, .int .i64 i]] w (FollPost [(n1, i)] w) := by
 have HS := Lib.hid S
 clear S
 obtain ⟨i0, hi0, hz0, hz1, hz2⟩ := info_parts infoPt
 have W1 := Blk.new w #[.slice (some ⟨rb, 0, none⟩) n cap, .int .i64 st] 131
 have b1 := (Below.refl w.heap.size w).alloc (Nat.le_refl _) (.cells #[.slice (some ⟨rb, 0, none⟩) n cap, .int .i64 st] 131)
 have W2 := Blk.new (w.alloc (.cells #[.slice (some ⟨rb, 0, none⟩) n cap, .int .i64 st] 131)) #[.int .i64 k, .int .i64 i] 221
 have b2 := b1.alloc (by simp) (.cells #[.int .i64 k, .int .i64 i] 221)
 have W1' := W1.alloc (.cells #[.int .i64 k, .int .i64 i] 221)
 have e0 : (w.alloc (.cells #[.slice (some ⟨rb, 0, none⟩) n cap, .int .i64 st] 131)).heap.size = w.heap.size + 1 := by simp
 rw [e0] at W2
 clear W1 b1 e0
 go_enter Tryz.func259, Tryz.ntmps259
 go_wp2_with fail
 generalize (w.alloc (.cells #[.slice (some ⟨rb, 0, none⟩) n cap, .int .i64 st] 131)).alloc (.cells #[.int .i64 k, .int .i64 i] 221) = w0 at *
 have j0 := W1'.cell 0
 have j1 := W1'.cell 1
 have p0 := W2.cell 0
 have p1 := W2.cell 1
 simp at j0 j1 p0 p1
 have hx0 := ckeep b2 hx
 have hy0 := ckeep b2 hy
 have hkc : (k : Int) < n := by omega
 have B2 := Lib.hid b2
 clear b2 hx hy W1' W2
 go_quiet (fail)
 go_wp2_with fail
 have b3 := bdrewN B2.out nq
 refine (HS.out _ b3).mono ?_
 rintro e w2 ⟨rfl, hq⟩
 have b4 := bnext b3 hq
 have hc2 : (1 : Int) ≤ c := by omega
 have c0 := ckeep b4 hn1
 have B4 := Lib.hid b4
 clear b3 b4 hq B2 hn1
 go_wp2_with fail
 refine wp_loop_rounds 2 ?_
 rw [rounds_succ]
 go_wp2_with (at_builtin; refine wpList_append_lies _ (by rfl) _ _ _ (by rfl) w.heap.size 221 i0 _ 2 16 Tryz.underlying286 hi0 hz0 hz1 hz2 rfl (by omega) _ _ _ (by rfl) (PRow.nil0 _ _) ⟨w2.heap.size, 0, none⟩ 1 1 [.int .i64 (n1 : Int), .int .i64 (i : Int)] (by rfl) (by rfl) (World.news_of_block (cs := #[.int .i64 (n1 : Int), .int .i64 (i : Int)]) (t := 221) (fr := (0, 0)) (heap_alloc_new w2 _)) (by simp [Value.oneCell']) (by omega) (by unfold maxLen; omega) (by omega) (by have := B4.out.size; simp; omega) (w2.heap.size + 1) (by simp) ?_; intro g3 cap3 w3 hown hgrow hat hlt3)
 have HO := Lib.hid hown
 have b5 := Lib.hid ((B4.out.alloc B4.out.size _).grown hgrow (by have := B4.out.size; simp; omega) (fun k hk => by simp [Value.ownBlock] at hk))
 clear hown hgrow hat hlt3 c0
 rw [rounds_succ]
 go_wp2_with fail
 go_ret
 exact ⟨_, rfl, HO.out, b5.out⟩
set_option maxRecDepth 100000 in
set_option maxHeartbeats 4000000 in
theorem foll_grd_f (rb : Nat) (n cap k : Nat) (st : Int) (i : Nat) (T : TypeId) (u z : Value) (f : Nat) (rc : Value) (b0 : Nat) (n2 : Nat) (w : World) (hk : k < n) (_hc : n ≤ cap)
  (hx : w.cell? ⟨rb, k * 2, none⟩ = some (.iface T u)) (hy : w.cell? ⟨rb, k * 2 + 1, none⟩ = some (.slice (some ⟨b0, 0, none⟩) 2 2)) (hn2 : w.cell? ⟨b0, 1, none⟩ = some (.int .i64 (n2 : Nat)))
  (ta : ∀ W, (Instr.typeAssert (.iface T u) 72 116 true).run Tryz.prog W = .ok (.tuple #[z, .bool false]) W)
  (tg : ∀ W, (Instr.typeAssert (.iface T u) 72 303 true).run Tryz.prog W = .ok (.tuple #[.iface T u, .bool true]) W)
  (tm : ∀ w, (method 449 T u "loop.example/productprograms/impl.passes").run Tryz.prog w = .ok (f, rc) w) (tf : ∀ (a : Array Value) w, (callFunc f a).run Tryz.prog w = .ok (.enter f a) w)
  (S : ∀ w', Below w.heap.size w w' → Calls Tryz.prog f #[rc, .int .i64 i] w' fun e w2 => e = .returned (.bool false) ∧ Below w'.heap.size w' w2) :
  Calls Tryz.prog 259 #[.agg #[.slice (some ⟨rb, 0, none⟩) n cap, .int .i64 st], .agg #[.int .i64 k, .int .i64 i]] w (FollPost [(n2, i)] w) := by
 have HS := Lib.hid S
 clear S
 obtain ⟨i0, hi0, hz0, hz1, hz2⟩ := info_parts infoPt
 have W1 := Blk.new w #[.slice (some ⟨rb, 0, none⟩) n cap, .int .i64 st] 131
 have b1 := (Below.refl w.heap.size w).alloc (Nat.le_refl _) (.cells #[.slice (some ⟨rb, 0, none⟩) n cap, .int .i64 st] 131)
 have W2 := Blk.new (w.alloc (.cells #[.slice (some ⟨rb, 0, none⟩) n cap, .int .i64 st] 131)) #[.int .i64 k, .int .i64 i] 221
 have b2 := b1.alloc (by simp) (.cells #[.int .i64 k, .int .i64 i] 221)
 have W1' := W1.alloc (.cells #[.int .i64 k, .int .i64 i] 221)
 have e0 : (w.alloc (.cells #[.slice (some ⟨rb, 0, none⟩) n cap, .int .i64 st] 131)).heap.size = w.heap.size + 1 := by simp
 rw [e0] at W2
 clear W1 b1 e0
 go_enter Tryz.func259, Tryz.ntmps259
 go_wp2_with fail
 generalize (w.alloc (.cells #[.slice (some ⟨rb, 0, none⟩) n cap, .int .i64 st] 131)).alloc (.cells #[.int .i64 k, .int .i64 i] 221) = w0 at *
 have j0 := W1'.cell 0
 have j1 := W1'.cell 1
 have p0 := W2.cell 0
 have p1 := W2.cell 1
 simp at j0 j1 p0 p1
 have hx0 := ckeep b2 hx
 have hy0 := ckeep b2 hy
 have hkc : (k : Int) < n := by omega
 have B2 := Lib.hid b2
 clear b2 hx hy W1' W2
 go_quiet (fail)
 go_wp2_with fail
 have b3 := bdrewN B2.out nq
 refine (HS.out _ b3).mono ?_
 rintro e w2 ⟨rfl, hq⟩
 have b4 := bnext b3 hq
 have c0 := ckeep b4 hn2
 have B4 := Lib.hid b4
 clear b3 b4 hq B2 hn2
 go_wp2_with fail
 refine wp_loop_rounds 2 ?_
 rw [rounds_succ]
 go_wp2_with (at_builtin; refine wpList_append_lies _ (by rfl) _ _ _ (by rfl) w.heap.size 221 i0 _ 2 16 Tryz.underlying286 hi0 hz0 hz1 hz2 rfl (by omega) _ _ _ (by rfl) (PRow.nil0 _ _) ⟨w2.heap.size, 0, none⟩ 1 1 [.int .i64 (n2 : Int), .int .i64 (i : Int)] (by rfl) (by rfl) (World.news_of_block (cs := #[.int .i64 (n2 : Int), .int .i64 (i : Int)]) (t := 221) (fr := (0, 0)) (heap_alloc_new w2 _)) (by simp [Value.oneCell']) (by omega) (by unfold maxLen; omega) (by omega) (by have := B4.out.size; simp; omega) (w2.heap.size + 1) (by simp) ?_; intro g3 cap3 w3 hown hgrow hat hlt3)
 have HO := Lib.hid hown
 have b5 := Lib.hid ((B4.out.alloc B4.out.size _).grown hgrow (by have := B4.out.size; simp; omega) (fun k hk => by simp [Value.ownBlock] at hk))
 clear hown hgrow hat hlt3 c0
 rw [rounds_succ]
 go_wp2_with fail
 go_ret
 exact ⟨_, rfl, HO.out, b5.out⟩
set_option maxRecDepth 100000 in
set_option maxHeartbeats 4000000 in
theorem foll_grd_0 (rb : Nat) (n cap k : Nat) (st : Int) (i : Nat) (T : TypeId) (u z : Value) (f : Nat) (rc : Value) (b0 : Nat)  (w : World) (hk : k < n) (_hc : n ≤ cap)
  (hx : w.cell? ⟨rb, k * 2, none⟩ = some (.iface T u)) (hy : w.cell? ⟨rb, k * 2 + 1, none⟩ = some (.slice (some ⟨b0, 0, none⟩) 1 1))
  (ta : ∀ W, (Instr.typeAssert (.iface T u) 72 116 true).run Tryz.prog W = .ok (.tuple #[z, .bool false]) W)
  (tg : ∀ W, (Instr.typeAssert (.iface T u) 72 303 true).run Tryz.prog W = .ok (.tuple #[.iface T u, .bool true]) W)
  (tm : ∀ w, (method 449 T u "loop.example/productprograms/impl.passes").run Tryz.prog w = .ok (f, rc) w) (tf : ∀ (a : Array Value) w, (callFunc f a).run Tryz.prog w = .ok (.enter f a) w)
  (S : ∀ w', Below w.heap.size w w' → Calls Tryz.prog f #[rc, .int .i64 i] w' fun e w2 => e = .returned (.bool false) ∧ Below w'.heap.size w' w2) :
  Calls Tryz.prog 259 #[.agg #[.slice (some ⟨rb, 0, none⟩) n cap, .int .i64 st], .agg #[.int .i64 k, .int .i64 i]] w (FollPost [] w) := by
 have HS := Lib.hid S
 clear S
 obtain ⟨i0, hi0, hz0, hz1, hz2⟩ := info_parts infoPt
 have W1 := Blk.new w #[.slice (some ⟨rb, 0, none⟩) n cap, .int .i64 st] 131
 have b1 := (Below.refl w.heap.size w).alloc (Nat.le_refl _) (.cells #[.slice (some ⟨rb, 0, none⟩) n cap, .int .i64 st] 131)
 have W2 := Blk.new (w.alloc (.cells #[.slice (some ⟨rb, 0, none⟩) n cap, .int .i64 st] 131)) #[.int .i64 k, .int .i64 i] 221
 have b2 := b1.alloc (by simp) (.cells #[.int .i64 k, .int .i64 i] 221)
 have W1' := W1.alloc (.cells #[.int .i64 k, .int .i64 i] 221)
 have e0 : (w.alloc (.cells #[.slice (some ⟨rb, 0, none⟩) n cap, .int .i64 st] 131)).heap.size = w.heap.size + 1 := by simp
 rw [e0] at W2
 clear W1 b1 e0
 go_enter Tryz.func259, Tryz.ntmps259
 go_wp2_with fail
 generalize (w.alloc (.cells #[.slice (some ⟨rb, 0, none⟩) n cap, .int .i64 st] 131)).alloc (.cells #[.int .i64 k, .int .i64 i] 221) = w0 at *
 have j0 := W1'.cell 0
 have j1 := W1'.cell 1
 have p0 := W2.cell 0
 have p1 := W2.cell 1
 simp at j0 j1 p0 p1
 have hx0 := ckeep b2 hx
 have hy0 := ckeep b2 hy
 have hkc : (k : Int) < n := by omega
 have B2 := Lib.hid b2
 clear b2 hx hy W1' W2
 go_quiet (fail)
 go_wp2_with fail
 have b3 := bdrewN B2.out nq
 refine (HS.out _ b3).mono ?_
 rintro e w2 ⟨rfl, hq⟩
 have b4 := bnext b3 hq
 have B4 := Lib.hid b4
 clear b3 b4 hq B2
 go_wp2_with fail
 refine wp_loop_rounds 1 ?_
 rw [rounds_succ]
 go_wp2_with fail
 go_ret
 exact ⟨_, rfl, PRow.nil _ _, B4.out⟩
end Go.Proofs.YtgkoljphndgoeaaGreatDoor
namespace Go.Proofs.YtgkoljphndgoeaaGreatDoor
open Go.RowKit Tm
def StpOk (wide : Bool) (s : Stp) : Prop := match s.d with
 | none => s.nx = []
 | some .skip => s.nx.length = 1
 | some (.asg v e) => s.nx.length = 1 ∧ isVarB wide v = true ∧ Ok wide false e
 | some (.seq _ _) => False
 | some (.ite t _ _) => s.nx.length = 2 ∧ Ok wide true t
 | some (.whl t _) => s.nx.length = 2 ∧ Ok wide true t
 | some (.cho _ _) => s.nx.length = 2
 | some (.asm t) => s.nx.length = 1 ∧ Ok wide true t
theorem miss_some {want : Array (String × TypeId)} {got : Array Method} (h : (want.toList.filter fun (name, sig) => !got.any fun m => m.name == name && m.sig == sig).length = 1) : ∃ m, Instr.missingMethod want got = some m := by
 obtain ⟨p, hp⟩ := List.length_eq_one_iff.1 h
 unfold Instr.missingMethod
 simp only [hp, List.map_cons, List.map_nil]
 cases hc : p.1.contains '.'
 ·simp [List.partition, List.partition.loop, hc, Instr.least]
 ·simp [List.partition, List.partition.loop, hc, Instr.least]
noncomputable def wantOf (a : TypeId) : Array (String × TypeId) := match Tryz.prog.underlying a with
 | some (.interface w) => w
 | _ => #[]
theorem tas_miss {t s a : TypeId} {v z : Value} (hu : Tryz.prog.underlying a = some (.interface (wantOf a))) (hi : ∀ W, (typeInfo t).run Tryz.prog W = .ok ((Tryz.prog.info? t).getD default) W)
  (h : ((wantOf a).toList.filter fun (name, sig) => !((Tryz.prog.info? t).getD default).methods.any fun m => m.name == name && m.sig == sig).length = 1) (hz : ∀ W, (zeroValue a).run Tryz.prog W = .ok z W) (W : World) :
  (Instr.typeAssert (.iface t v) s a true).run Tryz.prog W = .ok (.tuple #[z, .bool false]) W := by
 obtain ⟨m, hm⟩ := miss_some h
 simp [Instr.typeAssert, run_underlying hu, hi, hm, hz, Result.andThen]
theorem tg_skip (v : Value) (W : World) : (Instr.typeAssert (.iface 139 v) 72 303 true).run Tryz.prog W = .ok (.tuple #[.nilIface, .bool false]) W :=
 tas_miss (by kernel_rfl) (fun W => by kernel_rfl) (by kernel_rfl) (fun W => by kernel_rfl) W
theorem tg_cho (v : Value) (W : World) : (Instr.typeAssert (.iface 150 v) 72 303 true).run Tryz.prog W = .ok (.tuple #[.nilIface, .bool false]) W :=
 tas_miss (by kernel_rfl) (fun W => by kernel_rfl) (by kernel_rfl) (fun W => by kernel_rfl) W
theorem tg_nil (W : World) : (Instr.typeAssert .nilIface 72 303 true).run Tryz.prog W = .ok (.tuple #[.nilIface, .bool false]) W := by kernel_rfl
theorem ta_nil (W : World) : (Instr.typeAssert .nilIface 72 116 true).run Tryz.prog W = .ok (.tuple #[.agg #[.string ⟨#[]⟩, .int .u8 0, .slice none 0 0], .bool false]) W := by kernel_rfl
theorem tg_ite (v : Value) (W : World) : (Instr.typeAssert (.iface 277 v) 72 303 true).run Tryz.prog W = .ok (.tuple #[.iface 277 v, .bool true]) W := by kernel_rfl
theorem tg_whl (v : Value) (W : World) : (Instr.typeAssert (.iface 156 v) 72 303 true).run Tryz.prog W = .ok (.tuple #[.iface 156 v, .bool true]) W := by kernel_rfl
theorem tg_asm (v : Value) (W : World) : (Instr.typeAssert (.iface 154 v) 72 303 true).run Tryz.prog W = .ok (.tuple #[.iface 154 v, .bool true]) W := by kernel_rfl
theorem len1 {l : List Nat} (h : l.length = 1) : ∃ a, l = [a] := by
 match l, h with
 | [a], _ => exact ⟨a, rfl⟩
theorem len2 {l : List Nat} (h : l.length = 2) : ∃ a b, l = [a, b] := by
 match l, h with
 | [a, b], _ => exact ⟨a, b, rfl⟩
theorem foll_two {w1 w : World} {rb n cap k : Nat} {st : Int} {i : Nat} {T : TypeId} {u z : Value} {f : Nat} {rc : Value} {b a1 a2 : Nat} {t : Tm} (hb : Below w1.heap.size w1 w) (hk : k < n) (hc : n ≤ cap)
  (hx : w1.cell? ⟨rb, k * 2, none⟩ = some (.iface T u)) (hy : w1.cell? ⟨rb, k * 2 + 1, none⟩ = some (.slice (some ⟨b, 0, none⟩) 2 2)) (hn : ∀ j n, [a1, a2][j]? = some n → w1.cell? ⟨b, j, none⟩ = some (.int .i64 (n : Nat)))
  (ta : ∀ W, (Instr.typeAssert (.iface T u) 72 116 true).run Tryz.prog W = .ok (.tuple #[z, .bool false]) W)
  (tg : ∀ W, (Instr.typeAssert (.iface T u) 72 303 true).run Tryz.prog W = .ok (.tuple #[.iface T u, .bool true]) W)
  (tm : ∀ w, (method 449 T u "loop.example/productprograms/impl.passes").run Tryz.prog w = .ok (f, rc) w) (tf : ∀ (a : Array Value) w, (callFunc f a).run Tryz.prog w = .ok (.enter f a) w)
  (S : ∀ w', Below w1.heap.size w1 w' → Calls Tryz.prog f #[rc, .int .i64 i] w' fun e w2 => e = .returned (.bool (wtst t i)) ∧ Below w'.heap.size w' w2) :
  Calls Tryz.prog 259 #[.agg #[.slice (some ⟨rb, 0, none⟩) n cap, .int .i64 st], .agg #[.int .i64 k, .int .i64 i]] w (FollPost (gd mdlW t [a1, a2] i) w) := by
 have S' : ∀ w', Below w.heap.size w w' → Calls Tryz.prog f #[rc, .int .i64 i] w' fun e w2 => e = .returned (.bool (wtst t i)) ∧ Below w'.heap.size w' w2 := fun w' h => S w' (bnext hb h)
 unfold gd
 show Calls _ _ _ _ (FollPost (if wtst t i = true then _ else _) w)
 by_cases h : wtst t i = true
 ·rw [if_pos h]
  simp only [h] at S'
  exact foll_grd_t rb n cap k st i T u z f rc b 2 a1 (by omega) w hk hc (ckeep hb hx) (ckeep hb hy) (ckeep hb (hn 0 a1 rfl)) ta tg tm tf S'
 ·rw [if_neg h]
  simp only [h] at S'
  exact foll_grd_f rb n cap k st i T u z f rc b a2 w hk hc (ckeep hb hx) (ckeep hb hy) (ckeep hb (hn 1 a2 rfl)) ta tg tm tf S'
theorem foll_any {w1 w : World} {B : Nat} {sp : Value} {G : List Stp} (hF : FlowR w1 B sp G) {wide : Bool} (hG : ∀ (k : Nat) (s : Stp), G[k]? = some s → StpOk wide s) (st : Int) (x : Pt) (hx : x.1 < G.length) (hi : x.2 < 729) (hb : Below w1.heap.size w1 w) :
  Calls Tryz.prog 259 #[.agg #[sp, .int .i64 st], ptV x] w (FollPost (nxp mdlW G x) w) := by
 obtain ⟨rb, cap, rfl, hcap, hs⟩ := hF
 obtain ⟨k, i⟩ := x
 simp only at hx hi
 obtain ⟨x, y, h1, h2, h3⟩ := hs k _ (List.getElem?_eq_getElem hx)
 have ho := hG k _ (List.getElem?_eq_getElem hx)
 show Calls _ _ #[_, .agg #[.int .i64 (k : Int), .int .i64 (i : Int)]] _ _
 unfold nxp
 simp only [List.getElem?_eq_getElem hx]
 generalize G[k] = s at *
 obtain ⟨d, nx⟩ := s
 unfold StopR at h3
 unfold StpOk at ho
 unfold after
 cases d with
 | none =>
  obtain ⟨rfl, rfl, e⟩ := h3
  simp only at e
  subst e
  exact foll_plain rb _ cap k st i _ _ _ none 0 [] w hx hcap (by simp) (ckeep hb h1) (ckeep hb h2) ⟨none, 0, rfl, Nat.le_refl _, .inl rfl⟩ ta_nil tg_nil
 | some p =>
  simp only at h3 ho ⊢
  obtain ⟨hv, b, rfl, hn⟩ := h3
  have hN : ∀ l : List Nat, nx = l → NxS w (.slice (some ⟨b, 0, none⟩) nx.length nx.length) nx := fun l _ => ⟨_, _, rfl, Nat.le_refl _, .inr ⟨b, 0, rfl, fun j n hj => by rw [Nat.zero_add]; exact ckeep hb (hn j n hj)⟩⟩
  cases p with
  | skip =>
   cases hv
   exact foll_plain rb _ cap k st i _ _ _ _ _ nx w hx hcap (by omega) (ckeep hb h1) (ckeep hb h2) (hN _ rfl) (tas_asg_skip _) (tg_skip _)
  | asg v e =>
   obtain ⟨a1, b1, h, hr⟩ := hv
   cases h
   obtain ⟨ya, yn, ym, rfl, rfl⟩ := hr.forms
   exact foll_asg rb _ cap k st i v _ ya yn ym _ _ nx (wasg v e i) w hx hcap (by omega) (ckeep hb h1) (ckeep hb h2) (hN _ rfl) (fun w' h' => step_any v (varW_cases ho.2.1) i e B _ ya yn ym w' hi (ok_any ho.2.2) (hr.rep.below (bnext hb h')))
  | seq p q => exact absurd ho (by simp)
  | ite t p q =>
   obtain ⟨x, y, a1, b1, h, hr, _, _⟩ := hv
   cases h
   obtain ⟨ya, yn, ym, rfl, rfl⟩ := hr.forms
   obtain ⟨m1, m2, rfl⟩ := len2 ho.1
   exact foll_two (f := 330) hb hx hcap h1 h2 hn (tas_asg_ite _) (tg_ite _) (fun w => by kernel_rfl) (fun a w => by kernel_rfl) (fun w' h' => passes_any t B _ ya yn ym i hi w' (ok_any ho.2) (hr.rep.below h'))
  | whl t p =>
   obtain ⟨x, y, a1, h, hr, _⟩ := hv
   cases h
   obtain ⟨ya, yn, ym, rfl, rfl⟩ := hr.forms
   obtain ⟨m1, m2, rfl⟩ := len2 ho.1
   exact foll_two (f := 330) hb hx hcap h1 h2 hn (tas_asg_whl _) (tg_whl _) (fun w => by kernel_rfl) (fun a w => by kernel_rfl) (fun w' h' => passes_any t B _ ya yn ym i hi w' (ok_any ho.2) (hr.rep.below h'))
  | cho p q =>
   obtain ⟨a1, b1, h, _⟩ := hv
   cases h
   exact foll_plain rb _ cap k st i _ _ _ _ _ nx w hx hcap (by omega) (ckeep hb h1) (ckeep hb h2) (hN _ rfl) (tas_asg_cho _) (tg_cho _)
  | asm t =>
   obtain ⟨x, y, h, hr⟩ := hv
   cases h
   obtain ⟨ya, yn, ym, rfl, rfl⟩ := hr.forms
   obtain ⟨m1, rfl⟩ := len1 ho.1
   have S' : ∀ w', Below w.heap.size w w' → Calls Tryz.prog 330 #[.agg #[.int .u8 t.head.toNat, .slice ya yn ym], .int .i64 i] w' fun e w2 => e = .returned (.bool (wtst t i)) ∧ Below w'.heap.size w' w2 := fun w' h' => passes_any t B _ ya yn ym i hi w' (ok_any ho.2) (hr.rep.below (bnext hb h'))
   simp only
   unfold gd
   show Calls _ _ _ _ (FollPost (if wtst t i = true then _ else _) w)
   by_cases h : wtst t i = true
   ·rw [if_pos h]
    simp only [h] at S'
    exact foll_grd_t rb _ cap k st i _ _ _ 330 _ b 1 m1 (by omega) w hx hcap (ckeep hb h1) (ckeep hb h2) (ckeep hb (hn 0 m1 rfl)) (tas_asg_asm _) (tg_asm _) (fun w => by kernel_rfl) (fun a w => by kernel_rfl) S'
   ·rw [if_neg h]
    simp only [h] at S'
    exact foll_grd_0 rb _ cap k st i _ _ _ 330 _ b w hx hcap (ckeep hb h1) (ckeep hb h2) (tas_asg_asm _) (tg_asm _) (fun w => by kernel_rfl) (fun a w => by kernel_rfl) S'
end Go.Proofs.YtgkoljphndgoeaaGreatDoor
namespace Go.Proofs.YtgkoljphndgoeaaGreatDoor
open Go.RowKit Tm Go.ChangeMaps
structure FlowOk (wide : Bool) (w1 : World) (B : Nat) (sp : Value) (st : Nat) (G : List Stp) : Prop where
 fl : FlowR w1 B sp G
 ok : ∀ (k : Nat) (s : Stp), G[k]? = some s → StpOk wide s
 top : Top G
 sm : G.length ≤ 1200
 lt : st < G.length
 bd : ∀ (k : Nat) (s : Stp), G[k]? = some s → ∀ (n : Nat), n ∈ s.nx → n < G.length
theorem nxp_len {wide : Bool} {G : List Stp} (hG : ∀ (k : Nat) (s : Stp), G[k]? = some s → StpOk wide s) {M : Mdl} (x : Pt) : (nxp M G x).length ≤ 2 := by
 unfold nxp
 cases h : G[x.1]? with
 | none => simp
 | some s =>
  have ho := hG _ _ h
  obtain ⟨d, nx⟩ := s
  unfold StpOk at ho
  unfold after
  have hgd : ∀ t, nx.length ≤ 2 → (gd M t nx x.2).length ≤ 2 := by
   intro t hl
   unfold gd
   split
   ·simp; omega
   ·simp; omega
  cases d with
  | none => simp only at ho; subst ho; simp
  | some p =>
   cases p with
   | skip => simp only at ho; simp; omega
   | asg v e => simp only at ho; simp; omega
   | seq p q => exact ho.elim
   | ite t p q => simp only at ho; exact hgd t (by omega)
   | whl t p => simp only at ho; exact hgd t (by omega)
   | cho p q => simp only at ho; simp; omega
   | asm t => simp only at ho; exact hgd t (by omega)
theorem nxp_two {wide : Bool} {G : List Stp} (hG : ∀ (k : Nat) (s : Stp), G[k]? = some s → StpOk wide s) (x : Pt) : (nxp mdlW G x).length ≤ 2 := nxp_len hG x
structure Flown (M : Mdl) (S : Nat) (w1 : World) (sp : Value) (st : Nat) (G : List Stp) : Prop where
 fol : ∀ (st' : Int) (x : Pt) (w : World), x.1 < G.length → x.2 < S → Below w1.heap.size w1 w → Calls Tryz.prog 259 #[.agg #[sp, .int .i64 st'], ptV x] w (FollPost (nxp M G x) w)
 un : ∀ x y : Pt, x.1 < G.length ∧ x.2 < S → Edge M G x y → y.1 < G.length ∧ y.2 < S
 two : ∀ x, (nxp M G x).length ≤ 2
 top : Top G
 sm : G.length ≤ 1200
 lt : st < G.length
 sl : ∃ rb cap, sp = .slice (some ⟨rb, 0, none⟩) G.length cap
theorem nxp_narrow {G : List Stp} (hG : ∀ (k : Nat) (s : Stp), G[k]? = some s → StpOk false s) {x : Pt} (hi : x.2 < 27) : nxp mdlW G x = nxp mdl G x := by
 unfold nxp
 cases h : G[x.1]? with
 | none => rfl
 | some s =>
  have ho := hG _ _ h
  obtain ⟨d, nx⟩ := s
  unfold StpOk at ho
  unfold after
  have hgd : ∀ t, gd mdlW t nx x.2 = gd mdl t nx x.2 := fun t => by unfold gd; rw [mdlW_t t hi]
  cases d with
  | none => rfl
  | some p =>
   cases p with
   | skip => rfl
   | asg v e => simp only at ho ⊢; rw [mdlW_a (varB_cases ho.2.1) hi]
   | seq p q => rfl
   | ite t p q => exact hgd t
   | whl t p => exact hgd t
   | cho p q => rfl
   | asm t => exact hgd t
theorem un_narrow {w1 : World} {B : Nat} {sp : Value} {st : Nat} {G : List Stp} (h : FlowOk false w1 B sp st G) (x y : Pt) (hx : x.1 < G.length ∧ x.2 < 27) (he : Edge mdl G x y) : y.1 < G.length ∧ y.2 < 27 := by
 unfold Edge nxp at he
 rw [List.getElem?_eq_getElem hx.1] at he
 have hs := List.getElem?_eq_getElem hx.1
 have ho := h.ok _ _ hs
 have hb := h.bd _ _ hs
 generalize G[x.1] = s at *
 obtain ⟨d, nx⟩ := s
 have map_ok : ∀ (l : List Nat) (j : Nat), (∀ n, n ∈ l → n ∈ nx) → j < 27 → y ∈ l.map (fun n => ((n, j) : Pt)) → y.1 < G.length ∧ y.2 < 27 := by
  intro l j hl hj hy
  obtain ⟨n, hn, rfl⟩ := List.mem_map.1 hy
  exact ⟨hb n (hl n hn), hj⟩
 have gd_ok : ∀ t, y ∈ gd mdl t nx x.2 → y.1 < G.length ∧ y.2 < 27 := by
  intro t hy
  unfold gd at hy
  split at hy
  ·exact map_ok _ _ (fun n hn => List.mem_of_mem_take hn) hx.2 hy
  ·exact map_ok _ _ (fun n hn => List.mem_of_mem_drop hn) hx.2 hy
 unfold after at he
 unfold StpOk at ho
 cases d with
 | none => exact map_ok nx x.2 (fun n hn => hn) hx.2 he
 | some p =>
  cases p with
  | skip => exact map_ok nx x.2 (fun n hn => hn) hx.2 he
  | asg v e => exact map_ok nx (asg v e x.2) (fun n hn => hn) (asg_lt ho.2.2 hx.2) he
  | seq p q => exact ho.elim
  | ite t p q => exact gd_ok t he
  | whl t p => exact gd_ok t he
  | cho p q => exact map_ok nx x.2 (fun n hn => hn) hx.2 he
  | asm t => exact gd_ok t he
theorem FlowOk.flown1 {w1 : World} {B : Nat} {sp : Value} {st : Nat} {G : List Stp} (h : FlowOk false w1 B sp st G) : Flown mdl 27 w1 sp st G where
 fol := fun st' x w hx hi hb => by rw [← nxp_narrow h.ok hi]; exact foll_any h.fl h.ok st' x hx (by omega) hb
 un := un_narrow h
 two := fun x => by
  by_cases hi : x.2 < 27
  ·rw [← nxp_narrow h.ok hi]; exact nxp_two h.ok x
  ·exact nxp_len (M := mdl) h.ok x
 top := h.top
 sm := h.sm
 lt := h.lt
 sl := by obtain ⟨rb, cap, hsp, _⟩ := h.fl; exact ⟨rb, cap, hsp⟩
structure Kpp (P : Nat → Prop) (w w' : World) : Prop where
 os : w'.os = w.os
 tape : w'.tape = w.tape
 output : w'.output = w.output
 size : w.heap.size ≤ w'.heap.size
 block : ∀ k, k < w.heap.size → ¬ P k → w'.heap[k]? = w.heap[k]?
theorem Kpp.refl (P : Nat → Prop) (w : World) : Kpp P w w := ⟨rfl, rfl, rfl, Nat.le_refl _, fun _ _ _ => rfl⟩
theorem Kpp.of {P : Nat → Prop} {w w' : World} (h : Below w.heap.size w w') : Kpp P w w' := ⟨h.os, h.tape, h.output, h.size, fun k hk _ => h.block k hk⟩
theorem Kpp.trans {P : Nat → Prop} {w w1 w2 : World} (h : Kpp P w w1) (k : Kpp P w1 w2) : Kpp P w w2 :=
 ⟨k.os.trans h.os, k.tape.trans h.tape, k.output.trans h.output, Nat.le_trans h.size k.size, fun i hi h1 => (k.block i (Nat.lt_of_lt_of_le hi h.size) h1).trans (h.block i hi h1)⟩
theorem Kpp.next {P : Nat → Prop} {w w1 w2 : World} (h : Kpp P w w1) (hb : Below w1.heap.size w1 w2) : Kpp P w w2 := h.trans (Kpp.of hb)
theorem Kpp.set {P : Nat → Prop} {w w1 : World} (h : Kpp P w w1) {q : Addr} (hq : P q.block) (v : Value) : Kpp P w (w1.setCell q v) :=
 h.trans ⟨rfl, rfl, rfl, by simp [World.setCell], fun k _ hk => Below.heap_setCell _ _ _ _ (fun e => hk (e ▸ hq))⟩
theorem Kpp.grown {P : Nat → Prop} {w w1 w2 : World} {row : Option Nat} (h : Kpp P w w1) (hg : w1.grownBy w2 row) (hr : ∀ k, row = some k → w.heap.size ≤ k ∨ P k) : Kpp P w w2 :=
 ⟨hg.os.trans h.os, hg.tape.trans h.tape, hg.output.trans h.output, Nat.le_trans h.size hg.size, fun k hk h1 => by
  refine (hg.block k (Nat.lt_of_lt_of_le hk h.size) fun e => ?_).trans (h.block k hk h1)
  rcases hr k e.symm with h2 | h2
  ·omega
  ·exact h1 h2⟩
theorem Kpp.below {P : Nat → Prop} {B : Nat} {w w' : World} (h : Kpp P w w') (hP : ∀ k, P k → B ≤ k) (hB : B ≤ w.heap.size) : Below B w w' := ⟨h.os, h.tape, h.output, h.size, fun k hk => h.block k (by omega) (fun hp => by have := hP k hp; omega)⟩
theorem Blk.grown {w w' : World} {b : Nat} {cs : Array Value} {t : TypeId} {row : Option Nat} (h : Blk w b cs t) (hg : w.grownBy w' row) (hr : row ≠ some b) : Blk w' b cs t := (hg.block b h.lt (fun e => hr e.symm)).trans h
theorem Blk.setB' {w : World} {b k : Nat} {cs : Array Value} {t : TypeId} (h : Blk w b cs t) (hne : b ≠ k) (o : Obj) : Blk (setBlock w k o) b cs t := by
 unfold Blk setBlock at *
 simp only
 rw [Array.getElem?_setIfInBounds_ne (fun e => hne e.symm)]; exact h
section
variable {w w' : World} {B : Nat} {e : TypeId} {size n : Nat} {v : Value} {xs : List Value}
theorem own_ne (h : w.ownsRow B e size v n xs) {b : Nat} {o : Obj} (hb : w.heap[b]? = some o) (hne : ∀ cur, o ≠ .cells cur e (0, 0)) : v.ownBlock ≠ some b := by
 obtain ⟨_, h2⟩ := h
 rcases h2 with ⟨rfl, _⟩ | ⟨g, cap, cur, rfl, _, hg, _⟩
 ·intro e; cases e
 ·intro e
  simp only [Value.ownBlock, Option.some.injEq] at e
  subst e
  rw [hg] at hb
  injection hb with hb
  exact hne cur hb.symm
theorem own_blk (h : w.ownsRow B e size v n xs) {b : Nat} {cs : Array Value} {t : TypeId} (hb : Blk w b cs t) (hne : t ≠ e) : v.ownBlock ≠ some b :=
 own_ne h hb (fun cur k => by injection k with _ k; exact hne k)
theorem own_map (h : w.ownsRow B e size v n xs) {b : Nat} {m : Mp} (hb : MapAt w b m) : v.ownBlock ≠ some b := by
 obtain ⟨es, c, L, hb, _⟩ := hb
 exact own_ne h hb (fun cur k => by cases k)
theorem own_own {B' : Nat} {e' : TypeId} {size' n' : Nat} {v' : Value} {xs' : List Value} (h : w.ownsRow B e size v n xs) (h' : w.ownsRow B' e' size' v' n' xs') (hne : e ≠ e') : v.ownBlock = none ∨ v.ownBlock ≠ v'.ownBlock := by
 obtain ⟨_, h2⟩ := h'
 rcases h2 with ⟨rfl, _⟩ | ⟨g, cap, cur, rfl, _, hg, _⟩
 ·cases hv : v.ownBlock with
  | none => exact .inl rfl
  | some b => right; intro e; cases e
 ·right
  exact own_ne h hg (fun cur' k => by injection k with _ k; exact hne k.symm)
theorem own_of (h : w.ownsRow B e size v n xs) (hb : ∀ k, v.ownBlock = some k → w'.heap[k]? = w.heap[k]?) : w'.ownsRow B e size v n xs := by
 obtain ⟨h1, h2⟩ := h
 refine ⟨h1, ?_⟩
 rcases h2 with h2 | ⟨g, cap, cur, rfl, b, c, d⟩
 ·exact .inl h2
 ·exact .inr ⟨g, cap, cur, rfl, b, (hb g rfl).trans c, d⟩
theorem own_below (h : w.ownsRow B e size v n xs) (hb : Below w.heap.size w w') : w'.ownsRow B e size v n xs := own_of h fun k hk => hb.block k (World.ownsRow.lt h k hk).2
theorem own_kpp {P : Nat → Prop} (h : w.ownsRow B e size v n xs) (hk : Kpp P w w') (hP : ∀ k, v.ownBlock = some k → ¬ P k) : w'.ownsRow B e size v n xs := own_of h fun k hv => hk.block k (World.ownsRow.lt h k hv).2 (hP k hv)
theorem own_set (h : w.ownsRow B e size v n xs) {p : Addr} (hp : v.ownBlock ≠ some p.block) (u : Value) : (w.setCell p u).ownsRow B e size v n xs := own_of h fun _ hk => Below.heap_setCell _ _ _ _ (fun e => hp (e ▸ hk))
theorem own_setB (h : w.ownsRow B e size v n xs) {b : Nat} (hp : v.ownBlock ≠ some b) (o : Obj) : (setBlock w b o).ownsRow B e size v n xs := own_of h fun k hk => by
 have hne : b ≠ k := fun e => hp (e ▸ hk)
 simp only [setBlock]
 rw [Array.getElem?_setIfInBounds_ne hne]
theorem own_len (h : w.ownsRow B e size v n xs) : n ≤ maxLen := by
 obtain ⟨h1, h2⟩ := h
 rcases h2 with ⟨_, h2⟩ | ⟨g, cap, cur, e, f, c, d, d2, _⟩
 ·omega
 ·omega
theorem own_forms (h : w.ownsRow B e size v n xs) : ∃ a cap, v = .slice a n cap ∧ n ≤ cap ∧ (0 < n → ∃ g, a = some ⟨g, 0, none⟩ ∧ B ≤ g ∧ ∀ j u, xs[j]? = some u → w.cell? ⟨g, j, none⟩ = some u) := by
 have h' := h
 obtain ⟨h1, h2⟩ := h
 rcases h2 with ⟨h2, h3⟩ | ⟨g, cap, cur, rfl, b, c, d, _⟩
 ·exact ⟨none, 0, by rw [h2, h3], by omega, fun hk => by omega⟩
 ·refine ⟨_, cap, rfl, d, fun _ => ⟨g, rfl, b, fun j u hj => ?_⟩⟩
  have hlt := (List.getElem?_eq_some_iff.1 hj).1
  rw [World.ownsRow.cellAt h' j (by omega)]
  exact hj
end
def vsC (l : List (Pt × Bool)) : List Value := l.flatMap fun v => [.int .i64 v.1.1, .int .i64 v.1.2, .bool v.2]
theorem vsC_len (l : List (Pt × Bool)) : (vsC l).length = l.length * 3 := by
 induction l with
 | nil => rfl
 | cons x l ih => unfold vsC at *; simp [ih]; omega
theorem vsC_app (l l' : List (Pt × Bool)) : vsC (l ++ l') = vsC l ++ vsC l' := by simp [vsC]
theorem vsC_one (v : Pt × Bool) : vsC [v] = [.int .i64 v.1.1, .int .i64 v.1.2, .bool v.2] := rfl
theorem infoVis : (Tryz.prog.info? 283).map (fun i => (i.zero, i.size, i.bytes)) = some (some (.agg #[.int .i64 0, .int .i64 0, .bool false]), 3, 24) := by kernel_rfl
theorem infoInt : (Tryz.prog.info? 3).map (fun i => (i.zero, i.size, i.bytes)) = some (some (.int .i64 0), 1, 8) := by kernel_rfl
def Stk' (w : World) (B : Nat) (v : Value) (s : List (Pt × Bool)) : Prop := w.ownsRow B 283 3 v s.length (vsC s.reverse)
theorem Stk'.top {w : World} {B : Nat} {v : Value} {x : Pt × Bool} {s : List (Pt × Bool)} (h : Stk' w B v (x :: s)) : ∃ g cap, v = .slice (some ⟨g, 0, none⟩) (s.length + 1) cap ∧ s.length + 1 ≤ cap ∧ B ≤ g ∧
  w.cell? ⟨g, s.length * 3, none⟩ = some (.int .i64 x.1.1) ∧ w.cell? ⟨g, s.length * 3 + 1, none⟩ = some (.int .i64 x.1.2) ∧ w.cell? ⟨g, s.length * 3 + 2, none⟩ = some (.bool x.2) ∧ Stk' w B (.slice (some ⟨g, 0, none⟩) s.length cap) s := by
 have h' : w.ownsRow B 283 3 v (s.length + 1) (vsC s.reverse ++ [.int .i64 x.1.1, .int .i64 x.1.2, .bool x.2]) := by
  have := h
  unfold Stk' at this
  rw [List.reverse_cons, vsC_app, vsC_one] at this
  exact this
 have hl : (vsC s.reverse).length = s.length * 3 := by rw [vsC_len, List.length_reverse]
 obtain ⟨a, cap, rfl, hc, hf⟩ := own_forms h'
 obtain ⟨g, rfl, hg, hcell⟩ := hf (by omega)
 refine ⟨g, cap, rfl, hc, hg, hcell _ _ ?_, hcell _ _ ?_, hcell _ _ ?_, ?_⟩
 ·rw [List.getElem?_append_right (by omega), hl]; simp
 ·rw [List.getElem?_append_right (by omega), hl]; simp
 ·rw [List.getElem?_append_right (by omega), hl]; simp
 ·exact ownsRow_pop hl h'
theorem Stk'.push {w : World} {B : Nat} {v : Value} {x : Pt × Bool} {s : List (Pt × Bool)} (h : w.ownsRow B 283 3 v (s.length + 1) (vsC s.reverse ++ [.int .i64 x.1.1, .int .i64 x.1.2, .bool x.2])) : Stk' w B v (x :: s) := by
 unfold Stk'
 rw [List.reverse_cons, vsC_app, vsC_one]
 exact h
def wkC (sp : Value) (st : Int) (bm : Nat) (ev : Value) (lo bl : Bool) : Array Value := #[sp, .int .i64 st, .map (some bm), ev, .bool lo, .bool bl]
def enC (E : List Nat) : List Value := E.map fun n => .int .i64 (n : Nat)
theorem enC_app (E : List Nat) (n : Nat) : enC (E ++ [n]) = enC E ++ [.int .i64 (n : Nat)] := by simp [enC]
structure WkW (w : World) (BB bw bm : Nat) (sp : Value) (st : Int) (m : Mp) (ev : Value) (E : List Nat) (lo bl : Bool) : Prop where
 blk : Blk w bw (wkC sp st bm ev lo bl) 199
 mp : MapAt w bm m
 er : w.ownsRow BB 3 1 ev E.length (enC E)
 lw : BB ≤ bw
 lm : BB ≤ bm
section
variable {w w' : World} {BB bw bm : Nat} {sp : Value} {st : Int} {m : Mp} {ev : Value} {E : List Nat} {lo bl : Bool}
theorem WkW.cells (h : WkW w BB bw bm sp st m ev E lo bl) :
  w.cell? ⟨bw, 0, none⟩ = some sp ∧ w.cell? ⟨bw, 1, none⟩ = some (.int .i64 st) ∧ w.cell? ⟨bw, 2, none⟩ = some (.map (some bm)) ∧ w.cell? ⟨bw, 3, none⟩ = some ev ∧ w.cell? ⟨bw, 4, none⟩ = some (.bool lo) ∧ w.cell? ⟨bw, 5, none⟩ = some (.bool bl) :=
 ⟨h.blk.cell 0, h.blk.cell 1, h.blk.cell 2, h.blk.cell 3, h.blk.cell 4, h.blk.cell 5⟩
theorem WkW.free' (h : WkW w BB bw bm sp st m ev E lo bl) : w.frozen? ⟨bw, 3, none⟩ = false ∧ w.frozen? ⟨bw, 4, none⟩ = false ∧ w.frozen? ⟨bw, 5, none⟩ = false :=
 ⟨h.blk.free 3, h.blk.free 4, h.blk.free 5⟩
theorem WkW.kept (h : WkW w BB bw bm sp st m ev E lo bl) (hb : Below w.heap.size w w') : WkW w' BB bw bm sp st m ev E lo bl :=
 ⟨h.blk.kept hb, h.mp.kept hb, own_below h.er hb, h.lw, h.lm⟩
theorem WkW.ne (h : WkW w BB bw bm sp st m ev E lo bl) : bm ≠ bw := fun e => by
 subst e
 obtain ⟨es, c, L, hm, _⟩ := h.mp
 have hb := h.blk
 unfold Blk at hb
 rw [hm] at hb
 cases hb
theorem typ_ne1 : 199 ≠ 3 := by decide
theorem typ_ne2 : 199 ≠ 283 := by decide
theorem typ_ne3 : 3 ≠ 283 := by decide
def wkP (bw bm : Nat) (ev : Value) : Nat → Prop := fun k => k = bw ∨ k = bm ∨ ev.ownBlock = some k
theorem WkW.stk {s : List (Pt × Bool)} {ov : Value} {B : Nat} (h : WkW w BB bw bm sp st m ev E lo bl) (ho : Stk' w B ov s) : ∀ k, ov.ownBlock = some k → ¬ wkP bw bm ev k := by
 rintro k hk (rfl | rfl | h3)
 ·exact own_blk ho h.blk typ_ne2 hk
 ·exact own_map ho h.mp hk
 ·rcases own_own h.er ho typ_ne3 with k1 | k1
  ·rw [h3] at k1; cases k1
  ·rw [h3, hk] at k1; exact k1 rfl
theorem WkW.setLo (h : WkW w BB bw bm sp st m ev E lo bl) (b : Bool) : WkW (w.setCell ⟨bw, 4, none⟩ (.bool b)) BB bw bm sp st m ev E b bl :=
 ⟨by have := Blk.set h.blk 4 (.bool b); exact this, h.mp.setCell (a := ⟨bw, 4, none⟩) h.ne _, own_set h.er (p := ⟨bw, 4, none⟩) (own_blk h.er h.blk typ_ne1) _, h.lw, h.lm⟩
theorem WkW.setBl (h : WkW w BB bw bm sp st m ev E lo bl) (b : Bool) : WkW (w.setCell ⟨bw, 5, none⟩ (.bool b)) BB bw bm sp st m ev E lo b :=
 ⟨by have := Blk.set h.blk 5 (.bool b); exact this, h.mp.setCell (a := ⟨bw, 5, none⟩) h.ne _, own_set h.er (p := ⟨bw, 5, none⟩) (own_blk h.er h.blk typ_ne1) _, h.lw, h.lm⟩
theorem WkW.setMp {o : Obj} {m' : Mp} (h : WkW w BB bw bm sp st m ev E lo bl) (hm : MapAt (setBlock w bm o) bm m') : WkW (setBlock w bm o) BB bw bm sp st m' ev E lo bl :=
 ⟨Blk.setB' h.blk (fun e => h.ne e.symm) o, hm, own_setB h.er (own_map h.er h.mp) o, h.lw, h.lm⟩
end
def EndPost (BB bw bm : Nat) (sp : Value) (st : Int) (m : Mp) (ev : Value) (E : List Nat) (lo bl : Bool) (w : World) (e : Ending) (w' : World) : Prop :=
 e = .returned (.tuple #[]) ∧ ∃ ev', WkW w' BB bw bm sp st m ev' E lo bl ∧ Kpp (wkP bw bm ev) w w'
set_option maxRecDepth 100000 in
set_option maxHeartbeats 4000000 in
theorem end_other {BB bw bm : Nat} {sp : Value} {st : Int} {m : Mp} {ev : Value} {E : List Nat} {lo bl : Bool} (k i : Nat) (hk : 0 < k) (w : World) (h : WkW w BB bw bm sp st m ev E lo bl) :
  Calls Tryz.prog 260 #[.pointer (some ⟨bw, 0, none⟩), .agg #[.int .i64 k, .int .i64 i]] w (EndPost BB bw bm sp st m ev E lo true w) := by
 have hk' : ((k : Int) == 0) = false := by rw [beq_eq_false_iff_ne]; omega
 have hlt := h.blk.lt
 obtain ⟨_, _, _, _, _, q⟩ := h.cells
 obtain ⟨_, _, fr⟩ := h.free'
 have H := Lib.hid h
 clear h
 go_enter Tryz.func260, Tryz.ntmps260
 go_wp2_with fail
 go_end0
 refine ⟨rfl, ev, (H.out.setBl true).kept ((Below.refl _ _).alloc (Nat.le_refl _) _), ((Kpp.refl _ _).set (q := ⟨bw, 5, none⟩) (.inl rfl) _).next ((Below.refl _ _).alloc (Nat.le_refl _) _)⟩
set_option maxRecDepth 100000 in
set_option maxHeartbeats 4000000 in
theorem end_zero {BB bw bm : Nat} {sp : Value} {st : Int} {m : Mp} {ev : Value} {E : List Nat} {lo bl : Bool} (i : Nat) (w : World) (h : WkW w BB bw bm sp st m ev E lo bl) (hBB : BB ≤ w.heap.size) (hE : E.length ≤ 2000000) :
    Calls Tryz.prog 260 #[.pointer (some ⟨bw, 0, none⟩), .agg #[.int .i64 0, .int .i64 i]] w (EndPost BB bw bm sp st m ev (E ++ [i]) lo bl w) := by
  obtain ⟨i0, hi0, hz0, hz1, hz2⟩ := info_parts infoInt
  have H := Lib.hid h
  have hlt := h.blk.lt
  obtain ⟨_, _, _, q3, _, _⟩ := h.cells
  obtain ⟨f3, _, _⟩ := h.free'
  clear h
  go_enter Tryz.func260, Tryz.ntmps260
  go_wp2_with fail
  have HX := Lib.hid ((Below.refl w.heap.size w).alloc (Nat.le_refl _) (.cells #[.int .i64 0, .int .i64 i] 221))
  have H0 := Lib.hid (H.out.kept HX.out)
  have PB := Lib.hid (Blk.new w #[.int .i64 0, .int .i64 i] 221)
  clear H hlt q3 f3
  generalize w.alloc (.cells #[.int .i64 0, .int .i64 i] 221) = w0 at *
  have p1 : w0.cell? ⟨w.heap.size, 1, none⟩ = some (.int .i64 i) := PB.out.cell 1
  have q3 : w0.cell? ⟨bw, 3, none⟩ = some ev := H0.out.cells.2.2.2.1
  have hlt := H0.out.blk.lt
  have HN := Lib.hid (heap_alloc_new w0 (.cells #[.int .i64 i] 3))
  have HS := Lib.hid HX.out.size
  go_region_law (first
    | (refine step_append_lies _ (by rfl) _ _ _ (by rfl) BB 3 i0 _ 1 8 Tryz.underlying58 hi0 hz0 hz1 hz2 rfl (by omega) ev E.length (enC E) (by simp [Act.eval]) (own_below H0.out.er (by first | exact ((Below.refl _ _).alloc (Nat.le_refl _) _).drew | exact ((Below.refl _ _).drew).alloc (Nat.le_refl _) _)) ⟨w0.heap.size, 0, none⟩ 1 1 [.int .i64 i] (by first | rfl | simp [Act.eval, Act.put]) (by simp) (World.news_of_block (cs := #[.int .i64 i]) (t := 3) (fr := (0, 0)) HN.out) (by simp [Value.oneCell']) (by omega) (by unfold maxLen; omega) (by omega) (by have := HS.out; simp; omega) (w0.heap.size + 1) (by simp) ?_; intro g3 cap3 w4 hown hgrow hat hlt4;
       have D0 := Lib.hid (Blk.grown (H0.out.blk.kept (w' := (w0.alloc (.cells #[.int .i64 i] 3)).drew) ((Below.refl _ _).alloc (Nat.le_refl _) _).drew) hgrow (own_blk H0.out.er H0.out.blk typ_ne1)); have d3 : w4.cell? ⟨bw, 3, none⟩ = some ev := D0.out.cell 3; have g3' := D0.out.free 3)
    | (go_simp))
  all_goals
    have BA : Below w0.heap.size w0 (w0.alloc (.cells #[.int .i64 i] 3)).drew := ((Below.refl _ _).alloc (Nat.le_refl _) _).drew
    have nb1 := own_blk hown D0.out typ_ne1
    have K0 := Lib.hid ((((Kpp.of (P := wkP bw bm ev) HX.out).next BA).grown hgrow (fun k hk => .inr (.inr (.inr hk)))).set (q := ⟨bw, 3, none⟩) (.inl rfl) (.slice (some ⟨g3, 0, none⟩) (E.length + 1) cap3))
    have M0 := Lib.hid (((H0.out.mp.kept BA).grown hgrow (own_map H0.out.er H0.out.mp)).setCell (a := ⟨bw, 3, none⟩) H0.out.ne (.slice (some ⟨g3, 0, none⟩) (E.length + 1) cap3))
    have R0 := Lib.hid (own_set hown (p := ⟨bw, 3, none⟩) nb1 (.slice (some ⟨g3, 0, none⟩) (E.length + 1) cap3))
    have D1 := Lib.hid (D0.out.set 3 (.slice (some ⟨g3, 0, none⟩) (E.length + 1) cap3))
    clear hown hgrow hat hlt4 BA nb1
    go_end0
    refine ⟨rfl, .slice (some ⟨g3, 0, none⟩) (E.length + 1) cap3, ⟨D1.out, M0.out, ?_, H0.out.lw, H0.out.lm⟩, K0.out⟩
    rw [enC_app, List.length_append]
    exact R0.out
theorem end_any {BB bw bm : Nat} {sp : Value} {st : Int} {m : Mp} {ev : Value} {E : List Nat} {lo bl : Bool} (x : Pt) (w : World) (h : WkW w BB bw bm sp st m ev E lo bl) (hBB : BB ≤ w.heap.size) (hE : E.length ≤ 2000000) :
  Calls Tryz.prog 260 #[.pointer (some ⟨bw, 0, none⟩), .agg #[.int .i64 x.1, .int .i64 x.2]] w (EndPost BB bw bm sp st m ev (if x.1 = 0 then E ++ [x.2] else E) lo (if x.1 ≠ 0 then true else bl) w) := by
 by_cases h0 : x.1 = 0
 ·rw [h0, if_pos rfl, if_neg (by simp)]
  exact end_zero x.2 w h hBB hE
 ·rw [if_neg h0, if_pos h0]
  exact end_other x.1 x.2 (by omega) w h
theorem Chn.star {M : Mdl} {G : List Stp} {x0 : Pt} {s : List (Pt × Bool)} {c : Option Pt} (h : Chn M G x0 s c) : ∀ y b, (y, b) ∈ s → Star (Edge M G) x0 y := by
 induction h with
 | nil => intro y b hy; cases hy
 | vis h1 h2 h3 ih =>
  intro z b hz
  rcases List.mem_cons.1 hz with e | e
  ·cases e; exact h1.top h2 h3
  ·exact ih z b e
 | lvg h1 h2 h3 _ ih =>
  intro z b hz
  rcases List.mem_cons.1 hz with e | e
  ·cases e; exact h1.top h2 h3
  ·exact ih z b e
def lenOf : Value → Nat
 | .slice _ n _ => n
 | _ => 0
theorem below_setB {B : Nat} {w w1 : World} {b : Nat} (h : Below B w w1) (hb : B ≤ b) (o : Obj) : Below B w (setBlock w1 b o) :=
 ⟨h.os, h.tape, h.output, by have := h.size; simpa [setBlock] using this, fun k hk => by
  have hne : b ≠ k := by omega
  simp only [setBlock]
  rw [Array.getElem?_setIfInBounds_ne hne]
  exact h.block k hk⟩
theorem WkW.grown {w w' : World} {BB bw bm : Nat} {sp : Value} {st : Int} {m : Mp} {ev : Value} {E : List Nat} {lo bl : Bool} {row : Option Nat} (h : WkW w BB bw bm sp st m ev E lo bl) (hg : w.grownBy w' row) (hr : ∀ k, row = some k → ¬ wkP bw bm ev k) : WkW w' BB bw bm sp st m ev E lo bl :=
 ⟨Blk.grown h.blk hg (fun e => hr _ e (.inl rfl)), h.mp.of (hg.block bm h.mp.lt (fun e => hr _ e.symm (.inr (.inl rfl)))), own_of h.er (fun k hk => hg.block k (World.ownsRow.lt h.er k hk).2 (fun e => hr _ e.symm (.inr (.inr hk)))), h.lw, h.lm⟩
theorem Dfs.lens {M : Mdl} {G : List Stp} {S : Nat} {x0 : Pt} {m0 m : Mp} {E0 E : List Nat} {lo0 bl0 lo bl : Bool} {s : List (Pt × Bool)} (h : Dfs M G S x0 m0 E0 lo0 bl0 s m E lo bl) (hG : G.length ≤ 1200) (hS : S ≤ 729) (hsz : E0.length + unk G.length S m0 ≤ G.length * S) : s.length ≤ 1800000 ∧ E.length ≤ 900000 := by
 have h1 := h.op
 have h2 := h.sz
 have h3 := unk_bd G.length S m0
 have h4 : G.length * S ≤ 1200 * 729 := Nat.mul_le_mul hG hS
 omega
theorem typ_ne4 : 221 ≠ 283 := by decide
theorem lenOf_stk {w : World} {B : Nat} {v : Value} {s : List (Pt × Bool)} (h : Stk' w B v s) : lenOf v = s.length := by
 obtain ⟨a, cap, rfl, _, _⟩ := own_forms h
 rfl
theorem push_take {N : List Pt} {k : Nat} {p : Pt} (h : N.take (k + 1) = N.take k ++ [p]) (s : List (Pt × Bool)) : (N.take (k + 1)).reverse.map (fun x => (x, false)) ++ s = (p, false) :: ((N.take k).reverse.map (fun x => (x, false)) ++ s) := by
 rw [h]; simp
section
variable {M : Mdl} {S : Nat} {w1 : World} {sp : Value} {st : Nat} {G : List Stp}
theorem Flown.star (hF : Flown M S w1 sp st G) {x y : Pt} (hx : x.1 < G.length ∧ x.2 < S) (h : Star (Edge M G) x y) : y.1 < G.length ∧ y.2 < S := by
 induction h with
 | refl => exact hx
 | head h1 _ ih => exact ih (hF.un _ _ hx h1)
def FolPost (M : Mdl) (G : List Stp) (S : Nat) (BB bw bm : Nat) (sp : Value) (st : Nat) (m0 : Mp) (E0 : List Nat) (lo0 bl0 : Bool) (i : Nat) (w0 : World) (e : Ending) (w' : World) : Prop :=
 e = .returned (.tuple #[]) ∧ ∃ m ev E lo bl, WkW w' BB bw bm sp st m ev E lo bl ∧ Below BB w0 w' ∧ Gone M G S (st, i) m0 E0 lo0 bl0 m E lo bl
set_option maxRecDepth 1000000 in
set_option maxHeartbeats 8000000 in
theorem fol_any (hF : Flown M S w1 sp st G) (hS : S ≤ 729) (w0 : World) (BB bw bm : Nat) (m0 : Mp) (ev0 : Value) (E0 : List Nat) (lo0 bl0 : Bool) (i : Nat) (hi : i < S)
  (hw : WkW w0 BB bw bm sp st m0 ev0 E0 lo0 bl0) (hBB : BB ≤ w0.heap.size) (hb1 : Below w1.heap.size w1 w0) (hb2 : w1.heap.size ≤ BB)
  (hbk : ∀ y b, m0 y = some b → b = false) (hlp : lo0 = false → ∀ b, m0 b = some false → ¬ Inf M G b) (hsz : E0.length + unk G.length S m0 ≤ G.length * S) :
  Calls Tryz.prog 230 #[.pointer (some ⟨bw, 0, none⟩), .int .i64 i] w0 (FolPost M G S BB bw bm sp st m0 E0 lo0 bl0 i w0) := by
 obtain ⟨i0, hi0, hz0, hz1, hz2⟩ := info_parts infoVis
 obtain ⟨rb, capf, rfl⟩ := hF.sl
 obtain ⟨q0, q1, q2, q3, q4, q5⟩ := hw.cells
 have hlt := hw.blk.lt
 have bx := (Below.refl w0.heap.size w0).alloc (Nat.le_refl _) (.cells #[.int .i64 st, .int .i64 i, .bool false] 283)
 have T1 := Lib.hid (hw.kept bx)
 have T2 : Hid (Stk' (w0.alloc (.cells #[.int .i64 st, .int .i64 i, .bool false] 283)) BB (.slice (some ⟨w0.heap.size, 0, none⟩) 1 1) [((st, i), false)]) :=
  World.ownsRow_lit w0 #[.int .i64 st, .int .i64 i, .bool false] 1 hBB (by unfold maxLen; omega) rfl
 have T3 := Lib.hid (bx.mono hBB)
 have T4 := Lib.hid (Dfs.start (M := M) (G := G) (S := S) (x0 := (st, i)) (E0 := E0) (bl0 := bl0) hbk hlp)
 have HF := Lib.hid hF
 have HB := Lib.hid hb1
 have HW := Lib.hid hw.lw
 clear hw hbk hlp bx hF hb1
 go_enter Tryz.func230, Tryz.ntmps230
 go_wp2_with fail
 generalize w0.alloc (.cells #[.int .i64 st, .int .i64 i, .bool false] 283) = wa at *
 clear q0 q1 q2 q3 q4 q5
 go_loopw [4] (fun ov wr => ∃ s m ev E lo bl, Hid (Stk' wr BB ov s) ∧ Hid (WkW wr BB bw bm (.slice (some ⟨rb, 0, none⟩) G.length capf) st m ev E lo bl) ∧ Hid (Dfs M G S (st, i) m0 E0 lo0 bl0 s m E lo bl) ∧ Hid (Below BB w0 wr)) (fun ov wr => 3 * unk G.length S (mapIn wr bm) + lenOf ov)
 case atStart => exact ⟨_, _, _, _, _, _, T2, T1, T4, T3⟩
 case round =>
  clear T1 T2 T3 T4
  obtain ⟨s, m, ev, E, lo, bl, R1, R2, R3, R4⟩ := hrel
  cases s with
  | nil =>
   as_aux_lemma =>
   obtain ⟨a, cap, rfl, hcap, _⟩ := own_forms R1.out
   simp only [List.length_nil] at *
   go_wp2_with fail
   go_end0
   exact ⟨rfl, m, ev, E, lo, bl, R2.out, R4.out, R3.out.done⟩
  | cons x s =>
   obtain ⟨y, lv⟩ := x
   obtain ⟨g, cap, rfl, hcap, hg, c0, c1, c2, htop⟩ := R1.out.top
   simp only at c0 c1 c2
   have HT := Lib.hid htop
   clear htop
   have hmx : s.length + 1 ≤ 9223372036854775807 := by have := own_len R1.out; simp only [List.length_cons] at this; unfold maxLen at this; omega
   have HLEN := Lib.hid (R3.out.lens HF.out.sm hS hsz)
   have hnb := (World.ownsRow.lt R1.out g rfl).2
   have y0 := (Blk.new wr #[.int .i64 y.1, .int .i64 y.2, .bool lv] 283).drew.cell 0
   have y1 := (Blk.new wr #[.int .i64 y.1, .int .i64 y.2, .bool lv] 283).drew.cell 1
   simp only [List.getElem?_toArray, List.getElem?_cons_zero, List.getElem?_cons_succ] at y0 y1
   have bx := (Below.refl wr.heap.size wr).alloc (Nat.le_refl _) (.cells #[.int .i64 y.1, .int .i64 y.2, .bool lv] 283)
   cases lv with
   | true =>
    as_aux_lemma =>
    obtain ⟨o, ho, hat⟩ := store_run R2.out.mp y false
    have hs1 : (Instr.mapUpdate 197 (.map (some bm)) (.agg #[.int .i64 y.1, .int .i64 y.2]) (.bool false)).run Tryz.prog (wr.alloc (.cells #[.int .i64 y.1, .int .i64 y.2, .bool true] 283)).drew = .ok () (setBlock (wr.alloc (.cells #[.int .i64 y.1, .int .i64 y.2, .bool true] 283)).drew bm o) :=
     ho _ (bx.drew.block bm R2.out.mp.lt)
    have HAT := hat (wr.alloc (.cells #[.int .i64 y.1, .int .i64 y.2, .bool true] 283)).drew (by have := R2.out.mp.lt; have := bx.drew.size; omega)
    have P2 := Lib.hid ((R2.out.kept bx.drew).setMp HAT)
    have P1 : Hid (Stk' (setBlock (wr.alloc (.cells #[.int .i64 y.1, .int .i64 y.2, .bool true] 283)).drew bm o) BB (.slice (some ⟨g, 0, none⟩) s.length cap) s) := own_setB (own_below HT.out bx.drew) (own_map (own_below HT.out bx.drew) (R2.out.mp.kept bx.drew)) o
    have P4 := Lib.hid (below_setB (R4.out.trans (bx.drew.mono (Nat.le_trans hBB R4.out.size))) R2.out.lm o)
    have P3 := Lib.hid R3.out.leave
    have z2 := (R2.out.kept bx.drew).cells.2.2.1
    have HM : Hid (3 * unk G.length S (mapIn (setBlock (wr.alloc (.cells #[.int .i64 y.1, .int .i64 y.2, .bool true] 283)).drew bm o) bm) + s.length < 3 * unk G.length S (mapIn wr bm) + (s.length + 1)) := by
     show _ < _
     rw [HAT.inn, R2.out.mp.inn]
     have hy := (R3.out.st y).2 (List.mem_cons_self ..)
     rw [show unk G.length S (fun q => if y = q then some false else m q) = unk G.length S m from unk_congr fun x => by
      by_cases e : y = x
      ·subst e; simp [hy]
      ·simp [e]]
     omega
    clear ho hat HAT R1 R2 R3 R4 HT
    go_wp2_with fail
    refine wp_region_still_tail 6 (by kernel_rfl) (by kernel_rfl) ?_
    change wpStill _ _ (World.drew _) (fun a' => wpList _ _ _ _ a' (World.drew _)) _ _
    generalize (wr.alloc (.cells #[.int .i64 y.1, .int .i64 y.2, .bool true] 283)).drew = wd at *
    simp only [List.take_succ_cons, List.take_zero, List.drop_succ_cons, List.drop_zero]
    repeat still_step
    refine wpStill_nil ?_
    go_wp2_with fail
    exact ⟨⟨s, _, ev, E, lo, bl, P1, P2, P3, P4⟩, by have := HM.out; simpa [lenOf] using this⟩
   | false =>
    cases hm : m y with
    | some b =>
     have hl : ∀ n, (Instr.lookup 197 (.map (some bm)) (.agg #[.int .i64 y.1, .int .i64 y.2]) true).run Tryz.prog ((wr.alloc (.cells #[.int .i64 y.1, .int .i64 y.2, .bool false] 283)).drewN n) = .ok (.tuple #[.bool b, .bool true]) ((wr.alloc (.cells #[.int .i64 y.1, .int .i64 y.2, .bool false] 283)).drewN n) := fun n => by
      have := look_run ((R2.out.mp.kept bx).kept (bdrewN (Below.refl _ _) n)) y
      rw [hm] at this
      exact this
     have z2 := (R2.out.kept bx).cells.2.2.1
     have P3 := Lib.hid (R3.out.known hm)
     have B1 := Lib.hid bx
     have E2 := Lib.hid R2.out
     have HM0 : Hid (mapIn wr bm = m) := R2.out.mp.inn
     have BB2 := Nat.le_trans hBB R4.out.size
     have hlb := R2.out.blk.lt
     clear R1 R2 hm bx y0 y1
     cases lo with
     | true =>
      as_aux_lemma =>
      go_wp2_with fail
      go_quiet (fail)
      have N1 := Lib.hid (bdrewN B1.out nq)
      have z4 := (E2.out.kept N1.out).cells.2.2.2.2.1
      have f4 := (E2.out.kept N1.out).free'.2.1
      have P2 := Lib.hid ((E2.out.kept N1.out).setLo true)
      have P1 : Hid (Stk' (((wr.alloc (.cells #[.int .i64 y.1, .int .i64 y.2, .bool false] 283)).drewN nq).setCell ⟨bw, 4, none⟩ (.bool true)) BB (.slice (some ⟨g, 0, none⟩) s.length cap) s) := own_set (own_below HT.out N1.out) (p := ⟨bw, 4, none⟩) (own_blk (own_below HT.out N1.out) (E2.out.kept N1.out).blk typ_ne2) _
      have P4 := Lib.hid ((R4.out.trans (N1.out.mono BB2)).setCell (p := ⟨bw, 4, none⟩) E2.out.lw (.bool true))
      have HM : Hid (3 * unk G.length S (mapIn (((wr.alloc (.cells #[.int .i64 y.1, .int .i64 y.2, .bool false] 283)).drewN nq).setCell ⟨bw, 4, none⟩ (.bool true)) bm) + s.length < 3 * unk G.length S (mapIn wr bm) + (s.length + 1)) := by
       show _ < _
       rw [P2.out.mp.inn, HM0.out]
       omega
      go_wp2_with fail
      exact ⟨⟨s, m, ev, E, true, bl, P1, P2, P3, P4⟩, by have := HM.out; simpa [lenOf] using this⟩
     | false =>
      as_aux_lemma =>
      go_wp2_with fail
      go_quiet (fail)
      have N1 := Lib.hid (bdrewN B1.out nq)
      have z4 := (E2.out.kept N1.out).cells.2.2.2.2.1
      have f4 := (E2.out.kept N1.out).free'.2.1
      have P2 := Lib.hid ((E2.out.kept N1.out).setLo b)
      have P1 : Hid (Stk' (((wr.alloc (.cells #[.int .i64 y.1, .int .i64 y.2, .bool false] 283)).drewN nq).setCell ⟨bw, 4, none⟩ (.bool b)) BB (.slice (some ⟨g, 0, none⟩) s.length cap) s) := own_set (own_below HT.out N1.out) (p := ⟨bw, 4, none⟩) (own_blk (own_below HT.out N1.out) (E2.out.kept N1.out).blk typ_ne2) _
      have P4 := Lib.hid ((R4.out.trans (N1.out.mono BB2)).setCell (p := ⟨bw, 4, none⟩) E2.out.lw (.bool b))
      have HM : Hid (3 * unk G.length S (mapIn (((wr.alloc (.cells #[.int .i64 y.1, .int .i64 y.2, .bool false] 283)).drewN nq).setCell ⟨bw, 4, none⟩ (.bool b)) bm) + s.length < 3 * unk G.length S (mapIn wr bm) + (s.length + 1)) := by
       show _ < _
       rw [P2.out.mp.inn, HM0.out]
       omega
      go_wp2_with fail
      exact ⟨⟨s, m, ev, E, b, bl, P1, P2, P3, P4⟩, by have := HM.out; simpa [lenOf] using this⟩
    | none =>
     as_aux_lemma =>
     have hl : ∀ n, (Instr.lookup 197 (.map (some bm)) (.agg #[.int .i64 y.1, .int .i64 y.2]) true).run Tryz.prog ((wr.alloc (.cells #[.int .i64 y.1, .int .i64 y.2, .bool false] 283)).drewN n) = .ok (.tuple #[.bool false, .bool false]) ((wr.alloc (.cells #[.int .i64 y.1, .int .i64 y.2, .bool false] 283)).drewN n) := fun n => by
      have := look_run ((R2.out.mp.kept bx).kept (bdrewN (Below.refl _ _) n)) y
      rw [hm] at this
      exact this
     have z2 := (R2.out.kept bx).cells.2.2.1
     have B1 := Lib.hid bx
     have E2 := Lib.hid R2.out
     have HM0 : Hid (mapIn wr bm = m) := R2.out.mp.inn
     have HMN := Lib.hid hm
     have BB2 := Nat.le_trans hBB R4.out.size
     have HG := Lib.hid hnb
     clear R1 R2 hm bx y0 y1
     go_wp2_with fail
     go_quiet (fail)
     have N1 := Lib.hid (bdrewN B1.out nq).drew
     have YB := Lib.hid ((Blk.new wr #[.int .i64 y.1, .int .i64 y.2, .bool false] 283).kept (bdrewN (Below.refl _ _) nq)).drew
     clear B1 z2 hl
     generalize (wr.alloc (.cells #[.int .i64 y.1, .int .i64 y.2, .bool false] 283)).drewN nq = wq at *
     have y0 : wq.drew.cell? ⟨wr.heap.size, 0, none⟩ = some (.int .i64 y.1) := YB.out.cell 0
     have y1 : wq.drew.cell? ⟨wr.heap.size, 1, none⟩ = some (.int .i64 y.2) := YB.out.cell 1
     have E3 := Lib.hid (E2.out.kept N1.out)
     have z2 := E3.out.cells.2.2.1
     have hlb := E3.out.blk.lt
     obtain ⟨o, ho, hat⟩ := store_run E3.out.mp y true
     have hs1 : (Instr.mapUpdate 197 (.map (some bm)) (.agg #[.int .i64 y.1, .int .i64 y.2]) (.bool true)).run Tryz.prog wq.drew = .ok () (setBlock wq.drew bm o) := ho _ rfl
     have hat2 := hat wq.drew E3.out.mp.lt
     have P2 := Lib.hid (E3.out.setMp hat2)
     have P1 : Hid (Stk' (setBlock wq.drew bm o) BB (.slice (some ⟨g, 0, none⟩) s.length cap) s) := own_setB (own_below HT.out N1.out) (own_map (own_below HT.out N1.out) E3.out.mp) o
     have PY := Lib.hid (Blk.setB' YB.out (k := bm) (fun e => by have := E2.out.mp.lt; omega) o)
     have P4 := Lib.hid (below_setB (R4.out.trans (N1.out.mono BB2)) E3.out.lm o)
     clear ho hat hat2 E3 HT R4
     go_wp2_with fail
     refine wp_region_still_tail 6 (by kernel_rfl) (by kernel_rfl) ?_
     change wpStill _ _ (World.drew _) (fun a' => wpList _ _ _ _ a' (World.drew _)) _ _
     generalize wq.drew = wd at *
     simp only [List.take_succ_cons, List.take_zero, List.drop_succ_cons, List.drop_zero]
     repeat still_step
     refine wpStill_nil ?_
     generalize setBlock wd bm o = we at *
     have x0 : we.cell? ⟨wr.heap.size, 0, none⟩ = some (.int .i64 y.1) := PY.out.cell 0
     have x1 : we.cell? ⟨wr.heap.size, 1, none⟩ = some (.int .i64 y.2) := PY.out.cell 1
     have hnb2 := PY.out.lt
     have BA := Lib.hid ((Below.refl we.heap.size we).alloc (Nat.le_refl _) (.cells #[.int .i64 y.1, .int .i64 y.2, .bool true] 283))
     go_wp2_with (at_builtin; refine wpList_append_lies _ (by rfl) _ _ _ (by rfl) BB 283 i0 _ 3 24 Tryz.underlying284 hi0 hz0 hz1 hz2 rfl (by omega) _ s.length (vsC s.reverse) (by rfl) (World.ownsRow.alloc P1.out _) ⟨we.heap.size, 0, none⟩ 1 1 [.int .i64 y.1, .int .i64 y.2, .bool true] (by rfl) (by rfl) (World.news_of_block (cs := #[.int .i64 y.1, .int .i64 y.2, .bool true]) (t := 283) (fr := (0, 0)) (heap_alloc_new we _)) (by simp [Value.oneCell']) (by omega) (by have := HLEN.out.1; simp only [List.length_cons] at this; unfold maxLen; omega) (by have := HLEN.out.1; simp only [List.length_cons] at this; omega) (by have := P4.out.size; simp; omega) (we.heap.size + 1) (by simp) ?_; intro g3 cap3 w3 hown hgrow hat hlt3; have Q2 := Lib.hid ((P2.out.kept BA.out).grown hgrow (fun k hk => WkW.stk (P2.out.kept BA.out) (show Stk' _ BB _ s from own_below P1.out BA.out) k hk)); have QY := Lib.hid (Blk.grown (PY.out.kept BA.out) hgrow (by have := HG.out; simp only [Value.ownBlock, ne_eq, Option.some.injEq]; omega)); have z0 := Q2.out.cells.1; have z1 := Q2.out.cells.2.1; have x0_1 : w3.cell? ⟨wr.heap.size, 0, none⟩ = some (.int .i64 y.1) := QY.out.cell 0; have x1_1 : w3.cell? ⟨wr.heap.size, 1, none⟩ = some (.int .i64 y.2) := QY.out.cell 1; have hlb := Q2.out.blk.lt)
     have Q4 := Lib.hid ((P4.out.trans (BA.out.mono (Nat.le_trans hBB P4.out.size))).grown hgrow (by have := P4.out.size; have := BA.out.size; omega) (fun k hk => (World.ownsRow.lt (own_below P1.out BA.out) k hk).1))
     have Q1 := Lib.hid (Stk'.push (x := (y, true)) hown)
     have HNB : Hid (g3 ≠ wr.heap.size) := by
      show g3 ≠ wr.heap.size
      have := HG.out
      rcases hat with e | e
      ·simp only [Value.ownBlock, Option.some.injEq] at e; omega
      ·omega
     clear hown hgrow hat P1 P2 P4 PY BA hnb2
     obtain ⟨c0, hc0⟩ := R3.out.ch
     have hyr : y.1 < G.length ∧ y.2 < S := HF.out.star (x := (st, i)) ⟨HF.out.lt, hi⟩ (hc0.star y false (List.mem_cons_self ..))
     clear hc0
     have C : Hid (Calls Tryz.prog 259 #[.agg #[.slice (some ⟨rb, 0, none⟩) G.length capf, .int .i64 st], .agg #[.int .i64 y.1, .int .i64 y.2]] w3.drew (FollPost (nxp M G y) w3.drew)) :=
      HF.out.fol st y w3.drew hyr.1 hyr.2 ((HB.out.trans (Q4.out.mono hb2)).drew)
     have HEN := Lib.hid (R3.out.enter HMN.out hyr (HF.out.two y) (fun j => nx_end HF.out.top) rfl rfl)
     have HUN := Lib.hid (unk_lt (N := G.length) (S := S) true hyr HMN.out)
     have HN2 := Lib.hid (HF.out.two y)
     have hN0 : ∀ l, nxp M G y = l → Hid (nxp M G y = l) := fun l h => h
     generalize nxp M G y = N at *
     clear hN0 R3
     have z0d : w3.drew.cell? ⟨bw, 0, none⟩ = some (.slice (some ⟨rb, 0, none⟩) G.length capf) := z0
     have z1d : w3.drew.cell? ⟨bw, 1, none⟩ = some (.int .i64 st) := z1
     have x0d : w3.drew.cell? ⟨wr.heap.size, 0, none⟩ = some (.int .i64 y.1) := x0_1
     have x1d : w3.drew.cell? ⟨wr.heap.size, 1, none⟩ = some (.int .i64 y.2) := x1_1
     refine wp_region_still_tail 6 (by kernel_rfl) (by kernel_rfl) ?_
     change wpStill _ _ (World.drew _) (fun a' => wpList _ _ _ _ a' (World.drew _)) _ _
     simp only [List.take_succ_cons, List.take_zero, List.drop_succ_cons, List.drop_zero]
     repeat still_step
     refine wpStill_nil ?_
     go_wp2_with fail
     refine C.out.mono ?_
     rintro e w5 ⟨vN, rfl, hpr, hb5⟩
     have B35 : Below w3.heap.size w3 w5 := Below.trans (Below.refl _ _).drew hb5
     have S2 := Lib.hid (Q2.out.kept B35)
     have S1 : Hid (Stk' w5 BB (.slice (some ⟨g3, 0, none⟩) (s.length + 1) cap3) ((y, true) :: s)) := own_below Q1.out B35
     have S4 := Lib.hid (Q4.out.trans (B35.mono (Nat.le_trans hBB Q4.out.size)))
     have SY := Lib.hid (QY.out.kept B35)
     have SN : Hid ((Value.slice (some ⟨g3, 0, none⟩) (s.length + 1) cap3).ownBlock ≠ some wr.heap.size) := by
      show _ ≠ _
      have := HNB.out
      simp only [Value.ownBlock, ne_eq, Option.some.injEq]
      exact this
     obtain ⟨aN, capN, rfl, hcapN, _⟩ := own_forms hpr
     have SP : Hid (w5.ownsRow w3.heap.size 221 2 (.slice aN N.length capN) N.length (ptC N)) := hpr
     have HW3 := Lib.hid (Nat.le_trans hBB Q4.out.size)
     clear hpr hb5 B35 Q1 Q2 Q4 QY HNB z0 z1 x0_1 x1_1 z0d z1d x0d x1d C HMN
     go_wp2_with fail
     generalize wr.heap.size = nb at *
     go_loopw [4, 84] (fun ov kx w6 => ∃ k : Nat, k ≤ N.length ∧ kx = .int .i64 k ∧ Hid (Stk' w6 BB ov ((N.take k).reverse.map (fun x => (x, false)) ++ (y, true) :: s)) ∧ Hid (WkW w6 BB bw bm (.slice (some ⟨rb, 0, none⟩) G.length capf) st (upd m y true) ev E lo bl) ∧ Hid (Below BB w0 w6) ∧ Hid (w6.ownsRow w3.heap.size 221 2 (.slice aN N.length capN) N.length (ptC N)) ∧ Hid (Blk w6 nb #[.int .i64 y.1, .int .i64 y.2, .bool false] 283) ∧ Hid (ov.ownBlock ≠ some nb)) (fun _ kx _ => N.length - (intOf kx).toNat)
     case atStart => exact ⟨0, by omega, rfl, S1, S2, S4, SP, SY, SN⟩
     case round =>
      clear S1 S2 S4 SP SY SN
      obtain ⟨k, hk, rfl, A1, A2, A4, AP, AY, AN⟩ := hrel
      by_cases hlt : k < N.length
      ·as_aux_lemma =>
       have HLT := Lib.hid hlt
       have hlt2 : (k : Int) < N.length := by omega
       have hk63 : (k : Int) + 1 ≤ 9223372036854775807 := by have := HN2.out; omega
       obtain ⟨a', cap', e1, _, hcl⟩ := own_forms AP.out
       injection e1 with e1 _ e2
       subst e1 e2
       obtain ⟨gN, rfl, hgN, hcells⟩ := hcl (by omega)
       have hp := List.getElem?_eq_getElem hlt
       have HTK := Lib.hid (List.take_succ_eq_append_getElem hlt)
       generalize N[k] = p at hp HTK
       have p0 := hcells _ _ (ptC_get hp).1
       have p1 := hcells _ _ (ptC_get hp).2
       have HLn : Hid (((N.take k).reverse.map (fun x => ((x, false) : Pt × Bool)) ++ (y, true) :: s).length = k + (s.length + 1)) := by
        show _ = _
        simp only [List.length_append, List.length_map, List.length_reverse, List.length_take, List.length_cons]
        omega
       have A1' : Hid (wr.ownsRow BB 283 3 u4 (k + (s.length + 1)) (vsC ((N.take k).reverse.map (fun x => ((x, false) : Pt × Bool)) ++ (y, true) :: s).reverse)) := by
        have := A1.out
        unfold Stk' at this
        rw [HLn.out] at this
        exact this
       have HKL : Hid (k + (s.length + 1) ≤ 1900000) := by
        show _ ≤ _
        have := HLEN.out.1
        have := HN2.out
        simp only [List.length_cons] at *
        omega
       have BP := Lib.hid ((Below.refl wr.heap.size wr).alloc (Nat.le_refl _) (.cells #[.int .i64 p.1, .int .i64 p.2] 221))
       have BQ := Lib.hid (BP.out.alloc (by simp) (.cells #[.int .i64 p.1, .int .i64 p.2, .bool false] 283))
       have HN7 := Lib.hid (heap_alloc_new (wr.alloc (.cells #[.int .i64 p.1, .int .i64 p.2] 221)) (.cells #[.int .i64 p.1, .int .i64 p.2, .bool false] 283))
       have hnb6 := AY.out.lt
       rw [show (wr.alloc (.cells #[.int .i64 p.1, .int .i64 p.2] 221)).heap.size = wr.heap.size + 1 by simp] at HN7
       clear hcl hcells hp
       go_wp2_with (at_builtin; refine wpList_append_lies _ (by rfl) _ _ _ (by rfl) BB 283 i0 _ 3 24 Tryz.underlying284 hi0 hz0 hz1 hz2 rfl (by omega) _ _ _ (by rfl) (own_below A1'.out BQ.out) ⟨wr.heap.size + 1, 0, none⟩ 1 1 [.int .i64 p.1, .int .i64 p.2, .bool false] (by rfl) (by rfl) (World.news_of_block (cs := #[.int .i64 p.1, .int .i64 p.2, .bool false]) (t := 283) (fr := (0, 0)) HN7.out) (by simp [Value.oneCell']) (by omega) (by have := HKL.out; unfold maxLen; omega) (by have := HKL.out; omega) (Nat.le_trans (Nat.le_trans hBB A4.out.size) BQ.out.size) (wr.heap.size + 1 + 1) (by simp) ?_; intro g4 cap4 w7 hown hgrow hat hlt7)
       have A1k := own_below A1.out BQ.out
       have N2 := Lib.hid ((A2.out.kept BQ.out).grown hgrow (fun k hk => WkW.stk (A2.out.kept BQ.out) (show Stk' _ BB _ _ from A1k) k hk))
       have NP := Lib.hid (own_of (own_below AP.out BQ.out) (fun k hk => hgrow.block k (World.ownsRow.lt (own_below AP.out BQ.out) k hk).2 (fun e => by
        rcases own_own (own_below AP.out BQ.out) A1k typ_ne4 with e2 | e2
        ·rw [hk] at e2; cases e2
        ·rw [hk] at e2; exact e2 e)))
       have NY := Lib.hid (Blk.grown (AY.out.kept BQ.out) hgrow AN.out)
       have N4 := Lib.hid ((A4.out.trans (BQ.out.mono (Nat.le_trans hBB A4.out.size))).grown hgrow (Nat.le_trans (Nat.le_trans hBB A4.out.size) BQ.out.size) (fun k hk => (World.ownsRow.lt A1k k hk).1))
       have NN : Hid ((Value.slice (some ⟨g4, 0, none⟩) (k + (s.length + 1) + 1) cap4).ownBlock ≠ some nb) := by
        show _ ≠ _
        simp only [Value.ownBlock, ne_eq, Option.some.injEq]
        rcases hat with e | e
        ·intro e3; subst e3; exact AN.out e
        ·omega
       have N1 : Hid (Stk' w7 BB (.slice (some ⟨g4, 0, none⟩) (k + (s.length + 1) + 1) cap4) ((N.take (k + 1)).reverse.map (fun x => (x, false)) ++ (y, true) :: s)) := by
        rw [push_take HTK.out]
        exact Stk'.push (x := (p, false)) (by rw [HLn.out]; exact hown)
       clear hown hgrow hat A1k A1 A1' A2 A4 AP AY AN BP BQ HN7
       go_wp2_with fail
       exact ⟨⟨k + 1, by have := HLT.out; omega, by go_num, N1, N2, N4, NP, NY, NN⟩, by have := HLT.out; simp [intOf]; omega⟩
      ·have hk2 : k = N.length := by omega
       subst hk2
       rw [List.take_length] at A1
       have hnl : ¬ (N.length : Int) < N.length := by omega
       cases N with
       | nil =>
        as_aux_lemma =>
        have k0 : wr.cell? ⟨nb, 0, none⟩ = some (.int .i64 y.1) := AY.out.cell 0
        have k1 : wr.cell? ⟨nb, 1, none⟩ = some (.int .i64 y.2) := AY.out.cell 1
        have CE := Lib.hid (end_any y wr A2.out (Nat.le_trans hBB A4.out.size) (by have := HLEN.out.2; omega))
        have HE2 : Hid (Dfs M G S (st, i) m0 E0 lo0 bl0 ((y, true) :: s) (upd m y true) (if y.1 = 0 then E ++ [y.2] else E) lo (if y.1 ≠ 0 then true else bl)) := by
         have := HEN.out
         simp only [true_and] at this
         exact this
        have A1' : Hid (Stk' wr BB u4 ((y, true) :: s)) := A1.out
        clear HEN A1
        go_wp2_with fail
        refine CE.out.mono ?_
        rintro e w7 ⟨rfl, ev', hwk, hkp⟩
        have T1 : Hid (Stk' w7 BB u4 ((y, true) :: s)) := own_kpp A1'.out hkp (A2.out.stk A1'.out)
        have T4 := Lib.hid (A4.out.trans (hkp.below (B := BB) (fun k hk => by
         rcases hk with rfl | rfl | hk
         ·exact A2.out.lw
         ·exact A2.out.lm
         ·exact (World.ownsRow.lt A2.out.er k hk).1) (Nat.le_trans hBB A4.out.size)))
        have T2 := Lib.hid hwk
        clear hwk hkp CE A1' A2 A4 AP AY AN
        go_wp2_with fail
        refine ⟨⟨_, _, ev', _, lo, _, T1, T2, HE2, T4⟩, ?_⟩
        rw [T2.out.mp.inn, lenOf_stk T1.out, HM0.out, List.length_cons]
        show _ < _ + (s.length + 1)
        have := HUN.out
        omega
       | cons z N =>
        as_aux_lemma =>
        have hne : ¬ (((z :: N).length : Int) = 0) := by simp only [List.length_cons]; omega
        have HE2 : Hid (Dfs M G S (st, i) m0 E0 lo0 bl0 (((z :: N).reverse.map (fun x => (x, false))) ++ (y, true) :: s) (upd m y true) E lo bl) := by
         have := HEN.out
         rw [if_neg (by rintro ⟨h, _⟩; cases h), if_neg (by rintro ⟨h, _⟩; cases h)] at this
         exact this
        clear HEN
        go_wp2_with fail
        refine ⟨⟨_, _, ev, _, lo, _, A1, A2, HE2, A4⟩, ?_⟩
        rw [A2.out.mp.inn, lenOf_stk A1.out, HM0.out]
        show _ < _ + (s.length + 1)
        have := HUN.out
        have := HN2.out
        simp only [List.length_append, List.length_map, List.length_reverse, List.length_cons] at *
        omega
end
set_option maxRecDepth 100000 in
set_option maxHeartbeats 4000000 in
theorem newWalk_any (rb n cap : Nat) (st : Int) (w : World) : Calls Tryz.prog 229 #[.agg #[.slice (some ⟨rb, 0, none⟩) n cap, .int .i64 st]] w fun e w' => ∃ bw bm, e = .returned (.pointer (some ⟨bw, 0, none⟩)) ∧ WkW w' w.heap.size bw bm (.slice (some ⟨rb, 0, none⟩) n cap) st (fun _ => none) (.slice none 0 0) [] false false ∧ Below w.heap.size w w' := by
 have hmm := @run_makeMap Tryz.prog
 have f1 := Blk.new w #[.slice (some ⟨rb, 0, none⟩) n cap, .int .i64 st] 131
 have b1 := (Below.refl w.heap.size w).alloc (Nat.le_refl _) (.cells #[.slice (some ⟨rb, 0, none⟩) n cap, .int .i64 st] 131)
 have z1 : (w.alloc (.cells #[.slice (some ⟨rb, 0, none⟩) n cap, .int .i64 st] 131)).heap.size = w.heap.size + 1 := by simp
 generalize hw2 : w.alloc (.cells #[.slice (some ⟨rb, 0, none⟩) n cap, .int .i64 st] 131) = wa at f1 b1 z1
 have m2 : (wa.alloc (.map #[] 0)).heap[wa.heap.size]? = some (.map #[] 0) := by show (wa.heap.push _)[wa.heap.size]? = _; simp
 have b2 := b1.alloc (by omega) (.map #[] 0)
 have z2 : (wa.alloc (.map #[] 0)).heap.size = w.heap.size + 1 + 1 := by rw [← z1]; simp
 rw [z1] at m2
 have hmp : MapAt (wa.alloc (.map #[] 0)) (w.heap.size + 1) (fun _ => none) := ⟨#[], 0, [], m2, rfl, fun _ => rfl⟩
 generalize hwb : wa.alloc (.map #[] 0) = wb at m2 b2 z2 hmp
 have kb := Blk.new wb (wkC (.slice (some ⟨rb, 0, none⟩) n cap) st (w.heap.size + 1) (.slice none 0 0) false false) 199
 have bb := (Below.refl wb.heap.size wb).alloc (Nat.le_refl _) (.cells (wkC (.slice (some ⟨rb, 0, none⟩) n cap) st (w.heap.size + 1) (.slice none 0 0) false false) 199)
 rw [z2] at kb
 have T1 : Hid (WkW (wb.alloc (.cells (wkC (.slice (some ⟨rb, 0, none⟩) n cap) st (w.heap.size + 1) (.slice none 0 0) false false) 199)) w.heap.size (w.heap.size + 1 + 1) (w.heap.size + 1) (.slice (some ⟨rb, 0, none⟩) n cap) st (fun _ => none) (.slice none 0 0) [] false false) :=
  ⟨kb, hmp.kept bb, ⟨rfl, .inl ⟨rfl, rfl⟩⟩, by omega, by omega⟩
 have T4 := Lib.hid (bnext b2 bb)
 unfold wkC at T1 T4
 clear f1 b1 z1 m2 b2 z2 hmp kb bb
 subst hwb hw2
 go_enter Tryz.func229, Tryz.ntmps229
 go_wp2_with fail
 go_ret
 exact ⟨_, _, rfl, T1.out, T4.out⟩
def WfPost (M : Mdl) (G : List Stp) (N : Nat) (sp : Value) (st : Nat) (S : Nat → Bool) (k : Nat) (w : World) (e : Ending) (w' : World) : Prop :=
 ∃ bw bm m ev E lo bl, e = .returned (.pointer (some ⟨bw, 0, none⟩)) ∧ WkW w' w.heap.size bw bm sp st m ev E lo bl ∧ Wk M G N st S k m E lo bl ∧ Below w.heap.size w w'
set_option maxRecDepth 1000000 in
set_option maxHeartbeats 4000000 in
theorem walkFrom_any {M : Mdl} {N : Nat} {w1 : World} {sp : Value} {st : Nat} {G : List Stp} (hF : Flown M N w1 sp st G) (hN : 27 ≤ N) (hN2 : N ≤ 729) (S : Nat → Bool) (w : World) (hb : Below w1.heap.size w1 w) :
  Calls Tryz.prog 179 #[.agg #[sp, .int .i64 st], .int .u32 (nb 27 S)] w (WfPost M G N sp st S 27 w) := by
 obtain ⟨rb, cap, rfl⟩ := hF.sl
 have HF := Lib.hid hF
 have HB := Lib.hid hb
 have NW := fun w => Lib.hid (newWalk_any rb G.length cap st w)
 have b1 := (Below.refl w.heap.size w).alloc (Nat.le_refl _) (.cells #[.slice (some ⟨rb, 0, none⟩) G.length cap, .int .i64 st] 131)
 have f1 := Blk.new w #[.slice (some ⟨rb, 0, none⟩) G.length cap, .int .i64 st] 131
 have B1 := Lib.hid b1
 clear hF hb
 go_enter Tryz.func179, Tryz.ntmps179
 go_wp2_with fail
 generalize w.alloc (.cells #[.slice (some ⟨rb, 0, none⟩) G.length cap, .int .i64 st] 131) = w0 at *
 have c0 := f1.cell 0
 have c1 := f1.cell 1
 simp at c0 c1
 go_wp2_with fail
 refine (NW _).out.mono ?_
 rintro e w3 ⟨bw, bm, rfl, h1, h2⟩
 have T4 := Lib.hid (b1.trans (h2.mono b1.size))
 have T1 := Lib.hid h1
 have HS0 := Lib.hid b1.size
 have T5 := Lib.hid h2.size
 clear h1 h2 b1 f1 c0 c1 NW
 go_wp2_with fail
 go_loopw [9] (fun i wr => ∃ k : Nat, k ≤ 27 ∧ i = .int .i64 k ∧ ∃ m ev E lo bl, Hid (WkW wr w0.heap.size bw bm (.slice (some ⟨rb, 0, none⟩) G.length cap) st m ev E lo bl) ∧ Hid (Wk M G N st S k m E lo bl) ∧ Hid (Below w.heap.size w wr) ∧ Hid (w0.heap.size ≤ wr.heap.size)) (fun i _ => 27 - (intOf i).toNat)
 case atStart => exact ⟨0, by omega, rfl, _, _, _, _, _, T1, Wk.zero M G N st S, T4, T5⟩
 case round =>
  clear T1 T4 T5
  obtain ⟨k, hk, rfl, m, ev, E, lo, bl, R1, R2, R3, R4⟩ := hrel
  by_cases hlt : k < 27
  ·have D := fun w => Lib.hid (implHasB S k w hlt)
   cases hS : S k
   ·rw [hS] at D
    have HK := Lib.hid (R2.out.skip hS)
    clear hS
    go_wp2_with fail
    refine (D _).out.mono ?_
    rintro e w' ⟨rfl, rfl⟩
    go_wp2_with fail
    exact ⟨⟨k + 1, by omega, by go_num, m, ev, E, lo, bl, R1, HK, R3, R4⟩, by simp [intOf]; omega⟩
   ·rw [hS] at D
    have HS := Lib.hid hS
    have HC := Lib.hid (fol_any HF.out hN2 wr w0.heap.size bw bm m ev E lo bl k (by omega) R1.out R4.out (HB.out.trans (R3.out.mono HB.out.size)) (Nat.le_trans HB.out.size HS0.out) R2.out.bk R2.out.lps R2.out.sz)
    clear hS
    go_wp2_with fail
    refine (D _).out.mono ?_
    rintro e w' ⟨rfl, rfl⟩
    go_wp2_with fail
    refine HC.out.mono ?_
    rintro e w' ⟨rfl, m', ev', E', lo', bl', k1, k2, k3⟩
    have HK := Lib.hid (R2.out.step HS.out k3)
    have Q1 := Lib.hid k1
    have Q3 := Lib.hid (R3.out.trans (k2.mono HS0.out))
    have Q4 := Lib.hid (Nat.le_trans R4.out k2.size)
    clear k1 k2 k3 HC R1 R2 R3 R4
    go_wp2_with fail
    exact ⟨⟨k + 1, by omega, by go_num, m', ev', E', lo', bl', Q1, HK, Q3, Q4⟩, by simp [intOf]; omega⟩
  ·have hk2 : k = 27 := by omega
   subst hk2
   go_wp2_with fail
   go_ret
   exact ⟨bw, bm, m, ev, E, lo, bl, rfl, ⟨R1.out.blk, R1.out.mp, own_of (World.ownsRow.mono R1.out.er HS0.out) (fun _ _ => rfl), Nat.le_trans HS0.out R1.out.lw, Nat.le_trans HS0.out R1.out.lm⟩, R2.out, R3.out⟩
end Go.Proofs.YtgkoljphndgoeaaGreatDoor
namespace Go.Proofs.YtgkoljphndgoeaaGreatDoor
open Go.RowKit
theorem at_withS (n : Nat) (w : World) : (method 449 66 (.int .u32 n) "loop.example/productprograms/impl.with").run Tryz.prog w = .ok (141, .int .u32 n) w := by kernel_rfl
def inE (E : List Nat) : Nat → Bool := fun j => decide (j ∈ E)
theorem inE_nil : nb 27 (inE []) = 0 := nb_zero 27 (fun _ _ => by simp [inE])
theorem inE_snoc (E : List Nat) (n : Nat) : nb 27 (inE (E ++ [n])) = nb 27 (fun j => inE E j || j == n) := nb_congr fun j _ => by
 unfold inE
 by_cases h : j ∈ E <;> by_cases h2 : j = n <;> simp [h, h2]
set_option maxRecDepth 100000 in
set_option maxHeartbeats 4000000 in
theorem setOf_any (E : List Nat) (hE : ∀ n, n ∈ E → n < 27) (B : Nat) (ev : Value) (w : World) (h : w.ownsRow B 3 1 ev E.length (enC E)) :
  Calls Tryz.prog 180 #[ev] w fun e w' => e = .returned (.int .u32 (nb 27 (inE E) : Nat)) ∧ w = w' := by
 have hlen := own_len h
 obtain ⟨a, cap, rfl, hc, hf⟩ := own_forms h
 have HF := Lib.hid hf
 have HE := Lib.hid hE
 have e0 := inE_nil
 have hmt := at_withS
 clear h hf hE
 unfold maxLen at hlen
 obtain ⟨n, hn⟩ : ∃ n, n = E.length := ⟨_, rfl⟩
 rw [← hn] at hlen hc HF ⊢
 have HL := Lib.hid hn
 clear hn
 go_enter Tryz.func180, Tryz.ntmps180
 go_wp2_with fail
 go_loopw [3, 8] (fun sv ix wr => ∃ k : Nat, k ≤ n ∧ ix = .int .i64 k ∧ sv = .int .u32 (nb 27 (inE (E.take k)) : Nat) ∧ w = wr) (fun _ ix _ => n - (intOf ix).toNat)
 case atStart => exact ⟨0, by omega, rfl, by rw [List.take_zero, e0]; rfl, rfl⟩
 case round =>
  obtain ⟨k, hk, rfl, rfl, rfl⟩ := hrel
  by_cases hlt : k < n
  ·have hlt2 : (k : Int) < n := by omega
   obtain ⟨g, rfl, _, hcell⟩ := HF.out (by omega)
   have hkE : k < E.length := by rw [← HL.out]; exact hlt
   have c0 := hcell k (.int .i64 (E[k] : Nat)) (by unfold enC; rw [List.getElem?_map, List.getElem?_eq_getElem hkE]; rfl)
   have W := fun w => Lib.hid (implWithB (inE (E.take k)) E[k] w (HE.out _ (List.getElem_mem hkE)))
   have HT := Lib.hid (List.take_succ_eq_append_getElem hkE)
   generalize E[k] = x at c0 W HT
   clear hcell hkE
   go_wp2_with fail
   refine (W _).out.mono ?_
   rintro e w' ⟨rfl, rfl⟩
   go_wp2_with fail
   exact ⟨⟨k + 1, by omega, by go_num, by rw [HT.out, inE_snoc], trivial⟩, by simp [intOf]; omega⟩
  ·have hk2 : k = n := by omega
   have hnl : ¬ (k : Int) < n := by omega
   subst hk2
   have HT := Lib.hid (show E.take k = E from List.take_of_length_le (by rw [← HL.out]; exact Nat.le_refl _))
   go_wp2_with fail
   go_ret
   exact ⟨by rw [HT.out]; rfl, rfl⟩
end Go.Proofs.YtgkoljphndgoeaaGreatDoor
