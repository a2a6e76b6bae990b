/-
  Comparisons of what runs may come to: firstMisfit, holds, same; two programs read and their outcomes.
-/
import Derived.Test.YtopbkkmplgllkaaGreatDoorSa0
import Derived.Test.YtopbkkmplgllkaaGreatDoorTwo
import Derived.Deep.RegionHeld3
namespace Go.Proofs.YtopbkkmplgllkaaGreatDoor
open Go.RowKit Tm Go.Great Go.ChangeMaps

theorem OcR.form {w : World} {B : Nat} {v : Value} {F : Nat → Oc} (h : OcR w B v F) : ∃ g cap, v = .slice (some ⟨g, 0, none⟩) 27 cap ∧ 27 ≤ cap ∧ ∀ k, k < 27 → w.cell? ⟨g, k * 3, none⟩ = some (.int .u32 (nb 27 (F k).1 : Nat)) ∧ w.cell? ⟨g, k * 3 + 1, none⟩ = some (.bool (F k).2.1) ∧ w.cell? ⟨g, k * 3 + 2, none⟩ = some (.bool (F k).2.2) := by
  obtain ⟨a, cap, rfl, hc, hf⟩ := own_forms h
  obtain ⟨g, rfl, _, hcell⟩ := hf (by omega)
  refine ⟨g, cap, rfl, hc, fun k hk => ?_⟩
  obtain ⟨h1, h2, h3⟩ := ocs_get F 27 k hk
  exact ⟨hcell _ _ h1, hcell _ _ h2, hcell _ _ h3⟩
theorem OcR.kept {w w' : World} {B : Nat} {v : Value} {F : Nat → Oc} (h : OcR w B v F) (hb : Below w.heap.size w w') : OcR w' B v F := own_below h hb

/-- The first state at which a comparison fails. -/
def Misfit (f : Oc → Oc → Bool) (F G : Nat → Oc) (e : Ending) : Prop := (∃ k : Nat, k < 27 ∧ f (F k) (G k) = false ∧ (∀ j, j < k → f (F j) (G j) = true) ∧ e = .returned (.tuple #[.int .i64 k, .bool true])) ∨ ((∀ j, j < 27 → f (F j) (G j) = true) ∧ e = .returned (.tuple #[.int .i64 0, .bool false]))
set_option maxRecDepth 100000 in
set_option maxHeartbeats 8000000 in
theorem misfit_any {fn : FuncId} {f : Oc → Oc → Bool} (hf : Fits fn f) (F G : Nat → Oc) (B B' : Nat) (v1 v2 : Value) (w : World) (h1 : OcR w B v1 F) (h2 : OcR w B' v2 G) :
    Calls Tryz.prog 30 #[.agg #[v1, v2, .func (.func fn) #[] #[]]] w fun e w' => Misfit f F G e ∧ Below w.heap.size w w' := by
  obtain ⟨g1, c1, rfl, k1, f1⟩ := h1.form
  obtain ⟨g2, c2, rfl, k2, f2⟩ := h2.form
  obtain ⟨hfa, hen⟩ := hf
  have HF := fun a b w => Lib.hid (hfa a b w)
  have K0 := Lib.hid (Blk.new w #[.slice (some ⟨g1, 0, none⟩) 27 c1, .slice (some ⟨g2, 0, none⟩) 27 c2, .func (.func fn) #[] #[]] 58)
  have HB := Lib.hid ((Below.refl w.heap.size w).alloc (Nat.le_refl _) (.cells #[.slice (some ⟨g1, 0, none⟩) 27 c1, .slice (some ⟨g2, 0, none⟩) 27 c2, .func (.func fn) #[] #[]] 58))
  have F1 := Lib.hid f1
  have F2 := Lib.hid f2
  have q0 := K0.out.cell 0
  have q1 := K0.out.cell 1
  have q2 := K0.out.cell 2
  simp only [List.getElem?_toArray, List.getElem?_cons_zero, List.getElem?_cons_succ] at q0 q1 q2
  clear hfa h1 h2 f1 f2
  go_enter Tryz.func30, Tryz.ntmps30
  go_wp2_with fail
  generalize w.alloc (.cells #[.slice (some ⟨g1, 0, none⟩) 27 c1, .slice (some ⟨g2, 0, none⟩) 27 c2, .func (.func fn) #[] #[]] 58) = w2 at *
  go_wp2_with fail
  clear q0 q1 q2
  go_loopw [8] (fun ix wr => ∃ k : Nat, k ≤ 27 ∧ ix = .int .i64 k ∧ Hid (Below w.heap.size w wr) ∧ Hid (Blk wr w.heap.size #[.slice (some ⟨g1, 0, none⟩) 27 c1, .slice (some ⟨g2, 0, none⟩) 27 c2, .func (.func fn) #[] #[]] 58) ∧ Hid (∀ j, j < k → f (F j) (G j) = true)) (fun ix _ => 27 - (intOf ix).toNat)
  case atStart => exact ⟨0, by omega, rfl, HB, K0, fun j hj => by omega⟩
  case round =>
    clear HB K0
    obtain ⟨k, hk, rfl, R1, R2, R3⟩ := hrel
    by_cases hlt : k < 27
    · obtain ⟨x0, x1, x2⟩ := F1.out k hlt
      obtain ⟨y0, y1, y2⟩ := F2.out k hlt
      replace x0 := ckeep R1.out x0
      replace x1 := ckeep R1.out x1
      replace x2 := ckeep R1.out x2
      replace y0 := ckeep R1.out y0
      replace y1 := ckeep R1.out y1
      replace y2 := ckeep R1.out y2
      have q0 := R2.out.cell 0
      have q1 := R2.out.cell 1
      have q2 := R2.out.cell 2
      simp only [List.getElem?_toArray, List.getElem?_cons_zero, List.getElem?_cons_succ] at q0 q1 q2
      have C := fun w => Lib.hid (HF (F k) (G k) w).out
      unfold ocV at C
      have HFK : Hid (f (F k) (G k) = f (F k) (G k)) := rfl
      generalize hr : f (F k) (G k) = r at C
      have HR := Lib.hid hr
      clear hr HFK
      generalize nb 27 (F k).1 = u0 at *
      generalize (F k).2.1 = u1 at *
      generalize (F k).2.2 = u2 at *
      generalize nb 27 (G k).1 = s0 at *
      generalize (G k).2.1 = s1 at *
      generalize (G k).2.2 = s2 at *
      have hlt2 : (k : Int) < 27 := by omega
      have hk0 : (0 : Int) ≤ k := by omega
      have hbb := (Below.refl wr.heap.size wr).drew
      go_wp2_with fail
      have RG : ∀ w', Below wr.heap.size wr w' → Below wr.heap.size wr w' ∧ w'.cell? ⟨w.heap.size, 0, none⟩ = some (.slice (some ⟨g1, 0, none⟩) 27 c1) ∧ w'.cell? ⟨w.heap.size, 1, none⟩ = some (.slice (some ⟨g2, 0, none⟩) 27 c2) ∧ w'.cell? ⟨w.heap.size, 2, none⟩ = some (.func (.func fn) #[] #[]) ∧ w'.cell? ⟨g1, k * 3, none⟩ = some (.int .u32 u0) ∧ w'.cell? ⟨g1, k * 3 + 1, none⟩ = some (.bool u1) ∧ w'.cell? ⟨g1, k * 3 + 2, none⟩ = some (.bool u2) ∧ w'.cell? ⟨g2, k * 3, none⟩ = some (.int .u32 s0) ∧ w'.cell? ⟨g2, k * 3 + 1, none⟩ = some (.bool s1) ∧ w'.cell? ⟨g2, k * 3 + 2, none⟩ = some (.bool s2) :=
        fun w' h => ⟨h, ckeep h q0, ckeep h q1, ckeep h q2, ckeep h x0, ckeep h x1, ckeep h x2, ckeep h y0, ckeep h y1, ckeep h y2⟩
      have RG' := Lib.hid RG
      clear RG
      go_region_held3 (fun w' => Below wr.heap.size wr w' ∧ w'.cell? ⟨w.heap.size, 0, none⟩ = some (.slice (some ⟨g1, 0, none⟩) 27 c1) ∧ w'.cell? ⟨w.heap.size, 1, none⟩ = some (.slice (some ⟨g2, 0, none⟩) 27 c2) ∧ w'.cell? ⟨w.heap.size, 2, none⟩ = some (.func (.func fn) #[] #[]) ∧ w'.cell? ⟨g1, k * 3, none⟩ = some (.int .u32 u0) ∧ w'.cell? ⟨g1, k * 3 + 1, none⟩ = some (.bool u1) ∧ w'.cell? ⟨g1, k * 3 + 2, none⟩ = some (.bool u2) ∧ w'.cell? ⟨g2, k * 3, none⟩ = some (.int .u32 s0) ∧ w'.cell? ⟨g2, k * 3 + 1, none⟩ = some (.bool s1) ∧ w'.cell? ⟨g2, k * 3 + 2, none⟩ = some (.bool s2))
        ((first
          | exact RG'.out _ (by assumption)
          | (go_split_ands; exact RG'.out _ (by assumption))
          | (go_split_ands; exact RG'.out _ (bnext (by assumption) hq))))
        (first
          | ((with_reducible refine (C _).out.mono ?_); rintro e w5 ⟨rfl, hq⟩))
      all_goals
        go_split_ands
        have HQ := Lib.hid (show Below wr.heap.size wr _ from by assumption)
        have HF2 := Lib.hid (bnext R1.out HQ.out)
        cases r
        · go_wp2_with fail
          go_ret2
          exact ⟨.inl ⟨k, hlt, HR.out, R3.out, rfl⟩, HF2.out⟩
        · have K2 := Lib.hid (R2.out.kept HQ.out)
          go_wp2_with fail
          exact ⟨⟨k + 1, by omega, by go_num, HF2, K2, fun j hj => by
            by_cases e : j = k
            · subst e; exact HR.out
            · exact R3.out j (by omega)⟩, by simp [intOf]; omega⟩
    · have hk2 : k = 27 := by omega
      subst hk2
      go_wp2_with fail
      go_ret2
      exact ⟨.inr ⟨R3.out, rfl⟩, R1.out⟩

def allO (f : Oc → Oc → Bool) (F G : Nat → Oc) : Bool := (List.range 27).all fun j => f (F j) (G j)
theorem allO_iff {f : Oc → Oc → Bool} {F G : Nat → Oc} : allO f F G = true ↔ ∀ j, j < 27 → f (F j) (G j) = true := by
  unfold allO
  rw [List.all_eq_true]
  exact ⟨fun h j hj => h j (List.mem_range.2 hj), fun h j hj => h j (List.mem_range.1 hj)⟩
set_option maxRecDepth 100000 in
set_option maxHeartbeats 4000000 in
theorem cmp_holds {fn : FuncId} {f : Oc → Oc → Bool} (hf : Fits fn f) (F G : Nat → Oc) (B B' : Nat) (v1 v2 : Value) (w : World) (h1 : OcR w B v1 F) (h2 : OcR w B' v2 G) :
    Calls Tryz.prog 28 #[.agg #[v1, v2, .func (.func fn) #[] #[]]] w fun e w' => e = .returned (.bool (allO f F G)) ∧ Below w.heap.size w w' := by
  have H1 := Lib.hid h1
  have H2 := Lib.hid h2
  obtain ⟨g1, c1, rfl, _, _⟩ := h1.form
  obtain ⟨g2, c2, rfl, _, _⟩ := h2.form
  have bx := (Below.refl w.heap.size w).alloc (Nat.le_refl _) (.cells #[.slice (some ⟨g1, 0, none⟩) 27 c1, .slice (some ⟨g2, 0, none⟩) 27 c2, .func (.func fn) #[] #[]] 58)
  have K0 := Blk.new w #[.slice (some ⟨g1, 0, none⟩) 27 c1, .slice (some ⟨g2, 0, none⟩) 27 c2, .func (.func fn) #[] #[]] 58
  have C := Lib.hid (misfit_any hf F G B B' _ _ _ (H1.out.kept bx) (H2.out.kept bx))
  have BX := Lib.hid bx
  clear h1 h2 bx H1 H2
  go_enter Tryz.func28, Tryz.ntmps28
  go_wp2_with fail
  generalize w.alloc (.cells #[.slice (some ⟨g1, 0, none⟩) 27 c1, .slice (some ⟨g2, 0, none⟩) 27 c2, .func (.func fn) #[] #[]] 58) = w2 at *
  have q0 := K0.cell 0
  have q1 := K0.cell 1
  have q2 := K0.cell 2
  simp only [List.getElem?_toArray, List.getElem?_cons_zero, List.getElem?_cons_succ] at q0 q1 q2
  clear K0
  go_wp2_with fail
  refine C.out.mono ?_
  rintro e w3 ⟨hm, hb⟩
  have HB := Lib.hid (BX.out.trans (hb.mono BX.out.size))
  clear hb C q0 q1 q2
  rcases hm with ⟨k, hk, hkf, _, rfl⟩ | ⟨hall, rfl⟩
  · have e0 : Hid (allO f F G = false) := by
      show _ = _
      cases ha : allO f F G with
      | false => rfl
      | true => have := allO_iff.1 ha k hk; rw [hkf] at this; cases this
    clear hkf
    go_wp2_with fail
    go_ret
    exact ⟨by rw [e0.out]; rfl, HB.out⟩
  · have e0 : Hid (allO f F G = true) := allO_iff.2 hall
    clear hall
    go_wp2_with fail
    go_ret
    exact ⟨by rw [e0.out]; rfl, HB.out⟩
set_option maxHeartbeats 4000000 in
theorem same_any (F G : Nat → Oc) (B B' : Nat) (v1 v2 : Value) (w : World) (h1 : OcR w B v1 F) (h2 : OcR w B' v2 G) :
    Calls Tryz.prog 22 #[v1, v2] w fun e w' => e = .returned (.bool (allO eqO F G)) ∧ Below w.heap.size w w' := by
  have C := Lib.hid (cmp_holds fits_same F G B B' _ _ _ h1 h2)
  obtain ⟨g1, c1, rfl, _, _⟩ := h1.form
  obtain ⟨g2, c2, rfl, _, _⟩ := h2.form
  clear h1 h2
  go_enter Tryz.func22, Tryz.ntmps22
  go_wp2_with fail
  refine C.out.mono ?_
  rintro e w3 ⟨rfl, hb⟩
  have HB := Lib.hid hb
  clear hb
  go_wp2_with fail
  go_ret
  exact ⟨rfl, HB.out⟩

/-! ### Two programs -/
theorem all_len {p : Pg} {s : ByteArray} (hs : s.data.toList = p.ser) (hl : s.size ≤ 200) : p.all.length ≤ 1100 := by
  have h1 : p.all.length ≤ p.ser.length := p.all_le
  have h2 := congrArg List.length hs
  simp at h2
  omega
def ReadOut (p q : Pg) (w : World) (e : Ending) (w' : World) : Prop := ∃ r1 r2 B B', e = .returned (.tuple #[r1, r2, .bool true]) ∧ OcR w' B r1 (oc p) ∧ OcR w' B' r2 (oc q) ∧ Below w.heap.size w w'
set_option maxRecDepth 100000 in
set_option maxHeartbeats 4000000 in
theorem readOut_yes (s t : ByteArray) (w : World) {p q : Pg} (hp : p.ok false) (hs : s.data.toList = p.ser) (hl : s.size ≤ 200) (hq : q.ok false) (ht : t.data.toList = q.ser) (hm : t.size ≤ 200) :
    Calls Tryz.prog 21 #[.string s, .string t] w (ReadOut p q w) := by
  have C := fun w => Lib.hid (two_yes s t w hp hs hl hq ht hm)
  have lp := all_len hs hl
  have lq := all_len ht hm
  clear hs ht
  go_enter Tryz.func21, Tryz.ntmps21
  go_wp2_with fail
  refine (C _).out.mono ?_
  rintro e w2 ⟨T, u, T', u', w1, B, B', rfl, s1, b1, s2, b2⟩
  have HB := Lib.hid b2
  have S2 := Lib.hid s2
  have C1 := Lib.hid (outcomes_any p B _ w2 (s1.below b1) hp lp)
  clear s1 b1 s2 b2 C
  go_wp2_with fail
  refine C1.out.mono ?_
  rintro e w3 ⟨r1, rfl, h1, hb⟩
  have HB3 := Lib.hid (bnext HB.out hb)
  have C2 := Lib.hid (outcomes_any q B' _ w3 (S2.out.below hb) hq lq)
  have H1 := Lib.hid h1
  clear h1 hb C1 S2
  go_wp2_with fail
  refine C2.out.mono ?_
  rintro e w4 ⟨r2, rfl, h2, hb⟩
  have HB4 := Lib.hid (bnext HB3.out hb)
  have H2 := Lib.hid h2
  have H3 := Lib.hid (H1.out.kept hb)
  clear h2 hb C2 H1
  go_wp2_with fail
  go_ret3
  exact ⟨r1, r2, _, _, rfl, H3.out, H2.out, HB4.out⟩
set_option maxHeartbeats 2000000 in
theorem readOut_no (s t : ByteArray) (w : World) (h : ¬ ((PValid false s.data.toList ∧ s.size ≤ 200) ∧ PValid false t.data.toList ∧ t.size ≤ 200)) :
    Calls Tryz.prog 21 #[.string s, .string t] w fun e w' => e = .returned (.tuple #[.slice none 0 0, .slice none 0 0, .bool false]) ∧ Below w.heap.size w w' := by
  have C : ∀ w, Hid (Calls Tryz.prog 42 #[.string s, .string t] w fun e w' => e = .returned (.tuple #[.nilIface, .nilIface, .bool false]) ∧ Below w.heap.size w w') := fun w => by
    by_cases h1 : PValid false s.data.toList ∧ s.size ≤ 200
    · exact two_noB s t w h1.1 h1.2 (fun h2 => h ⟨h1, h2⟩)
    · exact two_noA s t w h1
  clear h
  go_enter Tryz.func21, Tryz.ntmps21
  go_wp2_with fail
  refine (C _).out.mono ?_
  rintro e w2 ⟨rfl, hb⟩
  have HB := Lib.hid hb
  clear hb
  go_wp2_with fail
  go_ret3
  exact ⟨rfl, HB.out⟩
set_option maxHeartbeats 2000000 in
theorem implSame_yes (s t : ByteArray) (w : World) {p q : Pg} (hp : p.ok false) (hs : s.data.toList = p.ser) (hl : s.size ≤ 200) (hq : q.ok false) (ht : t.data.toList = q.ser) (hm : t.size ≤ 200) :
    Calls Tryz.prog 8 #[.string s, .string t] w fun e w' => e = .returned (.bool (allO eqO (oc p) (oc q))) ∧ Below w.heap.size w w' := by
  have C := fun w => Lib.hid (readOut_yes s t w hp hs hl hq ht hm)
  clear hs ht
  go_enter Tryz.func8, Tryz.ntmps8
  go_wp2_with fail
  refine (C _).out.mono ?_
  rintro e w2 ⟨r1, r2, B, B', rfl, h1, h2, hb⟩
  have HB := Lib.hid hb
  have C1 := Lib.hid (same_any _ _ B B' _ _ w2 h1 h2)
  obtain ⟨g1, c1, rfl, _, _⟩ := h1.form
  obtain ⟨g2, c2, rfl, _, _⟩ := h2.form
  clear h1 h2 hb C
  go_wp2_with fail
  refine C1.out.mono ?_
  rintro e w3 ⟨rfl, hb⟩
  have HB3 := Lib.hid (bnext HB.out hb)
  clear hb
  go_wp2_with fail
  go_ret
  exact ⟨rfl, HB3.out⟩
set_option maxHeartbeats 2000000 in
theorem implSame_no (s t : ByteArray) (w : World) (h : ¬ ((PValid false s.data.toList ∧ s.size ≤ 200) ∧ PValid false t.data.toList ∧ t.size ≤ 200)) :
    Calls Tryz.prog 8 #[.string s, .string t] w fun e w' => e = .returned (.bool false) ∧ Below w.heap.size w w' := by
  have C := fun w => Lib.hid (readOut_no s t w h)
  clear h
  go_enter Tryz.func8, Tryz.ntmps8
  go_wp2_with fail
  refine (C _).out.mono ?_
  rintro e w2 ⟨rfl, hb⟩
  have HB := Lib.hid hb
  clear hb C
  go_wp2_with fail
  go_ret
  exact ⟨rfl, HB.out⟩
theorem fits_ref : Fits 27 reO := ⟨isRefined_any, fun a w => by kernel_rfl⟩
set_option maxHeartbeats 2000000 in
theorem implRef_yes (s t : ByteArray) (w : World) {p q : Pg} (hp : p.ok false) (hs : s.data.toList = p.ser) (hl : s.size ≤ 200) (hq : q.ok false) (ht : t.data.toList = q.ser) (hm : t.size ≤ 200) :
    Calls Tryz.prog 13 #[.string s, .string t] w fun e w' => e = .returned (.bool (allO reO (oc p) (oc q))) ∧ Below w.heap.size w w' := by
  have C := fun w => Lib.hid (readOut_yes s t w hp hs hl hq ht hm)
  clear hs ht
  go_enter Tryz.func13, Tryz.ntmps13
  go_wp2_with fail
  refine (C _).out.mono ?_
  rintro e w2 ⟨r1, r2, B, B', rfl, h1, h2, hb⟩
  have HB := Lib.hid hb
  have C1 := Lib.hid (cmp_holds fits_ref _ _ B B' _ _ w2 h1 h2)
  obtain ⟨g1, c1, rfl, _, _⟩ := h1.form
  obtain ⟨g2, c2, rfl, _, _⟩ := h2.form
  clear h1 h2 hb C
  go_wp2_with fail
  refine C1.out.mono ?_
  rintro e w3 ⟨rfl, hb⟩
  have HB3 := Lib.hid (bnext HB.out hb)
  clear hb
  go_wp2_with fail
  go_ret
  exact ⟨rfl, HB3.out⟩
set_option maxHeartbeats 2000000 in
theorem implRef_no (s t : ByteArray) (w : World) (h : ¬ ((PValid false s.data.toList ∧ s.size ≤ 200) ∧ PValid false t.data.toList ∧ t.size ≤ 200)) :
    Calls Tryz.prog 13 #[.string s, .string t] w fun e w' => e = .returned (.bool false) ∧ Below w.heap.size w w' := by
  have C := fun w => Lib.hid (readOut_no s t w h)
  clear h
  go_enter Tryz.func13, Tryz.ntmps13
  go_wp2_with fail
  refine (C _).out.mono ?_
  rintro e w2 ⟨rfl, hb⟩
  have HB := Lib.hid hb
  clear hb C
  go_wp2_with fail
  go_ret
  exact ⟨rfl, HB.out⟩
end Go.Proofs.YtopbkkmplgllkaaGreatDoor
