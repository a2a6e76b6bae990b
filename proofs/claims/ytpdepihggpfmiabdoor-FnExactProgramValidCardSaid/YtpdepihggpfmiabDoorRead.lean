/-
  impl.readTerm: the tree and true for a text of at most 200 bytes that is a term of the kind, and the zero value and false for every other text: what mustRead panics at is recovered.
-/
import Derived.Test.YtpdepihggpfmiabDoorMust
import Derived.Defers
import Derived.Recover
namespace Go.Proofs.YtpdepihggpfmiabDoor
open Go.RowKit

set_option maxHeartbeats 1000000 in
theorem must_long (k : UInt8) (s : ByteArray) (w : World) (hk : IsKind k) (hsz : lim k < s.size) : Calls Tryd.prog 80 #[.string s, .int .u8 k.toNat] w (MustPost k s w) := by
  have LG := fun w => Lib.hid (longest_any k w hk)
  have hnl : lim k < s.size := by omega
  go_enter Tryd.func80, Tryd.ntmps80
  go_wp2_with fail
  refine (LG _).out.mono ?_
  rintro e w0 ⟨rfl, rfl⟩
  clear LG
  go_wp2_with fail
  exact ⟨rfl, (Below.refl _ _).alloc (Nat.le_refl _) _, .inr ⟨fun h => by omega, _, rfl⟩⟩

theorem must_all (k : UInt8) (s : ByteArray) (w : World) (hk : IsKind k) : Calls Tryd.prog 80 #[.string s, .int .u8 k.toNat] w (MustPost k s w) := by
  by_cases h : s.size ≤ lim k
  · exact must_any k s w hk h
  · exact must_long k s w hk (by omega)

theorem fok_kind {c : UInt8} {kids : Fo} {k : UInt8} (h : FOk false (.nd c kids .nil) [k]) : IsKind k := by
  obtain ⟨k', ks', l, e, h1, _⟩ := h
  cases e
  exact gopk_kind h1

theorem must_yes (k : UInt8) (s : ByteArray) (w : World) {c : UInt8} {kids : Fo} (ht : FOk false (.nd c kids .nil) [k]) (hs : s.data.toList = (Fo.nd c kids .nil).ser) (hl : s.size ≤ lim k) :
    Calls Tryd.prog 80 #[.string s, .int .u8 k.toNat] w fun e w' => ∃ ya ym, e = .returned (.agg #[.int .u8 c.toNat, .slice ya kids.len ym]) ∧ RepN w' w.heap.size c kids (.int .u8 c.toNat) (.slice ya kids.len ym) ∧ Below w.heap.size w w' :=
  (must_all k s w (fok_kind ht)).mono fun e w' h => by
    obtain ⟨hb, h⟩ := h
    rcases h with ⟨c', kids', x, y, ht', hs', _, rfl, hr⟩ | ⟨h, _⟩
    · have e := fo_inj ht ht' (hs.symm.trans hs')
      cases e
      obtain ⟨ya, ym, rfl, rfl⟩ := hr.forms
      exact ⟨_, _, rfl, hr.mono (by omega), hb⟩
    · exact absurd ⟨⟨_, ht, hs⟩, hl⟩ h
theorem must_no (k : UInt8) (s : ByteArray) (w : World) (hk : IsKind k) (h : ¬ (GValid false k s.data.toList ∧ s.size ≤ lim k)) :
    Calls Tryd.prog 80 #[.string s, .int .u8 k.toNat] w fun e w' => ∃ v, e = .panicked [{ v := .iface 9 v, recovered := false }] ∧ Below w.heap.size w w' :=
  (must_all k s w hk).mono fun e w' h2 => by
    obtain ⟨hb, h2⟩ := h2
    rcases h2 with ⟨c', kids', x, y, ht', hs', hl, rfl, hr⟩ | ⟨_, v, rfl⟩
    · exact absurd ⟨⟨_, ht', hs'⟩, hl⟩ h
    · exact ⟨v, rfl, hb⟩

theorem catch_idle (p q : Addr) (w : World) :
    CallsD Tryd.prog 79 #[.pointer (some p), .pointer (some q)] .returning w fun e u' w' => e = .returned (.tuple #[]) ∧ u' = .returning ∧ w' = w := by
  refine callsD_of_wpS Tryd.func79 rfl fun c₀ cs hu => ?_
  apply wpS_seq
  apply wpS_region
  simp [wpOpsS, go_sem, recoverD, hu, Tryd.ntmps79, Exit.thenS]
  refine wpS_cond (t := false) (by simp [Act.eval, Array.replicate]) ?_
  simp only [Bool.false_eq_true, if_false]
  refine wpS_of_wp (wp_skip ?_)
  cases c₀
  simp_all [bodyPostS, results, Tryd.results79]

theorem catch_panicking (b c : Nat) (xc : Int) (ya : Option Addr) (yn ym : Nat) (o : Bool) (u : TypeId) (pv : Value) (older : List PanicEntry) (w : World) (hbc : b ≠ c)
    (h0 : w.cell? ⟨b, 0, none⟩ = some (.int .u8 xc)) (h1 : w.cell? ⟨b, 1, none⟩ = some (.slice ya yn ym)) (h2 : w.cell? ⟨c, 0, none⟩ = some (.bool o))
    (f0 : w.frozen? ⟨b, 0, none⟩ = false) (f1 : w.frozen? ⟨b, 1, none⟩ = false) (f2 : w.frozen? ⟨c, 0, none⟩ = false) :
    CallsD Tryd.prog 79 #[.pointer (some ⟨b, 0, none⟩), .pointer (some ⟨c, 0, none⟩)] (.panicking ({ v := .iface u pv, recovered := false } :: older)) w fun e u' w' =>
      e = .returned (.tuple #[]) ∧ u' = .panicking ({ v := .iface u pv, recovered := true } :: older) ∧ w' = ((w.setCell ⟨b, 0, none⟩ (.int .u8 0)).setCell ⟨b, 1, none⟩ (.slice none 0 0)).setCell ⟨c, 0, none⟩ (.bool false) := by
  refine callsD_of_wpS Tryd.func79 rfl fun c₀ cs hu => ?_
  apply wpS_seq
  apply wpS_region
  simp [wpOpsS, go_sem, recoverD, hu, Tryd.ntmps79, Exit.thenS]
  refine wpS_cond (t := true) (by simp [Act.eval, Array.replicate]) ?_
  simp only [if_true]
  apply wpS_region
  simp [wpOpsS, go_sem, h0, h1, h2, f0, f1, f2, bodyPostS, results, Tryd.results79]

set_option maxHeartbeats 1000000 in
theorem gread_yes (k : UInt8) (s : ByteArray) (w : World) {c : UInt8} {kids : Fo} (ht : FOk false (.nd c kids .nil) [k]) (hs : s.data.toList = (Fo.nd c kids .nil).ser) (hl : s.size ≤ lim k) :
    Calls Tryd.prog 76 #[.string s, .int .u8 k.toNat] w fun e w' => ∃ ya ym, e = .returned (.tuple #[.agg #[.int .u8 c.toNat, .slice ya kids.len ym], .bool true]) ∧ RepN w' w.heap.size c kids (.int .u8 c.toNat) (.slice ya kids.len ym) ∧ Below w.heap.size w w' := by
  have HM := fun w => Lib.hid (must_yes k s w ht hs hl)
  have hmf : ∀ (fn : Fn) (first cap : Array Value) (w : World), (Instr.makeFunc fn first cap).run Tryd.prog w = .ok (.func fn first cap) w := fun _ _ _ _ => rfl
  clear hs
  go_enter_defers Tryd.func76, Tryd.ntmps76
  go_wp2_with fail
  refine (HM _).out.mono ?_
  rintro e w1 ⟨ya, ym, rfl, hrep, hb⟩
  have hB : Below w.heap.size w w1 := (((Below.refl _ _).alloc (Nat.le_refl _) _).alloc (by simp) _).trans (hb.mono (by simp; omega))
  have hlt : w.heap.size + 1 < w1.heap.size := by have := hb.size; simp at this; omega
  obtain ⟨hc, hf⟩ := bcell hb
  have a0 : w1.cell? ⟨w.heap.size, 0, none⟩ = some (.int .u8 0) := by rw [hc _ _ (by simp <;> omega)]; simp [go_sem]
  have a1 : w1.cell? ⟨w.heap.size, 1, none⟩ = some (.slice none 0 0) := by rw [hc _ _ (by simp <;> omega)]; simp [go_sem]
  have a2 : w1.cell? ⟨w.heap.size + 1, 0, none⟩ = some (.bool false) := by rw [hc _ _ (by simp <;> omega)]; simp [go_sem]
  have b0 : w1.frozen? ⟨w.heap.size, 0, none⟩ = false := by rw [hf _ _ (by simp <;> omega)]; simp [go_sem]
  have b1 : w1.frozen? ⟨w.heap.size, 1, none⟩ = false := by rw [hf _ _ (by simp <;> omega)]; simp [go_sem]
  have b2 : w1.frozen? ⟨w.heap.size + 1, 0, none⟩ = false := by rw [hf _ _ (by simp <;> omega)]; simp [go_sem]
  have HR := Lib.hid hrep
  have HB := Lib.hid hB
  clear hb hc hf hrep hB
  go_wp2_with fail
  refine leaves_cons (f := 79) (args := #[.pointer (some ⟨w.heap.size, 0, none⟩), .pointer (some ⟨w.heap.size + 1, 0, none⟩)]) (by simp) (by simp [go_sem]) ?_
  refine (catch_idle _ _ _).mono ?_
  rintro e u' w'' ⟨rfl, rfl, rfl⟩
  refine ⟨.tuple #[.agg #[.int .u8 c.toNat, .slice ya kids.len ym], .bool true], ?_, ya, ym, rfl, ?_, ?_⟩
  · simp [results, Tryd.results76, go_sem, a0, a1, a2]
  · refine HR.out.keep (fun b o v hb h => ?_) (by simp <;> omega)
    simp at hb
    rw [World.cell?_setCell_other _ _ _ _ (by intro e; injection e; omega), World.cell?_setCell_other _ _ _ _ (by intro e; injection e; omega), World.cell?_setCell_other _ _ _ _ (by intro e; injection e; omega)]
    exact h
  · exact ((HB.out.setCell (p := ⟨w.heap.size, 0, none⟩) (Nat.le_refl _) _).setCell (p := ⟨w.heap.size, 1, none⟩) (Nat.le_refl _) _).setCell (p := ⟨w.heap.size + 1, 0, none⟩) (by simp) _

set_option maxHeartbeats 1000000 in
theorem gread_no (k : UInt8) (s : ByteArray) (w : World) (hk : IsKind k) (h : ¬ (GValid false k s.data.toList ∧ s.size ≤ lim k)) :
    Calls Tryd.prog 76 #[.string s, .int .u8 k.toNat] w fun e w' => e = .returned (.tuple #[.agg #[.int .u8 0, .slice none 0 0], .bool false]) ∧ Below w.heap.size w w' := by
  have HM := fun w => Lib.hid (must_no k s w hk h)
  have hmf : ∀ (fn : Fn) (first cap : Array Value) (w : World), (Instr.makeFunc fn first cap).run Tryd.prog w = .ok (.func fn first cap) w := fun _ _ _ _ => rfl
  clear h
  go_enter_defers Tryd.func76, Tryd.ntmps76
  go_wp2_with fail
  refine (HM _).out.mono ?_
  rintro e w1 ⟨pv, rfl, hb⟩
  have hB : Below w.heap.size w w1 := (((Below.refl _ _).alloc (Nat.le_refl _) _).alloc (by simp) _).trans (hb.mono (by simp; omega))
  have hlt : w.heap.size + 1 < w1.heap.size := by have := hb.size; simp at this; omega
  obtain ⟨hc, hf⟩ := bcell hb
  have a0 : w1.cell? ⟨w.heap.size, 0, none⟩ = some (.int .u8 0) := by rw [hc _ _ (by simp <;> omega)]; simp [go_sem]
  have a1 : w1.cell? ⟨w.heap.size, 1, none⟩ = some (.slice none 0 0) := by rw [hc _ _ (by simp <;> omega)]; simp [go_sem]
  have a2 : w1.cell? ⟨w.heap.size + 1, 0, none⟩ = some (.bool false) := by rw [hc _ _ (by simp <;> omega)]; simp [go_sem]
  have b0 : w1.frozen? ⟨w.heap.size, 0, none⟩ = false := by rw [hf _ _ (by simp <;> omega)]; simp [go_sem]
  have b1 : w1.frozen? ⟨w.heap.size, 1, none⟩ = false := by rw [hf _ _ (by simp <;> omega)]; simp [go_sem]
  have b2 : w1.frozen? ⟨w.heap.size + 1, 0, none⟩ = false := by rw [hf _ _ (by simp <;> omega)]; simp [go_sem]
  have HB := Lib.hid hB
  clear hb hc hf hB
  go_wp2_with fail
  refine leaves_cons (f := 79) (args := #[.pointer (some ⟨w.heap.size, 0, none⟩), .pointer (some ⟨w.heap.size + 1, 0, none⟩)]) (by simp) (by simp [go_sem]) ?_
  refine (catch_panicking w.heap.size (w.heap.size + 1) 0 none 0 0 false _ _ [] _ (by omega) a0 a1 a2 b0 b1 b2).mono ?_
  rintro e u' w'' ⟨rfl, rfl, rfl⟩
  refine ⟨.tuple #[.agg #[.int .u8 0, .slice none 0 0], .bool false], ?_, rfl, ?_⟩
  · simp [results, Tryd.results76, go_sem, a0, a1, a2]
  · exact ((HB.out.setCell (p := ⟨w.heap.size, 0, none⟩) (Nat.le_refl _) _).setCell (p := ⟨w.heap.size, 1, none⟩) (Nat.le_refl _) _).setCell (p := ⟨w.heap.size + 1, 0, none⟩) (by simp) _

/-! ### Expressions and tests, in the words of 'Tm' -/
theorem kc_int (k : Bool) : ((kc k).toNat : Int) = kcode k := by cases k <;> rfl
theorem read_yes (k : Bool) (s : ByteArray) (w : World) {t : Tm} (ht : Ok false k t) (hs : s.data.toList = t.ser) (hl : s.size ≤ 200) :
    Calls Tryd.prog 76 #[.string s, .int .u8 (kcode k)] w fun e w' => ∃ xc ya yn ym, e = .returned (.tuple #[.agg #[.int .u8 xc, .slice ya yn ym], .bool true]) ∧ RepT w' w.heap.size t (.int .u8 xc) (.slice ya yn ym) ∧ Below w.heap.size w w' := by
  obtain ⟨c, kids, rest, l, e, h1, h2, h3⟩ := (emb_ok (r := .nil) (ks := []) ht rfl).cons_inv
  rw [FOk.nil_inv h3] at e
  rw [← kc_int]
  refine (gread_yes (kc k) s w (by rw [← e]; exact emb_ok ht rfl) (by rw [hs, ← e, emb_ser]; simp [Fo.ser]) (by rw [show lim (kc k) = 200 by cases k <;> rfl]; exact hl)).mono ?_
  rintro e2 w' ⟨ya, ym, rfl, hr, hb⟩
  exact ⟨_, ya, _, ym, rfl, repT_ofN e.symm hr, hb⟩
theorem valid_gvalid {k : Bool} {l : List UInt8} : GValid false (kc k) l ↔ Valid false k l := by
  constructor
  · rintro ⟨f, hf, rfl⟩
    obtain ⟨t, r, rfl, ht, hr⟩ := emb_inv hf
    rw [FOk.nil_inv hr]
    exact ⟨t, ht, by rw [emb_ser]; simp [Fo.ser]⟩
  · rintro ⟨t, ht, rfl⟩
    exact ⟨emb t .nil, emb_ok ht rfl, by rw [emb_ser]; simp [Fo.ser]⟩
theorem kc_kind (k : Bool) : IsKind (kc k) := by cases k <;> simp [kc, IsKind, NarK]
theorem kc_lim (k : Bool) : lim (kc k) = 200 := by cases k <;> rfl
theorem read_no (k : Bool) (s : ByteArray) (w : World) (h : ¬ (Valid false k s.data.toList ∧ s.size ≤ 200)) :
    Calls Tryd.prog 76 #[.string s, .int .u8 (kcode k)] w fun e w' => e = .returned (.tuple #[.agg #[.int .u8 0, .slice none 0 0], .bool false]) ∧ Below w.heap.size w w' := by
  rw [← kc_int]
  exact gread_no (kc k) s w (kc_kind k) (by rw [valid_gvalid, kc_lim]; exact h)

/-! ### Wide expressions and tests -/
def wcode (k : Bool) : Int := if k then 84 else 69
theorem kcw (k : Bool) : NarK (kc k) ∧ IsKind (kc k - 32) ∧ lim (kc k - 32) = 200 ∧ ((kc k - 32).toNat : Int) = wcode k := by cases k <;> simp [kc, IsKind, NarK, wideK, lim, wcode]
theorem emb_w {k : Bool} {t : Tm} (ht : Ok true k t) : FOk false (emb t .nil) [kc k - 32] := (fok_wide (emb t .nil) [kc k] (by simpa using (kcw k).1)).2 (emb_ok ht rfl)
theorem readw_yes (k : Bool) (s : ByteArray) (w : World) {t : Tm} (ht : Ok true k t) (hs : s.data.toList = t.ser) (hl : s.size ≤ 200) :
    Calls Tryd.prog 76 #[.string s, .int .u8 (wcode k)] w fun e w' => ∃ xc ya yn ym, e = .returned (.tuple #[.agg #[.int .u8 xc, .slice ya yn ym], .bool true]) ∧ RepT w' w.heap.size t (.int .u8 xc) (.slice ya yn ym) ∧ Below w.heap.size w w' := by
  obtain ⟨c, kids, rest, l, e, h1, h2, h3⟩ := (emb_w ht).cons_inv
  rw [FOk.nil_inv h3] at e
  obtain ⟨n1, n2, n3, n4⟩ := kcw k
  rw [← n4]
  refine (gread_yes (kc k - 32) s w (by rw [← e]; exact emb_w ht) (by rw [hs, ← e, emb_ser]; simp [Fo.ser]) (by rw [n3]; exact hl)).mono ?_
  rintro e2 w' ⟨ya, ym, rfl, hr, hb⟩
  exact ⟨_, ya, _, ym, rfl, repT_ofN e.symm hr, hb⟩
theorem validw_gvalid {k : Bool} {l : List UInt8} : GValid false (kc k - 32) l ↔ Valid true k l := by
  rw [gvalid_wide (kcw k).1]
  constructor
  · rintro ⟨f, hf, rfl⟩
    obtain ⟨t, r, rfl, ht, hr⟩ := emb_inv hf
    rw [FOk.nil_inv hr]
    exact ⟨t, ht, by rw [emb_ser]; simp [Fo.ser]⟩
  · rintro ⟨t, ht, rfl⟩
    exact ⟨emb t .nil, emb_ok ht rfl, by rw [emb_ser]; simp [Fo.ser]⟩
theorem readw_no (k : Bool) (s : ByteArray) (w : World) (h : ¬ (Valid true k s.data.toList ∧ s.size ≤ 200)) :
    Calls Tryd.prog 76 #[.string s, .int .u8 (wcode k)] w fun e w' => e = .returned (.tuple #[.agg #[.int .u8 0, .slice none 0 0], .bool false]) ∧ Below w.heap.size w w' := by
  obtain ⟨n1, n2, n3, n4⟩ := kcw k
  rw [← n4]
  exact gread_no (kc k - 32) s w n2 (by rw [validw_gvalid, n3]; exact h)
end Go.Proofs.YtpdepihggpfmiabDoor
