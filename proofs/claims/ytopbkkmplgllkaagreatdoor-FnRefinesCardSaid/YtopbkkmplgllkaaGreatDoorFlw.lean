/-
  The flow of a program.
-/
import Derived.Test.YtopbkkmplgllkaaGreatDoorLyE
namespace Go.Proofs.YtopbkkmplgllkaaGreatDoor
open Go.RowKit Tm Go.ChangeMaps

theorem ps_one {wide : Bool} {G : List Stp} {x : Stp} (h : ∀ (k : Nat) (s : Stp), 0 < k → G[k]? = some s → StpOk wide s ∧ s.d ≠ none) (hx : StpOk wide x ∧ x.d ≠ none) : ∀ (k : Nat) (s : Stp), 0 < k → (G ++ [x])[k]? = some s → StpOk wide s ∧ s.d ≠ none := by
  intro k s hk hs
  by_cases h1 : k < G.length
  · rw [List.getElem?_append_left h1] at hs
    exact h k s hk hs
  · have h2 := getG_lt hs
    simp at h2
    have e : k = G.length := by omega
    subst e
    simp at hs
    subst hs
    exact hx
theorem layF_ps {wide : Bool} (p : Pg) : p.ok wide → ∀ (a : Nat) (G : List Stp), 0 < G.length → (∀ (k : Nat) (s : Stp), 0 < k → G[k]? = some s → StpOk wide s ∧ s.d ≠ none) → ∀ (k : Nat) (s : Stp), 0 < k → (layF p a G).1[k]? = some s → StpOk wide s ∧ s.d ≠ none := by
  induction p with
  | skip => intro hp a G h0 h; exact ps_one (x := ⟨some .skip, [a]⟩) h ⟨rfl, by simp⟩
  | asg v e => intro hp a G h0 h; exact ps_one (x := ⟨some (.asg v e), [a]⟩) h ⟨⟨rfl, hp.1, hp.2⟩, by simp⟩
  | asm t => intro hp a G h0 h; exact ps_one (x := ⟨some (.asm t), [a]⟩) h ⟨⟨rfl, hp⟩, by simp⟩
  | seq p q ihp ihq =>
    intro hp a G h0 h
    have l := (layF_ok q a G).len
    exact ihp hp.1 _ _ (by omega) (ihq hp.2 a G h0 h)
  | ite t p q ihp ihq =>
    intro hp a G h0 h
    have l := (layF_ok p a G).len
    exact ps_one (ihq hp.2.2 a _ (by omega) (ihp hp.2.1 a G h0 h)) ⟨⟨rfl, hp.1⟩, by simp⟩
  | cho p q ihp ihq =>
    intro hp a G h0 h
    have l := (layF_ok p a G).len
    exact ps_one (ihq hp.2 a _ (by omega) (ihp hp.1 a G h0 h)) ⟨rfl, by simp⟩
  | whl t p ihp =>
    intro hp a G h0 h k s hk hs
    have h1 := ihp hp.2 G.length (G ++ [⟨some (.whl t p), [0, a]⟩]) (by simp) (ps_one (x := ⟨some (.whl t p), [0, a]⟩) h ⟨⟨rfl, hp.1⟩, by simp⟩)
    simp only [layF] at hs
    by_cases e : k = G.length
    · subst e
      have hl := getG_lt hs
      rw [List.length_set] at hl
      rw [List.getElem?_set_self hl] at hs
      injection hs with hs
      subst hs
      exact ⟨⟨rfl, hp.1⟩, by simp⟩
    · rw [List.getElem?_set_ne (fun h => e h.symm)] at hs
      exact h1 k s hk hs

theorem lay_any (w0 : World) (B bf : Nat) : ∀ (p : Pg) (v : Value), StV w0 B p v → LayC w0 B bf p v := by
  intro p
  induction p with
  | skip =>
    intro v hv
    have hv' := hv
    cases hv
    exact lay_one w0 B bf .skip _ _ _ _ _ _ hv' (tas_seq_skip _) (tas_ite_skip _) (tas_cho_skip _) (tas_whl_skip _) (fun a G => rfl)
  | asg x e =>
    intro v hv
    have hv' := hv
    obtain ⟨a, b, rfl, _⟩ := hv
    exact lay_one w0 B bf (.asg x e) _ _ _ _ _ _ hv' (tas_seq_asg _) (tas_ite_asg _) (tas_cho_asg _) (tas_whl_asg _) (fun a G => rfl)
  | asm t =>
    intro v hv
    have hv' := hv
    obtain ⟨x, y, rfl, _⟩ := hv
    exact lay_one w0 B bf (.asm t) _ _ _ _ _ _ hv' (tas_seq_asm _) (tas_ite_asm _) (tas_cho_asm _) (tas_whl_asm _) (fun a G => rfl)
  | seq p q ihp ihq =>
    rintro v ⟨a, b, rfl, h1, h2⟩
    obtain ⟨T1, u1, rfl⟩ := h1.forms
    obtain ⟨T2, u2, rfl⟩ := h2.forms
    exact lay_seq w0 B bf p q T1 T2 u1 u2 (ihp _ h1) (ihq _ h2)
  | ite t p q ihp ihq =>
    intro v hv
    have hv' := hv
    obtain ⟨x, y, a, b, rfl, hr, h1, h2⟩ := hv
    obtain ⟨ya, yn, ym, rfl, rfl⟩ := hr.forms
    obtain ⟨T1, u1, rfl⟩ := h1.forms
    obtain ⟨T2, u2, rfl⟩ := h2.forms
    exact lay_ite w0 B bf t _ ya yn ym p q T1 T2 u1 u2 hv' (ihp _ h1) (ihq _ h2)
  | cho p q ihp ihq =>
    intro v hv
    have hv' := hv
    obtain ⟨a, b, rfl, h1, h2⟩ := hv
    obtain ⟨T1, u1, rfl⟩ := h1.forms
    obtain ⟨T2, u2, rfl⟩ := h2.forms
    exact lay_cho w0 B bf p q T1 T2 u1 u2 hv' (ihp _ h1) (ihq _ h2)
  | whl t p ihp =>
    intro v hv
    have hv' := hv
    obtain ⟨x, y, a, rfl, hr, h1⟩ := hv
    obtain ⟨ya, yn, ym, rfl, rfl⟩ := hr.forms
    obtain ⟨T1, u1, rfl⟩ := h1.forms
    exact lay_whl w0 B bf t _ ya yn ym p T1 u1 hv' (ihp _ h1)

/-- The stops of a program's flow, and the first one. -/
def flG (p : Pg) : List Stp := (layF p 0 [⟨none, []⟩]).1
def flS (p : Pg) : Nat := (layF p 0 [⟨none, []⟩]).2
theorem fl_lay (p : Pg) : Lay (flG p) p (flS p) 0 := (layF_ok p 0 [⟨none, []⟩]).lay _ (fun _ _ _ => rfl)
theorem Lain.flow {wide : Bool} {w0 w w5 : World} {B bf rb cap : Nat} {nb : Nat → Nat} {xs : List Value} {p : Pg} (h : Lain w0 w B bf rb cap nb xs (flG p)) (hp : p.ok wide) (hl : p.all.length ≤ 1100) (hb5 : Below w0.heap.size w0 w5) (hc : ∀ b, (b = rb ∨ ∃ k, 0 < k ∧ k < (flG p).length ∧ b = nb k) → w5.heap[b]? = w.heap[b]?) : FlowOk wide w5 B (.slice (some ⟨rb, 0, none⟩) (flG p).length cap) (flS p) (flG p) := by
  have ho := layF_ok p 0 [⟨none, []⟩]
  have hps := layF_ps p hp 0 [⟨none, []⟩] (by simp) (fun k s hk hs => by cases k <;> simp at hk hs)
  have h0 : (flG p)[0]? = some ⟨none, []⟩ := by have := ho.old 0 (by simp); simpa [flG] using this
  have hlen := layF_len p 0 [⟨none, []⟩]
  simp at hlen
  refine ⟨⟨rb, cap, rfl, ?_, ?_⟩, ?_, ⟨h0, fun k s hk hs => (hps k s hk hs).2⟩, by show (layF p 0 [⟨none, []⟩]).1.length ≤ 1200; omega, ho.hi, ?_⟩
  · rcases h.row.2 with ⟨e, _⟩ | ⟨g, cp, cur, e, _, _, d, _⟩
    · cases e
    · injection e with _ e1 e2; omega
  · intro k s hs
    obtain ⟨x, y, h1, h2, h3⟩ := h.st k s hs
    have hk := getG_lt hs
    refine ⟨x, y, by rw [World.cell?_of_block (w := w) (hc rb (.inl rfl)), World.ownsRow.cellAt h.row (k * 2) (by omega)]; exact h1, by rw [World.cell?_of_block (w := w) (hc rb (.inl rfl)), World.ownsRow.cellAt h.row (k * 2 + 1) (by omega)]; exact h2, ?_⟩
    unfold StopB at h3
    unfold StopR
    cases hd : s.d with
    | none => rw [hd] at h3; exact h3
    | some q =>
      rw [hd] at h3
      obtain ⟨a1, a2, a3⟩ := h3
      have hk0 : 0 < k := by
        rcases Nat.eq_zero_or_pos k with e | e
        · subst e; rw [h0] at hs; injection hs with hs; subst hs; cases hd
        · exact e
      refine ⟨a1.below hb5, nb k, a2, fun j n hj => ?_⟩
      rw [World.cell?_of_block (w := w) (hc (nb k) (.inr ⟨k, hk0, hk, rfl⟩)), a3.cell j]
      simp [ints, hj]
  · intro k s hs
    by_cases e : k = 0
    · subst e; rw [h0] at hs; injection hs with hs; subst hs; rfl
    · exact (hps k s (by omega) hs).1
  · intro k s hs n hn
    exact ho.bd _ (Nat.le_refl _) (by have := ho.len; simp at this; omega) (fun j hj x hx m hm => by cases j <;> simp at hj hx; subst hx; simp at hm) k s hs n hn

def FlPost (wide : Bool) (p : Pg) (B : Nat) (w : World) (e : Ending) (w' : World) : Prop := ∃ rb cap, e = .returned (.agg #[.slice (some ⟨rb, 0, none⟩) (flG p).length cap, .int .i64 (flS p : Nat)]) ∧ FlowOk wide w' B (.slice (some ⟨rb, 0, none⟩) (flG p).length cap) (flS p) (flG p) ∧ Below w.heap.size w w'
theorem mkStop (w : World) : (Instr.makeSlice 69 (.int .i64 1) (.int .i64 1)).run Tryz.prog w = .ok (.slice (some ⟨w.heap.size, 0, none⟩) 1 1) (w.alloc (.cells #[.nilIface, .slice none 0 0] 167)) := by kernel_rfl

set_option maxRecDepth 1000000 in
set_option maxHeartbeats 8000000 in
theorem flowOf_any {wide : Bool} (p : Pg) (B : Nat) (v : Value) (w : World) (hv : StV w B p v) (hp : p.ok wide) (hl : p.all.length ≤ 1100) : Calls Tryz.prog 58 #[v] w (FlPost wide p B w) := by
  obtain ⟨T, u, rfl⟩ := hv.forms
  have hmk := mkStop
  have HV := Lib.hid hv
  have HP := Lib.hid hp
  have r1 := Blk.new w #[.slice none 0 0, .int .i64 0] 71
  have b1 := (Below.refl w.heap.size w).alloc (Nat.le_refl _) (.cells #[.slice none 0 0, .int .i64 0] 71)
  have z1 : (w.alloc (.cells #[.slice none 0 0, .int .i64 0] 71)).heap.size = w.heap.size + 1 := by simp
  generalize hwa : w.alloc (.cells #[.slice none 0 0, .int .i64 0] 71) = wa at r1 b1 z1
  have s2 := Blk.new wa #[.nilIface, .slice none 0 0] 167
  rw [z1] at s2
  have r2 := r1.alloc (.cells #[.nilIface, .slice none 0 0] 167)
  have b2 := b1.alloc (by omega) (.cells #[.nilIface, .slice none 0 0] 167)
  have z2 : (wa.alloc (.cells #[.nilIface, .slice none 0 0] 167)).heap.size = w.heap.size + 1 + 1 := by rw [← z1]; simp
  generalize hwb : wa.alloc (.cells #[.nilIface, .slice none 0 0] 167) = wb at s2 r2 b2 z2
  have f3 := Blk.new wb #[.slice (some ⟨w.heap.size + 1, 0, none⟩) 1 1, .int .i64 0] 71
  rw [z2] at f3
  have s3 := s2.alloc (.cells #[.slice (some ⟨w.heap.size + 1, 0, none⟩) 1 1, .int .i64 0] 71)
  have r3 := r2.alloc (.cells #[.slice (some ⟨w.heap.size + 1, 0, none⟩) 1 1, .int .i64 0] 71)
  have b3 := b2.alloc (by omega) (.cells #[.slice (some ⟨w.heap.size + 1, 0, none⟩) 1 1, .int .i64 0] 71)
  have z3 : (wb.alloc (.cells #[.slice (some ⟨w.heap.size + 1, 0, none⟩) 1 1, .int .i64 0] 71)).heap.size = w.heap.size + 1 + 1 + 1 := by rw [← z2]; simp
  have L0 : Lain w (wb.alloc (.cells #[.slice (some ⟨w.heap.size + 1, 0, none⟩) 1 1, .int .i64 0] 71)) B (w.heap.size + 1 + 1) (w.heap.size + 1) 1 (fun _ => w.heap.size) [.nilIface, .slice none 0 0] [⟨none, []⟩] :=
    ⟨f3, ⟨rfl, .inr ⟨w.heap.size + 1, 1, #[.nilIface, .slice none 0 0], rfl, by omega, s3, Nat.le_refl _, by unfold maxLen; omega, rfl, rfl⟩⟩,
      fun k s hs => by
        have hk := getG_lt hs
        simp at hk
        subst hk
        simp at hs
        subst hs
        exact ⟨_, _, rfl, rfl, rfl, rfl, rfl⟩,
      fun k hk => ⟨Nat.le_refl _, by omega, by omega, by omega⟩, fun j k hj hk hne => by simp at hj hk; omega, by omega, by omega, b3⟩
  have C := lay_any w B (w.heap.size + 1 + 1) p _ hv 0 [⟨none, []⟩] (w.heap.size + 1) 1 (fun _ => w.heap.size) [.nilIface, .slice none 0 0] _ L0 (by simp; omega)
  have HC := Lib.hid C
  have HR3 := Lib.hid r3
  have HB3 := Lib.hid b3
  have HZ3 := Lib.hid z3
  clear hv hp r1 b1 z1 s2 r2 b2 z2 f3 s3 r3 b3 z3 L0 C
  subst hwb hwa
  go_enter Tryz.func58, Tryz.ntmps58
  go_wp2_with fail
  refine HC.out.mono ?_
  rintro e w3 ⟨rfl, rb, cap, nb, xs, hL, hk, ho, hx⟩
  have R3 := HR3.out.kp2 hk (by omega) (by omega)
  have m0 : w3.cell? ⟨w.heap.size + 1 + 1, 0, none⟩ = some (.slice (some ⟨rb, 0, none⟩) (layF p 0 [⟨none, []⟩]).1.length cap) := hL.box.cell 0
  have m1 : w3.cell? ⟨w.heap.size + 1 + 1, 1, none⟩ = some (.int .i64 0) := hL.box.cell 1
  have m2 := hL.box.free 1
  have n0 : w3.cell? ⟨w.heap.size, 0, none⟩ = some (.slice none 0 0) := R3.cell 0
  have n1 : w3.cell? ⟨w.heap.size, 1, none⟩ = some (.int .i64 0) := R3.cell 1
  have n2 := R3.free 0
  have n3 := R3.free 1
  have HL := Lib.hid hL
  have HX := Lib.hid hx
  have HO := Lib.hid ho
  have hbl : w.heap.size + 1 + 1 < w3.heap.size := hL.box.lt
  clear hL hx ho hk HR3 HC R3
  go_wp2_with fail
  refine bodyPost_ret (v := .agg #[.slice (some ⟨rb, 0, none⟩) (layF p 0 [⟨none, []⟩]).1.length cap, .int .i64 ((layF p 0 [⟨none, []⟩]).2 : Nat)]) (by simp [results, Tryz.results58, go_sem, n0, n1]) rfl ⟨rb, cap, rfl, ?_, ?_⟩
  · refine HL.out.flow HP.out hl (((HL.out.bel.setCell (p := ⟨w.heap.size + 1 + 1, 1, none⟩) (by show w.heap.size ≤ w.heap.size + 1 + 1; omega) _).setCell (p := ⟨w.heap.size, 0, none⟩) (Nat.le_refl _) _).setCell (p := ⟨w.heap.size, 1, none⟩) (Nat.le_refl _) _) ?_
    intro b hb
    have hne : b ≠ w.heap.size + 1 + 1 ∧ b ≠ w.heap.size := by
      have := HZ3.out
      rcases hb with rfl | ⟨k, hk0, hk, rfl⟩
      · have h1 := HL.out.ne
        have h2 := HO.out
        exact ⟨h1, by omega⟩
      · have h1 := (HL.out.nbo k hk).2.2.1
        have h2 := HX.out.2 k (by simp; omega) hk
        exact ⟨h1, by omega⟩
    rw [Below.heap_setCell _ _ _ _ hne.2, Below.heap_setCell _ _ _ _ hne.2, Below.heap_setCell _ _ _ _ hne.1]
  · exact ((HL.out.bel.setCell (p := ⟨w.heap.size + 1 + 1, 1, none⟩) (by show w.heap.size ≤ w.heap.size + 1 + 1; omega) _).setCell (p := ⟨w.heap.size, 0, none⟩) (Nat.le_refl _) _).setCell (p := ⟨w.heap.size, 1, none⟩) (Nat.le_refl _) _
end Go.Proofs.YtopbkkmplgllkaaGreatDoor
