/-
  A flow that may be walked, in memory; and all that a walk needs of it.
-/
import Derived.Test.YtinjmdjnkneidaaGreatDoorFolW
import Derived.Test.YtinjmdjnkneidaaGreatDoorTopV
namespace Go.Proofs.YtinjmdjnkneidaaGreatDoor
open Go.RowKit Tm Go.ChangeMaps

/-- A flow that may be walked. -/
structure FlowOk (wide : Bool) (w1 : World) (B : Nat) (sp : Value) (st : Nat) (G : List Stp) : Prop where
  fl : FlowR w1 B sp G
  ok : ∀ (k : Nat) (s : Stp), G[k]? = some s → StpOk wide s
  top : Top G
  sm : G.length ≤ 1200
  lt : st < G.length
  bd : ∀ (k : Nat) (s : Stp), G[k]? = some s → ∀ (n : Nat), n ∈ s.nx → n < G.length
theorem FlowOk.un {wide : Bool} {w1 : World} {B : Nat} {sp : Value} {st : Nat} {G : List Stp} (h : FlowOk wide w1 B sp st G) (x y : Pt) (hx : x.1 < G.length ∧ x.2 < 729) (he : Edge mdlW G x y) : y.1 < G.length ∧ y.2 < 729 := by
  unfold Edge nxp at he
  rw [List.getElem?_eq_getElem hx.1] at he
  have hs := List.getElem?_eq_getElem hx.1
  have ho := h.ok _ _ hs
  have hb := h.bd _ _ hs
  generalize G[x.1] = s at *
  obtain ⟨d, nx⟩ := s
  have map_ok : ∀ (l : List Nat) (j : Nat), (∀ n, n ∈ l → n ∈ nx) → j < 729 → y ∈ l.map (fun n => ((n, j) : Pt)) → y.1 < G.length ∧ y.2 < 729 := by
    intro l j hl hj hy
    obtain ⟨n, hn, rfl⟩ := List.mem_map.1 hy
    exact ⟨hb n (hl n hn), hj⟩
  have gd_ok : ∀ t, y ∈ gd mdlW t nx x.2 → y.1 < G.length ∧ y.2 < 729 := by
    intro t hy
    unfold gd at hy
    split at hy
    · exact map_ok _ _ (fun n hn => List.mem_of_mem_take hn) hx.2 hy
    · exact map_ok _ _ (fun n hn => List.mem_of_mem_drop hn) hx.2 hy
  unfold after at he
  unfold StpOk at ho
  cases d with
  | none => exact map_ok nx x.2 (fun n hn => hn) hx.2 he
  | some p =>
    cases p with
    | skip => exact map_ok nx x.2 (fun n hn => hn) hx.2 he
    | asg v e => exact map_ok nx (wasg v e x.2) (fun n hn => hn) (wasg_lt (varW_cases ho.2.1) (ok_any ho.2.2) hx.2) he
    | seq p q => exact ho.elim
    | ite t p q => exact gd_ok t he
    | whl t p => exact gd_ok t he
    | cho p q => exact map_ok nx x.2 (fun n hn => hn) hx.2 he
    | asm t => exact gd_ok t he

theorem nxp_len {wide : Bool} {G : List Stp} (hG : ∀ (k : Nat) (s : Stp), G[k]? = some s → StpOk wide s) {M : Mdl} (x : Pt) : (nxp M G x).length ≤ 2 := by
  unfold nxp
  cases h : G[x.1]? with
  | none => simp
  | some s =>
    have ho := hG _ _ h
    obtain ⟨d, nx⟩ := s
    unfold StpOk at ho
    unfold after
    have hgd : ∀ t, nx.length ≤ 2 → (gd M t nx x.2).length ≤ 2 := by
      intro t hl
      unfold gd
      split
      · simp; omega
      · simp; omega
    cases d with
    | none => simp only at ho; subst ho; simp
    | some p =>
      cases p with
      | skip => simp only at ho; simp; omega
      | asg v e => simp only at ho; simp; omega
      | seq p q => exact ho.elim
      | ite t p q => simp only at ho; exact hgd t (by omega)
      | whl t p => simp only at ho; exact hgd t (by omega)
      | cho p q => simp only at ho; simp; omega
      | asm t => simp only at ho; exact hgd t (by omega)
theorem nxp_two {wide : Bool} {G : List Stp} (hG : ∀ (k : Nat) (s : Stp), G[k]? = some s → StpOk wide s) (x : Pt) : (nxp mdlW G x).length ≤ 2 := nxp_len hG x
/-- All that a walk needs of a flow. -/
structure Flown (M : Mdl) (S : Nat) (w1 : World) (sp : Value) (st : Nat) (G : List Stp) : Prop where
  fol : ∀ (st' : Int) (x : Pt) (w : World), x.1 < G.length → x.2 < S → Below w1.heap.size w1 w → Calls Tryz.prog 173 #[.agg #[sp, .int .i64 st'], ptV x] w (FollPost (nxp M G x) w)
  un : ∀ x y : Pt, x.1 < G.length ∧ x.2 < S → Edge M G x y → y.1 < G.length ∧ y.2 < S
  two : ∀ x, (nxp M G x).length ≤ 2
  top : Top G
  sm : G.length ≤ 1200
  lt : st < G.length
  sl : ∃ rb cap, sp = .slice (some ⟨rb, 0, none⟩) G.length cap
theorem FlowOk.flown {wide : Bool} {w1 : World} {B : Nat} {sp : Value} {st : Nat} {G : List Stp} (h : FlowOk wide w1 B sp st G) : Flown mdlW 729 w1 sp st G where
  fol := fun st' x w hx hi hb => foll_any h.fl h.ok st' x hx hi hb
  un := h.un
  two := nxp_two h.ok
  top := h.top
  sm := h.sm
  lt := h.lt
  sl := by obtain ⟨rb, cap, hsp, _⟩ := h.fl; exact ⟨rb, cap, hsp⟩
/-- A narrow program makes the same steps. -/
theorem nxp_narrow {G : List Stp} (hG : ∀ (k : Nat) (s : Stp), G[k]? = some s → StpOk false s) {x : Pt} (hi : x.2 < 27) : nxp mdlW G x = nxp mdl G x := by
  unfold nxp
  cases h : G[x.1]? with
  | none => rfl
  | some s =>
    have ho := hG _ _ h
    obtain ⟨d, nx⟩ := s
    unfold StpOk at ho
    unfold after
    have hgd : ∀ t, gd mdlW t nx x.2 = gd mdl t nx x.2 := fun t => by unfold gd; rw [mdlW_t t hi]
    cases d with
    | none => rfl
    | some p =>
      cases p with
      | skip => rfl
      | asg v e => simp only at ho ⊢; rw [mdlW_a (varB_cases ho.2.1) hi]
      | seq p q => rfl
      | ite t p q => exact hgd t
      | whl t p => exact hgd t
      | cho p q => rfl
      | asm t => exact hgd t
theorem un_narrow {w1 : World} {B : Nat} {sp : Value} {st : Nat} {G : List Stp} (h : FlowOk false w1 B sp st G) (x y : Pt) (hx : x.1 < G.length ∧ x.2 < 27) (he : Edge mdl G x y) : y.1 < G.length ∧ y.2 < 27 := by
  unfold Edge nxp at he
  rw [List.getElem?_eq_getElem hx.1] at he
  have hs := List.getElem?_eq_getElem hx.1
  have ho := h.ok _ _ hs
  have hb := h.bd _ _ hs
  generalize G[x.1] = s at *
  obtain ⟨d, nx⟩ := s
  have map_ok : ∀ (l : List Nat) (j : Nat), (∀ n, n ∈ l → n ∈ nx) → j < 27 → y ∈ l.map (fun n => ((n, j) : Pt)) → y.1 < G.length ∧ y.2 < 27 := by
    intro l j hl hj hy
    obtain ⟨n, hn, rfl⟩ := List.mem_map.1 hy
    exact ⟨hb n (hl n hn), hj⟩
  have gd_ok : ∀ t, y ∈ gd mdl t nx x.2 → y.1 < G.length ∧ y.2 < 27 := by
    intro t hy
    unfold gd at hy
    split at hy
    · exact map_ok _ _ (fun n hn => List.mem_of_mem_take hn) hx.2 hy
    · exact map_ok _ _ (fun n hn => List.mem_of_mem_drop hn) hx.2 hy
  unfold after at he
  unfold StpOk at ho
  cases d with
  | none => exact map_ok nx x.2 (fun n hn => hn) hx.2 he
  | some p =>
    cases p with
    | skip => exact map_ok nx x.2 (fun n hn => hn) hx.2 he
    | asg v e => exact map_ok nx (asg v e x.2) (fun n hn => hn) (asg_lt ho.2.2 hx.2) he
    | seq p q => exact ho.elim
    | ite t p q => exact gd_ok t he
    | whl t p => exact gd_ok t he
    | cho p q => exact map_ok nx x.2 (fun n hn => hn) hx.2 he
    | asm t => exact gd_ok t he
theorem FlowOk.flown1 {w1 : World} {B : Nat} {sp : Value} {st : Nat} {G : List Stp} (h : FlowOk false w1 B sp st G) : Flown mdl 27 w1 sp st G where
  fol := fun st' x w hx hi hb => by rw [← nxp_narrow h.ok hi]; exact foll_any h.fl h.ok st' x hx (by omega) hb
  un := un_narrow h
  two := fun x => by
    by_cases hi : x.2 < 27
    · rw [← nxp_narrow h.ok hi]; exact nxp_two h.ok x
    · exact nxp_len (M := mdl) h.ok x
  top := h.top
  sm := h.sm
  lt := h.lt
  sl := by obtain ⟨rb, cap, hsp, _⟩ := h.fl; exact ⟨rb, cap, hsp⟩
end Go.Proofs.YtinjmdjnkneidaaGreatDoor
