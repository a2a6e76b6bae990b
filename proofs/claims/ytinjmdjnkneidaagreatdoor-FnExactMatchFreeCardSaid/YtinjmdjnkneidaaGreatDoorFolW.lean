/-
  The points that may come next, whatever a stop does.
-/
import Derived.Test.YtinjmdjnkneidaaGreatDoorFloW
namespace Go.Proofs.YtinjmdjnkneidaaGreatDoor
open Go.RowKit Tm

/-- What a stop of a flow is. -/
def StpOk (wide : Bool) (s : Stp) : Prop := match s.d with
  | none => s.nx = []
  | some .skip => s.nx.length = 1
  | some (.asg v e) => s.nx.length = 1 ∧ isVarB wide v = true ∧ Ok wide false e
  | some (.seq _ _) => False
  | some (.ite t _ _) => s.nx.length = 2 ∧ Ok wide true t
  | some (.whl t _) => s.nx.length = 2 ∧ Ok wide true t
  | some (.cho _ _) => s.nx.length = 2
  | some (.asm t) => s.nx.length = 1 ∧ Ok wide true t

theorem miss_some {want : Array (String × TypeId)} {got : Array Method} (h : (want.toList.filter fun (name, sig) => !got.any fun m => m.name == name && m.sig == sig).length = 1) : ∃ m, Instr.missingMethod want got = some m := by
  obtain ⟨p, hp⟩ := List.length_eq_one_iff.1 h
  unfold Instr.missingMethod
  simp only [hp, List.map_cons, List.map_nil]
  cases hc : p.1.contains '.'
  · simp [List.partition, List.partition.loop, hc, Instr.least]
  · simp [List.partition, List.partition.loop, hc, Instr.least]
noncomputable def wantOf (a : TypeId) : Array (String × TypeId) := match Tryz.prog.underlying a with
  | some (.interface w) => w
  | _ => #[]
theorem tas_miss {t s a : TypeId} {v z : Value} (hu : Tryz.prog.underlying a = some (.interface (wantOf a))) (hi : ∀ W, (typeInfo t).run Tryz.prog W = .ok ((Tryz.prog.info? t).getD default) W)
    (h : ((wantOf a).toList.filter fun (name, sig) => !((Tryz.prog.info? t).getD default).methods.any fun m => m.name == name && m.sig == sig).length = 1) (hz : ∀ W, (zeroValue a).run Tryz.prog W = .ok z W) (W : World) :
    (Instr.typeAssert (.iface t v) s a true).run Tryz.prog W = .ok (.tuple #[z, .bool false]) W := by
  obtain ⟨m, hm⟩ := miss_some h
  simp [Instr.typeAssert, run_underlying hu, hi, hm, hz, Result.andThen]
theorem tg_skip (v : Value) (W : World) : (Instr.typeAssert (.iface 121 v) 42 235 true).run Tryz.prog W = .ok (.tuple #[.nilIface, .bool false]) W :=
  tas_miss (by kernel_rfl) (fun W => by kernel_rfl) (by kernel_rfl) (fun W => by kernel_rfl) W
theorem tg_asg (v : Value) (W : World) : (Instr.typeAssert (.iface 219 v) 42 235 true).run Tryz.prog W = .ok (.tuple #[.nilIface, .bool false]) W :=
  tas_miss (by kernel_rfl) (fun W => by kernel_rfl) (by kernel_rfl) (fun W => by kernel_rfl) W
theorem tg_cho (v : Value) (W : World) : (Instr.typeAssert (.iface 203 v) 42 235 true).run Tryz.prog W = .ok (.tuple #[.nilIface, .bool false]) W :=
  tas_miss (by kernel_rfl) (fun W => by kernel_rfl) (by kernel_rfl) (fun W => by kernel_rfl) W
theorem tg_nil (W : World) : (Instr.typeAssert .nilIface 42 235 true).run Tryz.prog W = .ok (.tuple #[.nilIface, .bool false]) W := by kernel_rfl
theorem ta_nil (W : World) : (Instr.typeAssert .nilIface 42 219 true).run Tryz.prog W = .ok (.tuple #[.agg #[.string ⟨#[]⟩, .int .u8 0, .slice none 0 0], .bool false]) W := by kernel_rfl
theorem tg_ite (v : Value) (W : World) : (Instr.typeAssert (.iface 201 v) 42 235 true).run Tryz.prog W = .ok (.tuple #[.iface 201 v, .bool true]) W := by kernel_rfl
theorem tg_whl (v : Value) (W : World) : (Instr.typeAssert (.iface 205 v) 42 235 true).run Tryz.prog W = .ok (.tuple #[.iface 205 v, .bool true]) W := by kernel_rfl
theorem tg_asm (v : Value) (W : World) : (Instr.typeAssert (.iface 222 v) 42 235 true).run Tryz.prog W = .ok (.tuple #[.iface 222 v, .bool true]) W := by kernel_rfl

theorem len1 {l : List Nat} (h : l.length = 1) : ∃ a, l = [a] := by
  match l, h with
  | [a], _ => exact ⟨a, rfl⟩
theorem len2 {l : List Nat} (h : l.length = 2) : ∃ a b, l = [a, b] := by
  match l, h with
  | [a, b], _ => exact ⟨a, b, rfl⟩

/-- A guarded stop with two stops behind it. -/
theorem foll_two {w1 w : World} {rb n cap k : Nat} {st : Int} {i : Nat} {T : TypeId} {u z : Value} {f : Nat} {rc : Value} {b a1 a2 : Nat} {t : Tm} (hb : Below w1.heap.size w1 w) (hk : k < n) (hc : n ≤ cap)
    (hx : w1.cell? ⟨rb, k * 2, none⟩ = some (.iface T u)) (hy : w1.cell? ⟨rb, k * 2 + 1, none⟩ = some (.slice (some ⟨b, 0, none⟩) 2 2)) (hn : ∀ j n, [a1, a2][j]? = some n → w1.cell? ⟨b, j, none⟩ = some (.int .i64 (n : Nat)))
    (ta : ∀ W, (Instr.typeAssert (.iface T u) 42 219 true).run Tryz.prog W = .ok (.tuple #[z, .bool false]) W)
    (tg : ∀ W, (Instr.typeAssert (.iface T u) 42 235 true).run Tryz.prog W = .ok (.tuple #[.iface T u, .bool true]) W)
    (tm : ∀ w, (method 377 T u "loop.example/productprograms/impl.passes").run Tryz.prog w = .ok (f, rc) w) (tf : ∀ (a : Array Value) w, (callFunc f a).run Tryz.prog w = .ok (.enter f a) w)
    (S : ∀ w', Below w1.heap.size w1 w' → Calls Tryz.prog f #[rc, .int .i64 i] w' fun e w2 => e = .returned (.bool (wtst t i)) ∧ Below w'.heap.size w' w2) :
    Calls Tryz.prog 173 #[.agg #[.slice (some ⟨rb, 0, none⟩) n cap, .int .i64 st], .agg #[.int .i64 k, .int .i64 i]] w (FollPost (gd mdlW t [a1, a2] i) w) := by
  have S' : ∀ w', Below w.heap.size w w' → Calls Tryz.prog f #[rc, .int .i64 i] w' fun e w2 => e = .returned (.bool (wtst t i)) ∧ Below w'.heap.size w' w2 := fun w' h => S w' (bnext hb h)
  unfold gd
  show Calls _ _ _ _ (FollPost (if wtst t i = true then _ else _) w)
  by_cases h : wtst t i = true
  · rw [if_pos h]
    simp only [h] at S'
    exact foll_grd_t rb n cap k st i T u z f rc b 2 a1 (by omega) w hk hc (ckeep hb hx) (ckeep hb hy) (ckeep hb (hn 0 a1 rfl)) ta tg tm tf S'
  · rw [if_neg h]
    simp only [h] at S'
    exact foll_grd_f rb n cap k st i T u z f rc b a2 w hk hc (ckeep hb hx) (ckeep hb hy) (ckeep hb (hn 1 a2 rfl)) ta tg tm tf S'

theorem foll_any {w1 w : World} {B : Nat} {sp : Value} {G : List Stp} (hF : FlowR w1 B sp G) {wide : Bool} (hG : ∀ (k : Nat) (s : Stp), G[k]? = some s → StpOk wide s) (st : Int) (x : Pt) (hx : x.1 < G.length) (hi : x.2 < 729) (hb : Below w1.heap.size w1 w) :
    Calls Tryz.prog 173 #[.agg #[sp, .int .i64 st], ptV x] w (FollPost (nxp mdlW G x) w) := by
  obtain ⟨rb, cap, rfl, hcap, hs⟩ := hF
  obtain ⟨k, i⟩ := x
  simp only at hx hi
  obtain ⟨x, y, h1, h2, h3⟩ := hs k _ (List.getElem?_eq_getElem hx)
  have ho := hG k _ (List.getElem?_eq_getElem hx)
  show Calls _ _ #[_, .agg #[.int .i64 (k : Int), .int .i64 (i : Int)]] _ _
  unfold nxp
  simp only [List.getElem?_eq_getElem hx]
  generalize G[k] = s at *
  obtain ⟨d, nx⟩ := s
  unfold StopR at h3
  unfold StpOk at ho
  unfold after
  cases d with
  | none =>
    obtain ⟨rfl, rfl, e⟩ := h3
    simp only at e
    subst e
    exact foll_plain rb _ cap k st i _ _ _ none 0 [] w hx hcap (by simp) (ckeep hb h1) (ckeep hb h2) ⟨none, 0, rfl, Nat.le_refl _, .inl rfl⟩ ta_nil tg_nil
  | some p =>
    simp only at h3 ho ⊢
    obtain ⟨hv, b, rfl, hn⟩ := h3
    have hN : ∀ l : List Nat, nx = l → NxS w (.slice (some ⟨b, 0, none⟩) nx.length nx.length) nx := fun l _ => ⟨_, _, rfl, Nat.le_refl _, .inr ⟨b, 0, rfl, fun j n hj => by rw [Nat.zero_add]; exact ckeep hb (hn j n hj)⟩⟩
    cases p with
    | skip =>
      cases hv
      exact foll_plain rb _ cap k st i _ _ _ _ _ nx w hx hcap (by omega) (ckeep hb h1) (ckeep hb h2) (hN _ rfl) (tas_asg_skip _) (tg_skip _)
    | asg v e =>
      obtain ⟨a1, b1, h, hr⟩ := hv
      cases h
      obtain ⟨ya, yn, ym, rfl, rfl⟩ := hr.forms
      exact foll_asg rb _ cap k st i v _ ya yn ym _ _ nx (wasg v e i) w hx hcap (by omega) (ckeep hb h1) (ckeep hb h2) (hN _ rfl) (fun w' h' => step_any v (varW_cases ho.2.1) i e B _ ya yn ym w' hi (ok_any ho.2.2) (hr.rep.below (bnext hb h')))
    | seq p q => exact absurd ho (by simp)
    | ite t p q =>
      obtain ⟨x, y, a1, b1, h, hr, _, _⟩ := hv
      cases h
      obtain ⟨ya, yn, ym, rfl, rfl⟩ := hr.forms
      obtain ⟨m1, m2, rfl⟩ := len2 ho.1
      exact foll_two (f := 238) hb hx hcap h1 h2 hn (tas_asg_ite _) (tg_ite _) (fun w => by kernel_rfl) (fun a w => by kernel_rfl) (fun w' h' => passes_any t B _ ya yn ym i hi w' (ok_any ho.2) (hr.rep.below h'))
    | whl t p =>
      obtain ⟨x, y, a1, h, hr, _⟩ := hv
      cases h
      obtain ⟨ya, yn, ym, rfl, rfl⟩ := hr.forms
      obtain ⟨m1, m2, rfl⟩ := len2 ho.1
      exact foll_two (f := 238) hb hx hcap h1 h2 hn (tas_asg_whl _) (tg_whl _) (fun w => by kernel_rfl) (fun a w => by kernel_rfl) (fun w' h' => passes_any t B _ ya yn ym i hi w' (ok_any ho.2) (hr.rep.below h'))
    | cho p q =>
      obtain ⟨a1, b1, h, _⟩ := hv
      cases h
      exact foll_plain rb _ cap k st i _ _ _ _ _ nx w hx hcap (by omega) (ckeep hb h1) (ckeep hb h2) (hN _ rfl) (tas_asg_cho _) (tg_cho _)
    | asm t =>
      obtain ⟨x, y, h, hr⟩ := hv
      cases h
      obtain ⟨ya, yn, ym, rfl, rfl⟩ := hr.forms
      obtain ⟨m1, rfl⟩ := len1 ho.1
      have S' : ∀ w', Below w.heap.size w w' → Calls Tryz.prog 238 #[.agg #[.int .u8 t.head.toNat, .slice ya yn ym], .int .i64 i] w' fun e w2 => e = .returned (.bool (wtst t i)) ∧ Below w'.heap.size w' w2 := fun w' h' => passes_any t B _ ya yn ym i hi w' (ok_any ho.2) (hr.rep.below (bnext hb h'))
      simp only
      unfold gd
      show Calls _ _ _ _ (FollPost (if wtst t i = true then _ else _) w)
      by_cases h : wtst t i = true
      · rw [if_pos h]
        simp only [h] at S'
        exact foll_grd_t rb _ cap k st i _ _ _ 238 _ b 1 m1 (by omega) w hx hcap (ckeep hb h1) (ckeep hb h2) (ckeep hb (hn 0 m1 rfl)) (tas_asg_asm _) (tg_asm _) (fun w => by kernel_rfl) (fun a w => by kernel_rfl) S'
      · rw [if_neg h]
        simp only [h] at S'
        exact foll_grd_0 rb _ cap k st i _ _ _ 238 _ b w hx hcap (ckeep hb h1) (ckeep hb h2) (tas_asg_asm _) (tg_asm _) (fun w => by kernel_rfl) (fun a w => by kernel_rfl) S'
end Go.Proofs.YtinjmdjnkneidaaGreatDoor
