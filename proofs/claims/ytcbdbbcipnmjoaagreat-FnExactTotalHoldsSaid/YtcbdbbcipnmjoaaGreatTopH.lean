/-
  Several small texts in one: Lp HdW He Hs Hm Hh Hn.
-/
import Derived.Test.YtcbdbbcipnmjoaaGreatTopR
import Derived.Test.YtcbdbbcipnmjoaaGreatPo
import Derived.Test.YtcbdbbcipnmjoaaGreatTopW
import Derived.Deep.RegionHeld3
namespace Go.Proofs.YtcbdbbcipnmjoaaGreat
open Go.RowKit Tm Go.Great Classical

theorem readH_yes (s : ByteArray) (w : World) {t : Tm} (ht : Ok false true t) (hs : s.data.toList = t.ser) (hl : s.size ≤ 200) :
    Calls Tryz.prog 67 #[.string s, .int .u8 116] w fun e w' => ∃ xc ya yn ym, e = .returned (.tuple #[.agg #[.int .u8 xc, .slice ya yn ym], .bool true]) ∧ RepH w' w.heap.size t (.int .u8 xc) (.slice ya yn ym) ∧ Below w.heap.size w w' := by
  obtain ⟨kids, ek⟩ := emb_nd t
  refine (gread_yes (kc true) s w (by rw [← ek]; exact emb_ok ht rfl) (by rw [hs, ← ek, emb_ser]; simp [Fo.ser]) hl).mono ?_
  rintro e2 w' ⟨ya, ym, rfl, hr, hb⟩
  exact ⟨_, ya, _, ym, rfl, ⟨kids, ek, hr⟩, hb⟩
def IsT (s : ByteArray) : Prop := Valid false true s.data.toList ∧ s.size ≤ 200
theorem readT_no (s : ByteArray) (w : World) (h : ¬ IsT s) : Calls Tryz.prog 67 #[.string s, .int .u8 116] w fun e w' => e = .returned (.tuple #[.agg #[.int .u8 0, .slice none 0 0], .bool false]) ∧ Below w.heap.size w w' := read_no true s w h
def LoopPost (t : Tm) (p : Pg) (w : World) (e : Ending) (w' : World) : Prop := ∃ xc ya yn ym T u, e = .returned (.tuple #[.agg #[.int .u8 xc, .slice ya yn ym, .iface T (.agg u)], .bool true]) ∧ StV w' w.heap.size (.whl t p) (.iface 96 (.agg #[.int .u8 xc, .slice ya yn ym, .iface T (.agg u)])) ∧ Below w.heap.size w w'
def NoLoop (w : World) (e : Ending) (w' : World) : Prop := e = .returned (.tuple #[.agg #[.int .u8 0, .slice none 0 0, .nilIface], .bool false]) ∧ Below w.heap.size w w'
theorem RepH.keep {w w' : World} {B B' : Nat} (hc : ∀ b o v, B ≤ b → w.cell? ⟨b, o, none⟩ = some v → w'.cell? ⟨b, o, none⟩ = some v) (hB : B' ≤ B) {t : Tm} {x y : Value} (h : RepH w B t x y) : RepH w' B' t x y := by
  obtain ⟨kids, e, hr⟩ := h
  exact ⟨kids, e, hr.keep hc hB⟩
theorem StV.keep {w w' : World} {B B' : Nat} (hc : ∀ b o v, B ≤ b → w.cell? ⟨b, o, none⟩ = some v → w'.cell? ⟨b, o, none⟩ = some v) (hB : B' ≤ B) : ∀ {p : Pg} {v : Value}, StV w B p v → StV w' B' p v := by
  intro p
  induction p with
  | skip => exact fun h => h
  | asg x e => rintro v ⟨a, b, h, h1⟩; exact ⟨a, b, h, h1.keep hc hB⟩
  | seq p q ihp ihq => rintro v ⟨a, b, h, h1, h2⟩; exact ⟨a, b, h, ihp h1, ihq h2⟩
  | ite t p q ihp ihq => rintro v ⟨x, y, a, b, h, h0, h1, h2⟩; exact ⟨x, y, a, b, h, h0.keep hc hB, ihp h1, ihq h2⟩
  | whl t p ihp => rintro v ⟨x, y, a, h, h0, h1⟩; exact ⟨x, y, a, h, h0.keep hc hB, ihp h1⟩
  | cho p q ihp ihq => rintro v ⟨a, b, h, h1, h2⟩; exact ⟨a, b, h, ihp h1, ihq h2⟩
  | asm t => rintro v ⟨x, y, h, h0⟩; exact ⟨x, y, h, h0.keep hc hB⟩
end Go.Proofs.YtcbdbbcipnmjoaaGreat

namespace Go.Proofs.YtcbdbbcipnmjoaaGreat

section
variable {M : Mdl} {G : List Stp}

/-- The graph without a way on from a stop. -/
def shutG (G : List Stp) (s : Nat) : List Stp := G.set s ⟨none, []⟩
theorem shut_at {s : Nat} (h : s < G.length) : (shutG G s)[s]? = some ⟨none, []⟩ := by simp [shutG, h]
theorem shut_ne {s k : Nat} (h : k ≠ s) : (shutG G s)[k]? = G[k]? := by
  unfold shutG
  exact List.getElem?_set_ne (fun e => h e.symm)
theorem shut_nil {s i : Nat} (h : s < G.length) : nxp M (shutG G s) (s, i) = [] := by simp [nxp, shut_at h, after]
theorem shut_edge {s : Nat} {x y : Pt} (hx : x.1 ≠ s) (h : Edge M G x y) : Edge M (shutG G s) x y := by
  unfold Edge nxp at *
  rw [shut_ne hx]; exact h
/-- The first time that a run comes to a stop. -/
theorem first_at {s j : Nat} {n : Nat} {y z : Pt} (h : Way M G n y z) : z = (s, j) → ∃ v k, k ≤ n ∧ Star (Edge M (shutG G s)) y (s, v) ∧ Way M G k (s, v) (s, j) := by
  induction h with
  | nil x => rintro rfl; exact ⟨j, 0, Nat.le_refl _, .refl _, .nil _⟩
  | cons e w ih =>
    rename_i n x y z
    intro hz
    by_cases hx : x.1 = s
    · refine ⟨x.2, n + 1, Nat.le_refl _, ?_, ?_⟩
      · rw [show x = (s, x.2) from Prod.ext hx rfl]; exact .refl _
      · have h2 := Way.cons e w
        rw [hz, show x = (s, x.2) from Prod.ext hx rfl] at h2
        exact h2
    · obtain ⟨v, k, hk, h1, h2⟩ := ih hz
      exact ⟨v, k, by omega, .head (shut_edge hx e) h1, h2⟩
theorem whl_heads {t : Tm} {p : Pg} {s m a i j : Nat} (h : G[s]? = some ⟨some (.whl t p), [m, a]⟩) (h1 : Lay G p m s) (h2 : Lay (shutG G s) p m s) (ha : ∀ i, nxp M G (a, i) = []) (hne : a ≠ s) :
    Star (Edge M G) (s, i) (s, j) ↔ Star (fun u v => M.t t u = true ∧ Fin M p u v) i j := by
  have hs := getG_lt h
  refine ⟨fun hst => ?_, whl_way h h1⟩
  obtain ⟨n, hn⟩ := Way.of hst
  clear hst
  revert i
  induction n using Nat.strongRecOn with
  | ind n ih =>
  intro i hn
  generalize hz : (s, j) = z at hn
  generalize hy : (s, i) = y at hn
  cases hn with
  | nil => cases hz; cases hy; exact .refl _
  | cons e w =>
    rename_i n' y'
    subst hz
    subst hy
    unfold Edge at e
    rw [nx_whl h] at e
    by_cases ht : M.t t i = true
    · rw [if_pos ht] at e
      simp at e
      subst e
      obtain ⟨v, k, hk, h3, h4⟩ := first_at w rfl
      obtain ⟨n2, hn2⟩ := Way.of h3
      rcases way_fin (shut_nil hs) n2 p m s i h2 hn2 with ⟨_, q, nx, h5⟩ | ⟨v2, k2, _, hf, hw⟩
      · rw [show (s, v).1 = s from rfl, shut_at hs] at h5; cases h5
      · have : v2 = v := by
          cases hw with
          | nil => rfl
          | cons e' _ => unfold Edge at e'; rw [shut_nil hs] at e'; cases e'
        subst this
        exact .head ⟨ht, hf⟩ (ih k (by omega) h4)
    · rw [if_neg ht] at e
      simp at e
      subst e
      exfalso
      generalize hz : (s, j) = z at w
      generalize hy : (a, i) = y at w
      cases w with
      | nil => rw [← hz] at hy; exact hne (Prod.mk.inj hy).1
      | cons e' _ => subst hy; unfold Edge at e'; rw [ha] at e'; cases e'
end
end Go.Proofs.YtcbdbbcipnmjoaaGreat

namespace Go.Proofs.YtcbdbbcipnmjoaaGreat
open Go.RowKit Tm Go.Great Classical

theorem whl_flow (t : Tm) (p : Pg) : flS (.whl t p) = 1 ∧ ∃ m, (flG (.whl t p))[1]? = some ⟨some (.whl t p), [m, 0]⟩ ∧ Lay (flG (.whl t p)) p m 1 ∧ Lay (shutG (flG (.whl t p)) 1) p m 1 := by
  refine ⟨rfl, ?_⟩
  have hk := layF_ok p 1 ([⟨none, []⟩] ++ [⟨some (.whl t p), [0, 0]⟩])
  have hl := hk.len
  have hlay := hk.lay
  have e : flG (.whl t p) = (layF p 1 ([⟨none, []⟩] ++ [⟨some (.whl t p), [0, 0]⟩])).1.set 1 ⟨some (.whl t p), [(layF p 1 ([⟨none, []⟩] ++ [⟨some (.whl t p), [0, 0]⟩])).2, 0]⟩ := rfl
  generalize (layF p 1 ([⟨none, []⟩] ++ [⟨some (.whl t p), [0, 0]⟩])).1 = G1 at *
  generalize (layF p 1 ([⟨none, []⟩] ++ [⟨some (.whl t p), [0, 0]⟩])).2 = m at *
  have hl2 : 2 < G1.length := by simpa using hl
  rw [e]
  refine ⟨m, by rw [List.getElem?_set_self (by omega)], hlay _ fun k h1 h2 => ?_, hlay _ fun k h1 h2 => ?_⟩
  · have : 2 ≤ k := by simpa using h1
    rw [List.getElem?_set_ne (by omega)]
  · have : 2 ≤ k := by simpa using h1
    unfold shutG
    rw [List.getElem?_set_ne (by omega), List.getElem?_set_ne (by omega)]
/-- The states in which the test of a loop is looked at, from the states of a set. -/
noncomputable def stS (F : Nat → Bool) (B : Nat → Nat → Bool) (S : Nat → Bool) : Nat → Bool := fun j => upto 27 (fun q => S q && hdS F B q j)
theorem hdS_iff {F : Nat → Bool} {B : Nat → Nat → Bool} {i j : Nat} : hdS F B i j = true ↔ Star (HR F B) i j := by unfold hdS; exact decide_eq_true_iff
theorem heads_pure {t : Tm} {p : Pg} {m : Mp} {S F : Nat → Bool} {lo bl : Bool} (hp : p.ok false) (h : Wk (flG (.whl t p)) (flS (.whl t p)) S 27 m F lo bl) (hT : Top (flG (.whl t p))) : ∀ j, j < 27 → (m (flS (.whl t p), j)).isSome = stS (tst t) (rT p) S j := by
  intro j hj
  obtain ⟨e1, x, h1, h2, h3⟩ := whl_flow t p
  have hk := h.kn (flS (.whl t p), j)
  rw [e1] at hk ⊢
  rw [Bool.eq_iff_iff]
  unfold stS
  rw [upto_iff]
  have e2 : (m (1, j)).isSome = true ↔ m (1, j) ≠ none := by cases m (1, j) <;> simp
  rw [e2, hk]
  have hw : ∀ q, q < 27 → (Star (Edge mdl (flG (.whl t p))) (1, q) (1, j) ↔ hdS (tst t) (rT p) q j = true) := by
    intro q hq
    rw [hdS_iff, star_hr hp hq]
    exact whl_heads h1 h2 h3 (fun i => nx_end hT) (by omega)
  constructor
  · rintro ⟨q, hq, hS, hs⟩
    exact ⟨q, hq, by rw [hS, Bool.true_and]; exact (hw q hq).1 hs⟩
  · rintro ⟨q, hq, hs⟩
    rw [Bool.and_eq_true] at hs
    exact ⟨q, hq, hs.1, (hw q hq).2 hs.2⟩
theorem stS_one {F : Nat → Bool} {B : Nat → Nat → Bool} {i j : Nat} (hi : i < 27) : stS F B (fun q => q == i) j = hdS F B i j := by
  unfold stS
  rw [Bool.eq_iff_iff, upto_iff]
  constructor
  · rintro ⟨q, _, h⟩
    rw [Bool.and_eq_true] at h
    rw [← eq_of_beq h.1]; exact h.2
  · exact fun h => ⟨i, hi, by simp [h]⟩
end Go.Proofs.YtcbdbbcipnmjoaaGreat

namespace Go.Proofs.YtcbdbbcipnmjoaaGreat
open Go.RowKit Tm Go.Great Classical

theorem whl_all {t : Tm} {p : Pg} {b : ByteArray} (he : b.data.toList = p.ser) (hl : b.size ≤ 200) : (Pg.whl t p).all.length ≤ 900 := by
  have h1 := p.all_le
  have h2 := ser_200 he hl
  have h3 : (Pg.whl t p).all.length = p.all.length + 1 := by simp [Pg.all]
  omega
theorem whl_ok {t : Tm} {p : Pg} (ht : Ok false true t) (hp : p.ok false) : (Pg.whl t p).ok false := ⟨ht, hp⟩
end Go.Proofs.YtcbdbbcipnmjoaaGreat

namespace Go.Proofs.YtcbdbbcipnmjoaaGreat
open Go.RowKit Tm Go.Great Classical

def stH (F : Nat → Bool) (B : Nat → Nat → Bool) (H : Nat → Bool) : Nat → Bool := fun j => H j || postS (fun i => H i && F i) B 27 j
theorem stH_iff {F : Nat → Bool} {B : Nat → Nat → Bool} {H : Nat → Bool} {j : Nat} : stH F B H j = true ↔ H j = true ∨ ∃ i, i < 27 ∧ H i = true ∧ F i = true ∧ B i j = true := by
  unfold stH postS
  rw [Bool.or_eq_true, upto_iff]
  constructor
  · rintro (h | ⟨i, hi, h⟩)
    · exact .inl h
    · simp only [Bool.and_eq_true] at h
      exact .inr ⟨i, hi, h.1.1, h.1.2, h.2⟩
  · rintro (h | ⟨i, hi, h1, h2, h3⟩)
    · exact .inl h
    · exact .inr ⟨i, hi, by simp [h1, h2, h3]⟩
theorem stH_congr {F : Nat → Bool} {B : Nat → Nat → Bool} {H G : Nat → Bool} (h : ∀ i, i < 27 → H i = G i) : ∀ j, j < 27 → stH F B H j = stH F B G j := by
  intro j hj
  rw [Bool.eq_iff_iff, stH_iff, stH_iff, h j hj]
  constructor
  · rintro (h1 | ⟨i, hi, h1, h2⟩)
    · exact .inl h1
    · exact .inr ⟨i, hi, by rw [← h i hi]; exact h1, h2⟩
  · rintro (h1 | ⟨i, hi, h1, h2⟩)
    · exact .inl h1
    · exact .inr ⟨i, hi, by rw [h i hi]; exact h1, h2⟩
theorem stS_iff {F : Nat → Bool} {B : Nat → Nat → Bool} {S : Nat → Bool} {j : Nat} : stS F B S j = true ↔ ∃ q, q < 27 ∧ S q = true ∧ Star (HR F B) q j := by
  unfold stS
  rw [upto_iff]
  constructor
  · rintro ⟨q, hq, h⟩
    rw [Bool.and_eq_true, hdS_iff] at h
    exact ⟨q, hq, h⟩
  · rintro ⟨q, hq, h⟩
    exact ⟨q, hq, by rw [Bool.and_eq_true, hdS_iff]; exact h⟩
structure StInv (F : Nat → Bool) (B : Nat → Nat → Bool) (S H : Nat → Bool) : Prop where
  sub : ∀ j, j < 27 → S j = true → H j = true
  ins : ∀ j, j < 27 → H j = true → stS F B S j = true
theorem StInv.start (F : Nat → Bool) (B : Nat → Nat → Bool) (S : Nat → Bool) : StInv F B S S := ⟨fun _ _ h => h, fun j hj h => stS_iff.2 ⟨j, hj, h, .refl _⟩⟩
theorem StInv.step {F : Nat → Bool} {B : Nat → Nat → Bool} {S H : Nat → Bool} (h : StInv F B S H) : StInv F B S (stH F B H) where
  sub := fun j hj hs => stH_iff.2 (.inl (h.sub j hj hs))
  ins := by
    intro j hj hh
    rcases stH_iff.1 hh with h1 | ⟨i, hi, h1, h2, h3⟩
    · exact h.ins j hj h1
    · obtain ⟨q, hq, h4, h5⟩ := stS_iff.1 (h.ins i hi h1)
      exact stS_iff.2 ⟨q, hq, h4, h5.tail ⟨hi, hj, h2, h3⟩⟩
theorem StInv.done {F : Nat → Bool} {B : Nat → Nat → Bool} {S H : Nat → Bool} (h : StInv F B S H) (e : nb 27 (stH F B H) = nb 27 H) : nb 27 H = nb 27 (stS F B S) := by
  refine nb_congr fun j hj => ?_
  rw [Bool.eq_iff_iff]
  refine ⟨h.ins j hj, fun hs => ?_⟩
  obtain ⟨q, hq, h1, h2⟩ := stS_iff.1 hs
  have : ∀ u v : Nat, Star (HR F B) u v → H u = true → H v = true := by
    intro u v hst
    induction hst with
    | refl => exact id
    | head h3 _ ih =>
      intro hu
      refine ih ?_
      rw [← nb_inj e _ h3.2.1]
      exact stH_iff.2 (.inr ⟨_, h3.1, hu, h3.2.2.1, h3.2.2.2⟩)
  exact this q j h2 (h.sub q hq h1)
theorem stH_le {F : Nat → Bool} {B : Nat → Nat → Bool} {H : Nat → Bool} : nb 27 H ≤ nb 27 (stH F B H) := nb_mono fun _ _ h => stH_iff.2 (.inl h)
theorem stH_stop {F : Nat → Bool} {B : Nat → Nat → Bool} {H : Nat → Bool} (e : nb 27 H = nb 27 (stH F B H)) : nb 27 (stH F B (stH F B H)) = nb 27 (stH F B H) := nb_congr (stH_congr fun i hi => (nb_inj e i hi).symm)

theorem run_bs {b : ByteArray} {p : Pg} (hp : p.ok false) (he : b.data.toList = p.ser) (hl : b.size ≤ 200) (w : World) : Calls Tryz.prog 10 #[.string b] w (AllPost (rT p) (rL p) (rK p) w) := by
  have := run_any p hp (ser_200 he hl) w
  rwa [← bs_of he] at this
theorem tb_of_nb {F G : Nat → Bool} (h : nb 27 F = nb 27 G) : tb F = tb G := tb_congr fun i hi => nb_inj h i hi
end Go.Proofs.YtcbdbbcipnmjoaaGreat

namespace Go.Proofs.YtcbdbbcipnmjoaaGreat
open Go.RowKit Tm Go.Great Classical

def ixh (x y z : Int) : Nat := (x + 3 * y + 9 * z).toNat
theorem ixh_lt {x y z : Int} (h : st3 x y z = true) : ixh x y z < 27 ∧ ((ixh x y z : Nat) : Int) = x + 3 * y + 9 * z := by
  have h := st3_lt h
  unfold ixh; omega
end Go.Proofs.YtcbdbbcipnmjoaaGreat

namespace Go.Proofs.YtcbdbbcipnmjoaaGreat
open Go.RowKit Tm Go.Great Classical

theorem cells3 {w w' : World} {b : Nat} {x y z : Value} {t : TypeId} (h : Blk w b #[x, y, z] t) (hb : Below w.heap.size w w') : Below w.heap.size w w' ∧ w'.cell? ⟨b, 0, none⟩ = some x ∧ w'.cell? ⟨b, 1, none⟩ = some y ∧ w'.cell? ⟨b, 2, none⟩ = some z := ⟨hb, (h.kept hb).c3.1, (h.kept hb).c3.2.1, (h.kept hb).c3.2.2⟩
end Go.Proofs.YtcbdbbcipnmjoaaGreat
