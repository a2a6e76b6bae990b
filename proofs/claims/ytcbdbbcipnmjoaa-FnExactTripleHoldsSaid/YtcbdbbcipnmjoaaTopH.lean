/-
  Several small texts in one: Lp HdW He Hs Hm Hh Hn.
-/
import Derived.Test.YtcbdbbcipnmjoaaTopR
import Derived.Test.YtcbdbbcipnmjoaaPo
import Derived.Test.YtcbdbbcipnmjoaaTopW
import Derived.Deep.RegionHeld3
namespace Go.Proofs.Ytcbdbbcipnmjoaa
open Go.RowKit Tm Go.Great Classical

theorem readH_yes (s : ByteArray) (w : World) {t : Tm} (ht : Ok false true t) (hs : s.data.toList = t.ser) (hl : s.size ≤ 200) :
    Calls Try.prog 86 #[.string s, .int .u8 116] w fun e w' => ∃ xc ya yn ym, e = .returned (.tuple #[.agg #[.int .u8 xc, .slice ya yn ym], .bool true]) ∧ RepH w' w.heap.size t (.int .u8 xc) (.slice ya yn ym) ∧ Below w.heap.size w w' := by
  obtain ⟨kids, ek⟩ := emb_nd t
  refine (gread_yes (kc true) s w (by rw [← ek]; exact emb_ok ht rfl) (by rw [hs, ← ek, emb_ser]; simp [Fo.ser]) hl).mono ?_
  rintro e2 w' ⟨ya, ym, rfl, hr, hb⟩
  exact ⟨_, ya, _, ym, rfl, ⟨kids, ek, hr⟩, hb⟩
def IsT (s : ByteArray) : Prop := Valid false true s.data.toList ∧ s.size ≤ 200
theorem readT_no (s : ByteArray) (w : World) (h : ¬ IsT s) : Calls Try.prog 86 #[.string s, .int .u8 116] w fun e w' => e = .returned (.tuple #[.agg #[.int .u8 0, .slice none 0 0], .bool false]) ∧ Below w.heap.size w w' := read_no true s w h
def LoopPost (t : Tm) (p : Pg) (w : World) (e : Ending) (w' : World) : Prop := ∃ xc ya yn ym T u, e = .returned (.tuple #[.agg #[.int .u8 xc, .slice ya yn ym, .iface T (.agg u)], .bool true]) ∧ StV w' w.heap.size (.whl t p) (.iface 72 (.agg #[.int .u8 xc, .slice ya yn ym, .iface T (.agg u)])) ∧ Below w.heap.size w w'
def NoLoop (w : World) (e : Ending) (w' : World) : Prop := e = .returned (.tuple #[.agg #[.int .u8 0, .slice none 0 0, .nilIface], .bool false]) ∧ Below w.heap.size w w'
theorem RepH.keep {w w' : World} {B B' : Nat} (hc : ∀ b o v, B ≤ b → w.cell? ⟨b, o, none⟩ = some v → w'.cell? ⟨b, o, none⟩ = some v) (hB : B' ≤ B) {t : Tm} {x y : Value} (h : RepH w B t x y) : RepH w' B' t x y := by
  obtain ⟨kids, e, hr⟩ := h
  exact ⟨kids, e, hr.keep hc hB⟩
theorem StV.keep {w w' : World} {B B' : Nat} (hc : ∀ b o v, B ≤ b → w.cell? ⟨b, o, none⟩ = some v → w'.cell? ⟨b, o, none⟩ = some v) (hB : B' ≤ B) : ∀ {p : Pg} {v : Value}, StV w B p v → StV w' B' p v := by
  intro p
  induction p with
  | skip => exact fun h => h
  | asg x e => rintro v ⟨a, b, h, h1⟩; exact ⟨a, b, h, h1.keep hc hB⟩
  | seq p q ihp ihq => rintro v ⟨a, b, h, h1, h2⟩; exact ⟨a, b, h, ihp h1, ihq h2⟩
  | ite t p q ihp ihq => rintro v ⟨x, y, a, b, h, h0, h1, h2⟩; exact ⟨x, y, a, b, h, h0.keep hc hB, ihp h1, ihq h2⟩
  | whl t p ihp => rintro v ⟨x, y, a, h, h0, h1⟩; exact ⟨x, y, a, h, h0.keep hc hB, ihp h1⟩
  | cho p q ihp ihq => rintro v ⟨a, b, h, h1, h2⟩; exact ⟨a, b, h, ihp h1, ihq h2⟩
  | asm t => rintro v ⟨x, y, h, h0⟩; exact ⟨x, y, h, h0.keep hc hB⟩
set_option maxRecDepth 100000 in
set_option maxHeartbeats 4000000 in
theorem readLoop_yes (s b : ByteArray) {t : Tm} {p : Pg} (ht : Ok false true t) (hs : s.data.toList = t.ser) (hl : s.size ≤ 200) (hp : p.ok false) (he : b.data.toList = p.ser) (hl2 : b.size ≤ 200) (w : World) : Calls Try.prog 44 #[.string s, .string b] w (LoopPost t p w) := by
  have C1 := fun w => Lib.hid (readH_yes s w ht hs hl)
  have C2 := fun w => Lib.hid (prog_yes b w hp he hl2)
  clear ht hs hl hp he hl2
  have K0 := Lib.hid (Blk.new w #[.int .u8 0, .slice none 0 0, .nilIface] 72)
  have KB := Lib.hid ((Below.refl w.heap.size w).alloc (Nat.le_refl _) (.cells #[.int .u8 0, .slice none 0 0, .nilIface] 72))
  go_enter Try.func44, Try.ntmps44
  go_wp2_with fail
  generalize w.alloc (.cells #[.int .u8 0, .slice none 0 0, .nilIface] 72) = w0 at *
  have K0a : Hid (w.heap.size + 1 ≤ w0.heap.size) := K0.out.lt
  refine (C1 _).out.mono ?_
  rintro e w1 ⟨xc, ya, yn, ym, rfl, hr, hb⟩
  replace K0 := Lib.hid (K0.out.kept hb)
  have HR := Lib.hid (hr.keep (fun _ _ _ _ h => h) (show w.heap.size + 1 ≤ w0.heap.size from K0a.out))
  replace KB := Lib.hid (bnext KB.out hb)
  clear hb hr
  go_wp2_with fail
  have P0 := Lib.hid (Blk.new w1 #[.int .u8 xc, .slice ya yn ym] 66)
  have pb := (Below.refl w1.heap.size w1).alloc (Nat.le_refl _) (.cells #[.int .u8 xc, .slice ya yn ym] 66)
  replace K0 := Lib.hid (K0.out.kept pb)
  replace HR := Lib.hid (HR.out.below pb)
  replace KB := Lib.hid (bnext KB.out pb)
  clear pb
  generalize hwx : w1.alloc (.cells #[.int .u8 xc, .slice ya yn ym] 66) = wx at *
  clear hwx
  have HL : Hid (w.heap.size + 1 ≤ wx.heap.size) := K0.out.lt
  refine (C2 _).out.mono ?_
  rintro e w2 ⟨T, u, rfl, hst, hb⟩
  replace K0 := Lib.hid (K0.out.kept hb)
  replace P0 := Lib.hid (P0.out.kept hb)
  replace HR := Lib.hid (HR.out.below hb)
  have HS := Lib.hid (StV.keep (fun _ _ _ _ h => h) (show w.heap.size + 1 ≤ wx.heap.size from HL.out) hst)
  replace KB := Lib.hid (bnext KB.out hb)
  clear hb hst
  obtain ⟨q0, q1, q2⟩ := K0.out.c3
  obtain ⟨f0, f1, f2⟩ := K0.out.f3
  have p0 := P0.out.cell 0
  have p1 := P0.out.cell 1
  simp at p0 p1
  go_wp2_with fail
  have KE := Lib.hid (((KB.out.setCell (p := ⟨w.heap.size, 0, none⟩) (Nat.le_refl _) (.int .u8 xc)).setCell (p := ⟨w.heap.size, 1, none⟩) (Nat.le_refl _) (.slice ya yn ym)).setCell (p := ⟨w.heap.size, 2, none⟩) (Nat.le_refl _) (.iface T (.agg u)))
  have hck : ∀ b o v, w.heap.size + 1 ≤ b → w2.cell? ⟨b, o, none⟩ = some v → (((w2.setCell ⟨w.heap.size, 0, none⟩ (.int .u8 xc)).setCell ⟨w.heap.size, 1, none⟩ (.slice ya yn ym)).setCell ⟨w.heap.size, 2, none⟩ (.iface T (.agg u))).cell? ⟨b, o, none⟩ = some v := by
    intro b o v hb h
    rw [World.cell?_setCell_other _ _ _ _ (by intro e; injection e; omega), World.cell?_setCell_other _ _ _ _ (by intro e; injection e; omega), World.cell?_setCell_other _ _ _ _ (by intro e; injection e; omega)]
    exact h
  have HR2 := Lib.hid (HR.out.keep hck (Nat.le_succ _))
  have HS2 := Lib.hid (StV.keep hck (Nat.le_succ _) HS.out)
  clear hck
  have a0 : (((w2.setCell ⟨w.heap.size, 0, none⟩ (.int .u8 xc)).setCell ⟨w.heap.size, 1, none⟩ (.slice ya yn ym)).setCell ⟨w.heap.size, 2, none⟩ (.iface T (.agg u))).cell? ⟨w.heap.size, 0, none⟩ = some (.int .u8 xc) := by simp [go_sem, q0]
  have a1 : (((w2.setCell ⟨w.heap.size, 0, none⟩ (.int .u8 xc)).setCell ⟨w.heap.size, 1, none⟩ (.slice ya yn ym)).setCell ⟨w.heap.size, 2, none⟩ (.iface T (.agg u))).cell? ⟨w.heap.size, 1, none⟩ = some (.slice ya yn ym) := by simp [go_sem, q1]
  have a2 : (((w2.setCell ⟨w.heap.size, 0, none⟩ (.int .u8 xc)).setCell ⟨w.heap.size, 1, none⟩ (.slice ya yn ym)).setCell ⟨w.heap.size, 2, none⟩ (.iface T (.agg u))).cell? ⟨w.heap.size, 2, none⟩ = some (.iface T (.agg u)) := by simp [go_sem, q2]
  exact bodyPost_ret (v := .tuple #[.agg #[.int .u8 xc, .slice ya yn ym, .iface T (.agg u)], .bool true]) (by simp [results, Try.results44, go_sem, a0, a1, a2]) rfl ⟨xc, ya, yn, ym, T, u, rfl, ⟨_, _, _, rfl, HR2.out, HS2.out⟩, KE.out⟩
set_option maxRecDepth 100000 in
set_option maxHeartbeats 4000000 in
theorem readLoop_no (s b : ByteArray) (h : ¬ (IsT s ∧ IsP b)) (w : World) : Calls Try.prog 44 #[.string s, .string b] w (NoLoop w) := by
  have K0 := Lib.hid (Blk.new w #[.int .u8 0, .slice none 0 0, .nilIface] 72)
  have KB := Lib.hid ((Below.refl w.heap.size w).alloc (Nat.le_refl _) (.cells #[.int .u8 0, .slice none 0 0, .nilIface] 72))
  have fin : ∀ (w2 : World), Blk w2 w.heap.size #[.int .u8 0, .slice none 0 0, .nilIface] 72 → Below w.heap.size w w2 → Blk (((w2.setCell ⟨w.heap.size, 0, none⟩ (.int .u8 0)).setCell ⟨w.heap.size, 1, none⟩ (.slice none 0 0)).setCell ⟨w.heap.size, 2, none⟩ .nilIface) w.heap.size #[.int .u8 0, .slice none 0 0, .nilIface] 72 ∧ Below w.heap.size w (((w2.setCell ⟨w.heap.size, 0, none⟩ (.int .u8 0)).setCell ⟨w.heap.size, 1, none⟩ (.slice none 0 0)).setCell ⟨w.heap.size, 2, none⟩ .nilIface) := by
    intro w2 h1 h2
    exact ⟨((h1.set 0 _).set 1 _).set 2 _, ((h2.setCell (p := ⟨w.heap.size, 0, none⟩) (Nat.le_refl _) _).setCell (p := ⟨w.heap.size, 1, none⟩) (Nat.le_refl _) _).setCell (p := ⟨w.heap.size, 2, none⟩) (Nat.le_refl _) _⟩
  have FIN := Lib.hid fin
  clear fin
  by_cases ht : IsT s
  · have hp : ¬ IsP b := fun hp => h ⟨ht, hp⟩
    obtain ⟨⟨t, ht, hs⟩, hl⟩ := ht
    have C1 := fun w => Lib.hid (readH_yes s w ht hs hl)
    have C2 := fun w => Lib.hid (prog_no b w hp)
    clear ht hs hl h hp
    go_enter Try.func44, Try.ntmps44
    go_wp2_with fail
    generalize w.alloc (.cells #[.int .u8 0, .slice none 0 0, .nilIface] 72) = w0 at *
    refine (C1 _).out.mono ?_
    rintro e w1 ⟨xc, ya, yn, ym, rfl, hr, hb⟩
    replace K0 := Lib.hid (K0.out.kept hb)
    replace KB := Lib.hid (bnext KB.out hb)
    clear hb hr
    go_wp2_with fail
    have pb := (Below.refl w1.heap.size w1).alloc (Nat.le_refl _) (.cells #[.int .u8 xc, .slice ya yn ym] 66)
    replace K0 := Lib.hid (K0.out.kept pb)
    replace KB := Lib.hid (bnext KB.out pb)
    clear pb
    refine (C2 _).out.mono ?_
    rintro e w2 ⟨rfl, hb⟩
    replace K0 := Lib.hid (K0.out.kept hb)
    replace KB := Lib.hid (bnext KB.out hb)
    clear hb
    obtain ⟨q0, q1, q2⟩ := K0.out.c3
    obtain ⟨f0, f1, f2⟩ := K0.out.f3
    obtain ⟨g1, g2⟩ := FIN.out w2 K0.out KB.out
    have G2 := Lib.hid g2
    obtain ⟨a0, a1, a2⟩ := g1.c3
    clear g1 g2
    go_wp2_with fail
    exact bodyPost_ret (v := .tuple #[.agg #[.int .u8 0, .slice none 0 0, .nilIface], .bool false]) (by simp [results, Try.results44, go_sem, a0, a1, a2]) rfl ⟨rfl, G2.out⟩
  · have C1 := fun w => Lib.hid (readT_no s w ht)
    by_cases hp : IsP b
    · obtain ⟨⟨p, hp, he⟩, hl⟩ := hp
      have C2 := fun w => Lib.hid (prog_yes b w hp he hl)
      clear ht hp he hl h
      go_enter Try.func44, Try.ntmps44
      go_wp2_with fail
      generalize w.alloc (.cells #[.int .u8 0, .slice none 0 0, .nilIface] 72) = w0 at *
      refine (C1 _).out.mono ?_
      rintro e w1 ⟨rfl, hb⟩
      replace K0 := Lib.hid (K0.out.kept hb)
      replace KB := Lib.hid (bnext KB.out hb)
      clear hb
      go_wp2_with fail
      have pb := (Below.refl w1.heap.size w1).alloc (Nat.le_refl _) (.cells #[.int .u8 0, .slice none 0 0] 66)
      replace K0 := Lib.hid (K0.out.kept pb)
      replace KB := Lib.hid (bnext KB.out pb)
      clear pb
      refine (C2 _).out.mono ?_
      rintro e w2 ⟨T, u, rfl, hst, hb⟩
      replace K0 := Lib.hid (K0.out.kept hb)
      replace KB := Lib.hid (bnext KB.out hb)
      clear hb hst
      obtain ⟨q0, q1, q2⟩ := K0.out.c3
      obtain ⟨f0, f1, f2⟩ := K0.out.f3
      obtain ⟨g1, g2⟩ := FIN.out w2 K0.out KB.out
      have G2 := Lib.hid g2
      obtain ⟨a0, a1, a2⟩ := g1.c3
      clear g1 g2
      go_wp2_with fail
      exact bodyPost_ret (v := .tuple #[.agg #[.int .u8 0, .slice none 0 0, .nilIface], .bool false]) (by simp [results, Try.results44, go_sem, a0, a1, a2]) rfl ⟨rfl, G2.out⟩
    · have C2 := fun w => Lib.hid (prog_no b w hp)
      clear ht hp h
      go_enter Try.func44, Try.ntmps44
      go_wp2_with fail
      generalize w.alloc (.cells #[.int .u8 0, .slice none 0 0, .nilIface] 72) = w0 at *
      refine (C1 _).out.mono ?_
      rintro e w1 ⟨rfl, hb⟩
      replace K0 := Lib.hid (K0.out.kept hb)
      replace KB := Lib.hid (bnext KB.out hb)
      clear hb
      go_wp2_with fail
      have pb := (Below.refl w1.heap.size w1).alloc (Nat.le_refl _) (.cells #[.int .u8 0, .slice none 0 0] 66)
      replace K0 := Lib.hid (K0.out.kept pb)
      replace KB := Lib.hid (bnext KB.out pb)
      clear pb
      refine (C2 _).out.mono ?_
      rintro e w2 ⟨rfl, hb⟩
      replace K0 := Lib.hid (K0.out.kept hb)
      replace KB := Lib.hid (bnext KB.out hb)
      clear hb
      obtain ⟨q0, q1, q2⟩ := K0.out.c3
      obtain ⟨f0, f1, f2⟩ := K0.out.f3
      obtain ⟨g1, g2⟩ := FIN.out w2 K0.out KB.out
      have G2 := Lib.hid g2
      obtain ⟨a0, a1, a2⟩ := g1.c3
      clear g1 g2
      go_wp2_with fail
      exact bodyPost_ret (v := .tuple #[.agg #[.int .u8 0, .slice none 0 0, .nilIface], .bool false]) (by simp [results, Try.results44, go_sem, a0, a1, a2]) rfl ⟨rfl, G2.out⟩
end Go.Proofs.Ytcbdbbcipnmjoaa

namespace Go.Proofs.Ytcbdbbcipnmjoaa

section
variable {M : Mdl} {G : List Stp}

/-- The graph without a way on from a stop. -/
def shutG (G : List Stp) (s : Nat) : List Stp := G.set s ⟨none, []⟩
theorem shut_at {s : Nat} (h : s < G.length) : (shutG G s)[s]? = some ⟨none, []⟩ := by simp [shutG, h]
theorem shut_ne {s k : Nat} (h : k ≠ s) : (shutG G s)[k]? = G[k]? := by
  unfold shutG
  exact List.getElem?_set_ne (fun e => h e.symm)
theorem shut_nil {s i : Nat} (h : s < G.length) : nxp M (shutG G s) (s, i) = [] := by simp [nxp, shut_at h, after]
theorem shut_edge {s : Nat} {x y : Pt} (hx : x.1 ≠ s) (h : Edge M G x y) : Edge M (shutG G s) x y := by
  unfold Edge nxp at *
  rw [shut_ne hx]; exact h
/-- The first time that a run comes to a stop. -/
theorem first_at {s j : Nat} {n : Nat} {y z : Pt} (h : Way M G n y z) : z = (s, j) → ∃ v k, k ≤ n ∧ Star (Edge M (shutG G s)) y (s, v) ∧ Way M G k (s, v) (s, j) := by
  induction h with
  | nil x => rintro rfl; exact ⟨j, 0, Nat.le_refl _, .refl _, .nil _⟩
  | cons e w ih =>
    rename_i n x y z
    intro hz
    by_cases hx : x.1 = s
    · refine ⟨x.2, n + 1, Nat.le_refl _, ?_, ?_⟩
      · rw [show x = (s, x.2) from Prod.ext hx rfl]; exact .refl _
      · have h2 := Way.cons e w
        rw [hz, show x = (s, x.2) from Prod.ext hx rfl] at h2
        exact h2
    · obtain ⟨v, k, hk, h1, h2⟩ := ih hz
      exact ⟨v, k, by omega, .head (shut_edge hx e) h1, h2⟩
theorem whl_heads {t : Tm} {p : Pg} {s m a i j : Nat} (h : G[s]? = some ⟨some (.whl t p), [m, a]⟩) (h1 : Lay G p m s) (h2 : Lay (shutG G s) p m s) (ha : ∀ i, nxp M G (a, i) = []) (hne : a ≠ s) :
    Star (Edge M G) (s, i) (s, j) ↔ Star (fun u v => M.t t u = true ∧ Fin M p u v) i j := by
  have hs := getG_lt h
  refine ⟨fun hst => ?_, whl_way h h1⟩
  obtain ⟨n, hn⟩ := Way.of hst
  clear hst
  revert i
  induction n using Nat.strongRecOn with
  | ind n ih =>
  intro i hn
  generalize hz : (s, j) = z at hn
  generalize hy : (s, i) = y at hn
  cases hn with
  | nil => cases hz; cases hy; exact .refl _
  | cons e w =>
    rename_i n' y'
    subst hz
    subst hy
    unfold Edge at e
    rw [nx_whl h] at e
    by_cases ht : M.t t i = true
    · rw [if_pos ht] at e
      simp at e
      subst e
      obtain ⟨v, k, hk, h3, h4⟩ := first_at w rfl
      obtain ⟨n2, hn2⟩ := Way.of h3
      rcases way_fin (shut_nil hs) n2 p m s i h2 hn2 with ⟨_, q, nx, h5⟩ | ⟨v2, k2, _, hf, hw⟩
      · rw [show (s, v).1 = s from rfl, shut_at hs] at h5; cases h5
      · have : v2 = v := by
          cases hw with
          | nil => rfl
          | cons e' _ => unfold Edge at e'; rw [shut_nil hs] at e'; cases e'
        subst this
        exact .head ⟨ht, hf⟩ (ih k (by omega) h4)
    · rw [if_neg ht] at e
      simp at e
      subst e
      exfalso
      generalize hz : (s, j) = z at w
      generalize hy : (a, i) = y at w
      cases w with
      | nil => rw [← hz] at hy; exact hne (Prod.mk.inj hy).1
      | cons e' _ => subst hy; unfold Edge at e'; rw [ha] at e'; cases e'
end
end Go.Proofs.Ytcbdbbcipnmjoaa

namespace Go.Proofs.Ytcbdbbcipnmjoaa
open Go.RowKit Tm Go.Great Classical

theorem whl_flow (t : Tm) (p : Pg) : flS (.whl t p) = 1 ∧ ∃ m, (flG (.whl t p))[1]? = some ⟨some (.whl t p), [m, 0]⟩ ∧ Lay (flG (.whl t p)) p m 1 ∧ Lay (shutG (flG (.whl t p)) 1) p m 1 := by
  refine ⟨rfl, ?_⟩
  have hk := layF_ok p 1 ([⟨none, []⟩] ++ [⟨some (.whl t p), [0, 0]⟩])
  have hl := hk.len
  have hlay := hk.lay
  have e : flG (.whl t p) = (layF p 1 ([⟨none, []⟩] ++ [⟨some (.whl t p), [0, 0]⟩])).1.set 1 ⟨some (.whl t p), [(layF p 1 ([⟨none, []⟩] ++ [⟨some (.whl t p), [0, 0]⟩])).2, 0]⟩ := rfl
  generalize (layF p 1 ([⟨none, []⟩] ++ [⟨some (.whl t p), [0, 0]⟩])).1 = G1 at *
  generalize (layF p 1 ([⟨none, []⟩] ++ [⟨some (.whl t p), [0, 0]⟩])).2 = m at *
  have hl2 : 2 < G1.length := by simpa using hl
  rw [e]
  refine ⟨m, by rw [List.getElem?_set_self (by omega)], hlay _ fun k h1 h2 => ?_, hlay _ fun k h1 h2 => ?_⟩
  · have : 2 ≤ k := by simpa using h1
    rw [List.getElem?_set_ne (by omega)]
  · have : 2 ≤ k := by simpa using h1
    unfold shutG
    rw [List.getElem?_set_ne (by omega), List.getElem?_set_ne (by omega)]
/-- The states in which the test of a loop is looked at, from the states of a set. -/
noncomputable def stS (F : Nat → Bool) (B : Nat → Nat → Bool) (S : Nat → Bool) : Nat → Bool := fun j => upto 27 (fun q => S q && hdS F B q j)
theorem hdS_iff {F : Nat → Bool} {B : Nat → Nat → Bool} {i j : Nat} : hdS F B i j = true ↔ Star (HR F B) i j := by unfold hdS; exact decide_eq_true_iff
theorem heads_pure {t : Tm} {p : Pg} {m : Mp} {S F : Nat → Bool} {lo bl : Bool} (hp : p.ok false) (h : Wk (flG (.whl t p)) (flS (.whl t p)) S 27 m F lo bl) (hT : Top (flG (.whl t p))) : ∀ j, j < 27 → (m (flS (.whl t p), j)).isSome = stS (tst t) (rT p) S j := by
  intro j hj
  obtain ⟨e1, x, h1, h2, h3⟩ := whl_flow t p
  have hk := h.kn (flS (.whl t p), j)
  rw [e1] at hk ⊢
  rw [Bool.eq_iff_iff]
  unfold stS
  rw [upto_iff]
  have e2 : (m (1, j)).isSome = true ↔ m (1, j) ≠ none := by cases m (1, j) <;> simp
  rw [e2, hk]
  have hw : ∀ q, q < 27 → (Star (Edge mdl (flG (.whl t p))) (1, q) (1, j) ↔ hdS (tst t) (rT p) q j = true) := by
    intro q hq
    rw [hdS_iff, star_hr hp hq]
    exact whl_heads h1 h2 h3 (fun i => nx_end hT) (by omega)
  constructor
  · rintro ⟨q, hq, hS, hs⟩
    exact ⟨q, hq, by rw [hS, Bool.true_and]; exact (hw q hq).1 hs⟩
  · rintro ⟨q, hq, hs⟩
    rw [Bool.and_eq_true] at hs
    exact ⟨q, hq, hs.1, (hw q hq).2 hs.2⟩
theorem stS_one {F : Nat → Bool} {B : Nat → Nat → Bool} {i j : Nat} (hi : i < 27) : stS F B (fun q => q == i) j = hdS F B i j := by
  unfold stS
  rw [Bool.eq_iff_iff, upto_iff]
  constructor
  · rintro ⟨q, _, h⟩
    rw [Bool.and_eq_true] at h
    rw [← eq_of_beq h.1]; exact h.2
  · exact fun h => ⟨i, hi, by simp [h]⟩
end Go.Proofs.Ytcbdbbcipnmjoaa

namespace Go.Proofs.Ytcbdbbcipnmjoaa
open Go.RowKit Tm Go.Great Classical

theorem whl_all {t : Tm} {p : Pg} {b : ByteArray} (he : b.data.toList = p.ser) (hl : b.size ≤ 200) : (Pg.whl t p).all.length ≤ 900 := by
  have h1 := p.all_le
  have h2 := ser_200 he hl
  have h3 : (Pg.whl t p).all.length = p.all.length + 1 := by simp [Pg.all]
  omega
theorem whl_ok {t : Tm} {p : Pg} (ht : Ok false true t) (hp : p.ok false) : (Pg.whl t p).ok false := ⟨ht, hp⟩
set_option maxRecDepth 100000 in
set_option maxHeartbeats 4000000 in
theorem implStrong_yes (q s b : ByteArray) {t : Tm} {p : Pg} (ht : Ok false true t) (hs0 : s.data.toList = t.ser) (hl : s.size ≤ 200) (hp : p.ok false) (he : b.data.toList = p.ser) (hl2 : b.size ≤ 200) (hq : Set27 q) (w : World) : Calls Try.prog 29 #[.string q, .string s, .string b] w (TextPost (stS (tst t) (rT p) (hs q.data.toList)) w) := by
  have CL := fun w => Lib.hid (readLoop_yes s b ht hs0 hl hp he hl2 w)
  have CQ := fun w => Lib.hid (implRead_yes q w hq)
  have CF := fun B v w hv => Lib.hid (flowOf_any (.whl t p) B v w hv (whl_ok ht hp) (whl_all he hl2))
  have CW := fun {w1 : World} {B : Nat} {sp : Value} (hF : FlowOk w1 B sp (flS (.whl t p)) (flG (.whl t p))) (w : World) (hb : Below w1.heap.size w1 w) => Lib.hid (walkFrom_any hF (hs q.data.toList) w hb)
  have HP := Lib.hid hp
  clear ht hs0 hl hp he hl2 hq
  go_enter Try.func29, Try.ntmps29
  go_wp2_with fail
  refine (CL _).out.mono ?_
  rintro e w1 ⟨xc, ya, yn, ym, T, u, rfl, hst, hb⟩
  have KB := Lib.hid hb
  clear hb
  have P0 := Lib.hid (Blk.new w1 #[.int .u8 xc, .slice ya yn ym, .iface T (.agg u)] 72)
  have pb := (Below.refl w1.heap.size w1).alloc (Nat.le_refl _) (.cells #[.int .u8 xc, .slice ya yn ym, .iface T (.agg u)] 72)
  have HS := Lib.hid (StV.below pb hst)
  replace KB := Lib.hid (bnext KB.out pb)
  obtain ⟨q0, q1, q2⟩ := P0.out.c3
  clear pb hst
  go_wp2_with fail
  generalize w1.alloc (.cells #[.int .u8 xc, .slice ya yn ym, .iface T (.agg u)] 72) = wx at *
  refine (CQ _).out.mono ?_
  rintro e w2 ⟨rfl, rfl⟩
  go_wp2_with fail
  refine (CF _ _ _ HS.out).out.mono ?_
  rintro e w3 ⟨rb, cap, rfl, hF, hb⟩
  have HF := Lib.hid hF
  replace KB := Lib.hid (bnext KB.out hb)
  clear hb hF q0 q1 q2
  go_wp2_with fail
  refine (CW HF.out _ (Below.refl _ _)).out.mono ?_
  rintro e w4 ⟨bw, bm, m, F, lo, bl, rfl, k1, k2, k3, hb⟩
  replace KB := Lib.hid (bnext KB.out hb)
  have hEq := nb_congr (heads_pure HP.out k3 HF.out.top)
  have HH := heads_any w4 k1 k2
  rw [hEq] at HH
  replace HH := Lib.hid HH
  clear hb k1 k2 k3 hEq
  go_wp2_with fail
  refine HH.out.mono ?_
  rintro e w5 ⟨rfl, hb⟩
  replace KB := Lib.hid (bnext KB.out hb)
  clear hb
  go_wp2_with fail
  refine (implText _ _).mono ?_
  rintro e w6 ⟨rfl, hb⟩
  replace KB := Lib.hid (bnext KB.out hb)
  clear hb
  go_wp2_with fail
  go_ret2
  exact ⟨rfl, KB.out⟩
set_option maxRecDepth 100000 in
set_option maxHeartbeats 4000000 in
theorem implStrong_no (q s b : ByteArray) (h : ¬ ((IsT s ∧ IsP b) ∧ Set27 q)) (w : World) : Calls Try.prog 29 #[.string q, .string s, .string b] w (NoPost w) := by
  by_cases hx : IsT s ∧ IsP b
  · have hq : ¬ Set27 q := fun hq => h ⟨hx, hq⟩
    obtain ⟨⟨⟨t, ht, hs0⟩, hl⟩, ⟨⟨p, hp, he⟩, hl2⟩⟩ := hx
    have CL := fun w => Lib.hid (readLoop_yes s b ht hs0 hl hp he hl2 w)
    have CQ := fun w => Lib.hid (implRead_no q w hq)
    clear ht hs0 hl hp he hl2 hq h
    go_enter Try.func29, Try.ntmps29
    go_wp2_with fail
    refine (CL _).out.mono ?_
    rintro e w1 ⟨xc, ya, yn, ym, T, u, rfl, hst, hb⟩
    have KB := Lib.hid hb
    clear hb hst
    have pb := (Below.refl w1.heap.size w1).alloc (Nat.le_refl _) (.cells #[.int .u8 xc, .slice ya yn ym, .iface T (.agg u)] 72)
    replace KB := Lib.hid (bnext KB.out pb)
    clear pb
    go_wp2_with fail
    refine (CQ _).out.mono ?_
    rintro e w2 ⟨rfl, rfl⟩
    go_wp2_with fail
    go_ret2
    exact ⟨rfl, KB.out⟩
  · have CL := fun w => Lib.hid (readLoop_no s b hx w)
    by_cases hq : Set27 q
    · have CQ := fun w => Lib.hid (implRead_yes q w hq)
      clear hx hq h
      go_enter Try.func29, Try.ntmps29
      go_wp2_with fail
      refine (CL _).out.mono ?_
      rintro e w1 ⟨rfl, hb⟩
      have KB := Lib.hid hb
      clear hb
      have P0 := Lib.hid (Blk.new w1 #[.int .u8 0, .slice none 0 0, .nilIface] 72)
      have pb := (Below.refl w1.heap.size w1).alloc (Nat.le_refl _) (.cells #[.int .u8 0, .slice none 0 0, .nilIface] 72)
      replace KB := Lib.hid (bnext KB.out pb)
      clear pb
      go_wp2_with fail
      refine (CQ _).out.mono ?_
      rintro e w2 ⟨rfl, rfl⟩
      go_wp2_with fail
      go_ret2
      exact ⟨rfl, KB.out⟩
    · have CQ := fun w => Lib.hid (implRead_no q w hq)
      clear hx hq h
      go_enter Try.func29, Try.ntmps29
      go_wp2_with fail
      refine (CL _).out.mono ?_
      rintro e w1 ⟨rfl, hb⟩
      have KB := Lib.hid hb
      clear hb
      have P0 := Lib.hid (Blk.new w1 #[.int .u8 0, .slice none 0 0, .nilIface] 72)
      have pb := (Below.refl w1.heap.size w1).alloc (Nat.le_refl _) (.cells #[.int .u8 0, .slice none 0 0, .nilIface] 72)
      replace KB := Lib.hid (bnext KB.out pb)
      clear pb
      go_wp2_with fail
      refine (CQ _).out.mono ?_
      rintro e w2 ⟨rfl, rfl⟩
      go_wp2_with fail
      go_ret2
      exact ⟨rfl, KB.out⟩
end Go.Proofs.Ytcbdbbcipnmjoaa

namespace Go.Proofs.Ytcbdbbcipnmjoaa
open Go.RowKit Tm Go.Great Classical

def stH (F : Nat → Bool) (B : Nat → Nat → Bool) (H : Nat → Bool) : Nat → Bool := fun j => H j || postS (fun i => H i && F i) B 27 j
theorem stH_iff {F : Nat → Bool} {B : Nat → Nat → Bool} {H : Nat → Bool} {j : Nat} : stH F B H j = true ↔ H j = true ∨ ∃ i, i < 27 ∧ H i = true ∧ F i = true ∧ B i j = true := by
  unfold stH postS
  rw [Bool.or_eq_true, upto_iff]
  constructor
  · rintro (h | ⟨i, hi, h⟩)
    · exact .inl h
    · simp only [Bool.and_eq_true] at h
      exact .inr ⟨i, hi, h.1.1, h.1.2, h.2⟩
  · rintro (h | ⟨i, hi, h1, h2, h3⟩)
    · exact .inl h
    · exact .inr ⟨i, hi, by simp [h1, h2, h3]⟩
theorem stH_congr {F : Nat → Bool} {B : Nat → Nat → Bool} {H G : Nat → Bool} (h : ∀ i, i < 27 → H i = G i) : ∀ j, j < 27 → stH F B H j = stH F B G j := by
  intro j hj
  rw [Bool.eq_iff_iff, stH_iff, stH_iff, h j hj]
  constructor
  · rintro (h1 | ⟨i, hi, h1, h2⟩)
    · exact .inl h1
    · exact .inr ⟨i, hi, by rw [← h i hi]; exact h1, h2⟩
  · rintro (h1 | ⟨i, hi, h1, h2⟩)
    · exact .inl h1
    · exact .inr ⟨i, hi, by rw [h i hi]; exact h1, h2⟩
theorem stS_iff {F : Nat → Bool} {B : Nat → Nat → Bool} {S : Nat → Bool} {j : Nat} : stS F B S j = true ↔ ∃ q, q < 27 ∧ S q = true ∧ Star (HR F B) q j := by
  unfold stS
  rw [upto_iff]
  constructor
  · rintro ⟨q, hq, h⟩
    rw [Bool.and_eq_true, hdS_iff] at h
    exact ⟨q, hq, h⟩
  · rintro ⟨q, hq, h⟩
    exact ⟨q, hq, by rw [Bool.and_eq_true, hdS_iff]; exact h⟩
structure StInv (F : Nat → Bool) (B : Nat → Nat → Bool) (S H : Nat → Bool) : Prop where
  sub : ∀ j, j < 27 → S j = true → H j = true
  ins : ∀ j, j < 27 → H j = true → stS F B S j = true
theorem StInv.start (F : Nat → Bool) (B : Nat → Nat → Bool) (S : Nat → Bool) : StInv F B S S := ⟨fun _ _ h => h, fun j hj h => stS_iff.2 ⟨j, hj, h, .refl _⟩⟩
theorem StInv.step {F : Nat → Bool} {B : Nat → Nat → Bool} {S H : Nat → Bool} (h : StInv F B S H) : StInv F B S (stH F B H) where
  sub := fun j hj hs => stH_iff.2 (.inl (h.sub j hj hs))
  ins := by
    intro j hj hh
    rcases stH_iff.1 hh with h1 | ⟨i, hi, h1, h2, h3⟩
    · exact h.ins j hj h1
    · obtain ⟨q, hq, h4, h5⟩ := stS_iff.1 (h.ins i hi h1)
      exact stS_iff.2 ⟨q, hq, h4, h5.tail ⟨hi, hj, h2, h3⟩⟩
theorem StInv.done {F : Nat → Bool} {B : Nat → Nat → Bool} {S H : Nat → Bool} (h : StInv F B S H) (e : nb 27 (stH F B H) = nb 27 H) : nb 27 H = nb 27 (stS F B S) := by
  refine nb_congr fun j hj => ?_
  rw [Bool.eq_iff_iff]
  refine ⟨h.ins j hj, fun hs => ?_⟩
  obtain ⟨q, hq, h1, h2⟩ := stS_iff.1 hs
  have : ∀ u v : Nat, Star (HR F B) u v → H u = true → H v = true := by
    intro u v hst
    induction hst with
    | refl => exact id
    | head h3 _ ih =>
      intro hu
      refine ih ?_
      rw [← nb_inj e _ h3.2.1]
      exact stH_iff.2 (.inr ⟨_, h3.1, hu, h3.2.2.1, h3.2.2.2⟩)
  exact this q j h2 (h.sub q hq h1)
theorem stH_le {F : Nat → Bool} {B : Nat → Nat → Bool} {H : Nat → Bool} : nb 27 H ≤ nb 27 (stH F B H) := nb_mono fun _ _ h => stH_iff.2 (.inl h)
theorem stH_stop {F : Nat → Bool} {B : Nat → Nat → Bool} {H : Nat → Bool} (e : nb 27 H = nb 27 (stH F B H)) : nb 27 (stH F B (stH F B H)) = nb 27 (stH F B H) := nb_congr (stH_congr fun i hi => (nb_inj e i hi).symm)

set_option maxHeartbeats 1000000 in
theorem specL5_yes (s b : ByteArray) (w : World) (ht : IsT s) (hp : IsP b) : Calls Try.prog 61 #[.string s, .string b] w (Quiet (.bool true) w) := by
  have C := fun w => Lib.hid (specTest_yes s w ht.1 ht.2)
  have D := fun w => Lib.hid (specPV_yes b w hp.1 hp.2)
  clear ht hp
  go_enter Try.func61, Try.ntmps61
  go_wp2_with fail
  refine (C _).out.mono ?_
  rintro e w1 ⟨rfl, n0, rfl⟩
  go_wp2_with fail
  refine (D _).out.mono ?_
  rintro e w2 ⟨rfl, n1, rfl⟩
  go_wp2_with fail
  go_ret
  exact ⟨rfl, n0 + n1, by simp [World.drewN]⟩
set_option maxHeartbeats 1000000 in
theorem specL5_no (s b : ByteArray) (w : World) (h : ¬ (IsT s ∧ IsP b)) : Calls Try.prog 61 #[.string s, .string b] w (Quiet (.bool false) w) := by
  by_cases ht : IsT s
  · have hp : ¬ IsP b := fun hp => h ⟨ht, hp⟩
    have C := fun w => Lib.hid (specTest_yes s w ht.1 ht.2)
    have D := fun w => Lib.hid (specPV_no b w hp)
    clear ht hp h
    go_enter Try.func61, Try.ntmps61
    go_wp2_with fail
    refine (C _).out.mono ?_
    rintro e w1 ⟨rfl, n0, rfl⟩
    go_wp2_with fail
    refine (D _).out.mono ?_
    rintro e w2 ⟨rfl, n1, rfl⟩
    go_wp2_with fail
    go_ret
    exact ⟨rfl, n0 + n1, by simp [World.drewN]⟩
  · have C := fun w => Lib.hid (specTest_no s w ht)
    clear ht h
    go_enter Try.func61, Try.ntmps61
    go_wp2_with fail
    refine (C _).out.mono ?_
    rintro e w1 ⟨rfl, n0, rfl⟩
    go_wp2_with fail
    go_ret
    exact ⟨rfl, n0, rfl⟩
theorem run_bs {b : ByteArray} {p : Pg} (hp : p.ok false) (he : b.data.toList = p.ser) (hl : b.size ≤ 200) (w : World) : Calls Try.prog 34 #[.string b] w (AllPost (rT p) (rL p) (rK p) w) := by
  have := run_any p hp (ser_200 he hl) w
  rwa [← bs_of he] at this
theorem tb_of_nb {F G : Nat → Bool} (h : nb 27 F = nb 27 G) : tb F = tb G := tb_congr fun i hi => nb_inj h i hi
set_option maxRecDepth 100000 in
set_option maxHeartbeats 4000000 in
theorem specStrong_yes (q s b : ByteArray) {t : Tm} {p : Pg} (ht : Ok false true t) (hs0 : s.data.toList = t.ser) (hl : s.size ≤ 200) (hp : p.ok false) (he : b.data.toList = p.ser) (hl2 : b.size ≤ 200) (hq : Set27 q) (w : World) : Calls Try.prog 28 #[.string q, .string s, .string b] w (TextPost (stS (tst t) (rT p) (hs q.data.toList)) w) := by
  have CL := fun w => Lib.hid (specL5_yes s b w ⟨⟨t, ht, hs0⟩, hl⟩ ⟨⟨p, hp, he⟩, hl2⟩)
  have CQ := fun w => Lib.hid (specPredValid_yes q w hq)
  have CR := fun w => Lib.hid (run_bs hp he hl2 w)
  have CT := fun w => Lib.hid (specTest s t w (ok_wide ht) hs0 (by omega))
  have CM := fun w => Lib.hid (specMask q w hq)
  clear ht hs0 hl hp he hl2 hq
  go_enter Try.func28, Try.ntmps28
  go_wp2_with fail
  refine (CL _).out.mono ?_
  rintro e w1 ⟨rfl, n0, rfl⟩
  have KB := Lib.hid (bdrewN (Below.refl w.heap.size w) n0)
  go_wp2_with fail
  refine (CQ _).out.mono ?_
  rintro e w' ⟨rfl, rfl⟩
  go_wp2_with fail
  refine (CR _).out.mono ?_
  rintro e w2 ⟨rfl, hb⟩
  replace KB := Lib.hid (bnext KB.out hb)
  clear hb
  have k0 := Blk.new w2 (allC noT noS noS) 46
  have L0 := Lib.hid k0
  have K0 := Lib.hid (k0.row (allC (rT p) (rL p) (rK p)))
  have kb := Below.setRow ((Below.refl w2.heap.size w2).alloc (Nat.le_refl _) (.cells (allC noT noS noS) 46)) (g := w2.heap.size) (Nat.le_refl _) (allC (rT p) (rL p) (rK p))
  replace KB := Lib.hid (bnext KB.out kb)
  clear k0 kb
  go_wp2_with (first
    | (refine ar_alloc rfl rfl (some 8) rfl w2.heap.size rfl ?_)
    | (refine wpList_store_row rfl 46 _ _ rfl w2.heap.size (allC (rT p) (rL p) (rK p)) (by rfl) (by rfl) 46 (allC noT noS noS) L0.out (infoAll' _ _ _) (by rw [allC_size, allC_size]) (allC_one _ _ _) ?_))
  clear L0
  generalize hwx : (w2.alloc (.cells (allC noT noS noS) 46)).setRow w2.heap.size (allC (rT p) (rL p) (rK p)) = wx at *
  clear hwx
  obtain ⟨g, hg⟩ : ∃ g, w2.heap.size = g := ⟨_, rfl⟩
  rw [hg] at K0 ⊢
  clear hg
  refine (CT _).out.mono ?_
  rintro e w3 ⟨rfl, hb⟩
  replace KB := Lib.hid (bnext KB.out hb)
  replace K0 := Lib.hid (K0.out.kept hb)
  clear hb
  go_wp2_with fail
  refine (CM _).out.mono ?_
  rintro e w4 ⟨rfl, hb⟩
  replace KB := Lib.hid (bnext KB.out hb)
  replace K0 := Lib.hid (K0.out.kept hb)
  clear hb
  go_wp2_with fail
  go_loopw [10, 11] (fun v d wr => ∃ (H : Nat → Bool) (m : Int), v = .int .i64 (nb 27 H) ∧ d = .int .i64 m ∧ Hid (StInv (tst t) (rT p) (hs q.data.toList) H) ∧ Hid (m = (nb 27 H : Nat) → nb 27 (stH (tst t) (rT p) H) = nb 27 H) ∧ Hid (Blk wr g (allC (rT p) (rL p) (rK p)) 46) ∧ Hid (Below w.heap.size w wr)) (fun v d _ => (134217728 - (intOf v).toNat) * 2 + if intOf d = intOf v then 0 else 1)
  case atStart => exact ⟨hs q.data.toList, -1, rfl, rfl, StInv.start _ _ _, fun h => by have := nb_lt27 (hs q.data.toList); omega, K0, KB⟩
  case round =>
    clear K0 KB
    obtain ⟨H, m, rfl, rfl, RI, RD, R0, RB⟩ := hrel
    by_cases hm : m = (nb 27 H : Nat)
    · have hne : (m != ((nb 27 H : Nat) : Int)) = false := by rw [bne_eq_false_iff_eq]; exact hm
      have HF := Lib.hid (RI.out.done (RD.out hm))
      clear hm RD
      go_wp2_with fail
      refine (specTextS _ _).mono ?_
      rintro e w5 ⟨rfl, hb⟩
      replace RB := Lib.hid (bnext RB.out hb)
      clear hb
      go_wp2_with fail
      go_ret2
      exact ⟨by rw [← tb_of_nb HF.out]; rfl, RB.out⟩
    · have hne : (m != ((nb 27 H : Nat) : Int)) = true := by rw [bne_iff_ne]; exact hm
      have HM := Lib.hid hm
      have HA := Lib.hid (s_and H (tst t))
      have HO := Lib.hid (s_or H (postS (fun i => H i && tst t i) (rT p) 27))
      clear hm
      go_wp2_with (refine wpList_load_row rfl 46 _ rfl g (by rfl) 46 (allC (rT p) (rL p) (rK p)) (0, 0) _ R0.out undAll rfl (infoAll' _ _ _) ?_)
      rw [HA.out]
      refine (specPost (rT p) (rL p) (rK p) (fun i => H i && tst t i) _).mono ?_
      rintro e w5 ⟨rfl, hb⟩
      replace RB := Lib.hid (bnext RB.out hb)
      replace R0 := Lib.hid (R0.out.kept hb)
      clear hb hne
      go_wp2_with fail
      rw [HO.out]
      refine ⟨⟨stH (tst t) (rT p) H, nb 27 H, rfl, rfl, RI.out.step, ?_, R0, RB⟩, ?_⟩
      · exact fun h => stH_stop (by exact_mod_cast h)
      · have h1 := stH_le (F := tst t) (B := rT p) (H := H)
        have h2 := nb_lt27 (stH (tst t) (rT p) H)
        have h3 := HM.out
        show (134217728 - ((nb 27 (stH (tst t) (rT p) H) : Nat) : Int).toNat) * 2 + (if ((nb 27 H : Nat) : Int) = ((nb 27 (stH (tst t) (rT p) H) : Nat) : Int) then 0 else 1) < (134217728 - ((nb 27 H : Nat) : Int).toNat) * 2 + (if m = ((nb 27 H : Nat) : Int) then 0 else 1)
        rw [if_neg h3]
        split <;> omega
set_option maxRecDepth 100000 in
set_option maxHeartbeats 4000000 in
theorem specStrong_no (q s b : ByteArray) (h : ¬ ((IsT s ∧ IsP b) ∧ Set27 q)) (hm : q.size ≤ maxLen) (w : World) : Calls Try.prog 28 #[.string q, .string s, .string b] w (NoPost w) := by
  by_cases hx : IsT s ∧ IsP b
  · have hq : ¬ Set27 q := fun hq => h ⟨hx, hq⟩
    have CL := fun w => Lib.hid (specL5_yes s b w hx.1 hx.2)
    have CQ := fun w => Lib.hid (specPredValid_no q w hq hm)
    clear hx hq h
    go_enter Try.func28, Try.ntmps28
    go_wp2_with fail
    refine (CL _).out.mono ?_
    rintro e w1 ⟨rfl, n0, rfl⟩
    go_wp2_with fail
    refine (CQ _).out.mono ?_
    rintro e w' ⟨rfl, rfl⟩
    go_wp2_with fail
    go_ret2
    exact ⟨rfl, bdrewN (Below.refl _ _) n0⟩
  · have CL := fun w => Lib.hid (specL5_no s b w hx)
    clear hx h
    go_enter Try.func28, Try.ntmps28
    go_wp2_with fail
    refine (CL _).out.mono ?_
    rintro e w1 ⟨rfl, n0, rfl⟩
    go_wp2_with fail
    go_ret2
    exact ⟨rfl, bdrewN (Below.refl _ _) n0⟩
end Go.Proofs.Ytcbdbbcipnmjoaa

namespace Go.Proofs.Ytcbdbbcipnmjoaa
open Go.RowKit Tm Go.Great Classical

def ixh (x y z : Int) : Nat := (x + 3 * y + 9 * z).toNat
theorem ixh_lt {x y z : Int} (h : st3 x y z = true) : ixh x y z < 27 ∧ ((ixh x y z : Nat) : Int) = x + 3 * y + 9 * z := by
  have h := st3_lt h
  unfold ixh; omega
set_option maxRecDepth 100000 in
set_option maxHeartbeats 4000000 in
theorem implHead_yes (s b : ByteArray) {t : Tm} {p : Pg} (ht : Ok false true t) (hs0 : s.data.toList = t.ser) (hl : s.size ≤ 200) (hp : p.ok false) (he : b.data.toList = p.ser) (hl2 : b.size ≤ 200) (x y z : Int) (hst : st3 x y z = true) (w : World) : Calls Try.prog 17 #[.string s, .string b, .agg #[.int .i64 x, .int .i64 y, .int .i64 z]] w (TextPost (hdS (tst t) (rT p) (ixh x y z)) w) := by
  have CL := fun w => Lib.hid (readLoop_yes s b ht hs0 hl hp he hl2 w)
  have CF := fun B v w hv => Lib.hid (flowOf_any (.whl t p) B v w hv (whl_ok ht hp) (whl_all he hl2))
  have CW := fun {w1 : World} {B : Nat} {sp : Value} (hF : FlowOk w1 B sp (flS (.whl t p)) (flG (.whl t p))) (w : World) (hb : Below w1.heap.size w1 w) => Lib.hid (walkFrom_any hF (fun j => j == ixh x y z) w hb)
  have hi := ixh_lt hst
  have V := fun w => Lib.hid (implStateValid x y z w)
  rw [hst] at V
  have I := fun w => Lib.hid (implIx_yes x y z w hst)
  rw [← hi.2] at I
  have W0 := fun w => Lib.hid (implWith0 (ixh x y z) w hi.1)
  have HI := Lib.hid hi.1
  have HP := Lib.hid hp
  have P0 := Lib.hid (Blk.new w #[.int .i64 x, .int .i64 y, .int .i64 z] 28)
  have KB := Lib.hid ((Below.refl w.heap.size w).alloc (Nat.le_refl _) (.cells #[.int .i64 x, .int .i64 y, .int .i64 z] 28))
  clear ht hs0 hl hp he hl2 hi hst
  go_enter Try.func17, Try.ntmps17
  go_wp2_with fail
  generalize w.alloc (.cells #[.int .i64 x, .int .i64 y, .int .i64 z] 28) = w0 at *
  refine (CL _).out.mono ?_
  rintro e w1 ⟨xc, ya, yn, ym, T, u, rfl, hst, hb⟩
  replace P0 := Lib.hid (P0.out.kept hb)
  replace KB := Lib.hid (bnext KB.out hb)
  clear hb
  have Q0 := Lib.hid (Blk.new w1 #[.int .u8 xc, .slice ya yn ym, .iface T (.agg u)] 72)
  have pb := (Below.refl w1.heap.size w1).alloc (Nat.le_refl _) (.cells #[.int .u8 xc, .slice ya yn ym, .iface T (.agg u)] 72)
  have HS := Lib.hid (StV.below pb hst)
  replace P0 := Lib.hid (P0.out.kept pb)
  replace KB := Lib.hid (bnext KB.out pb)
  obtain ⟨p0, p1, p2⟩ := P0.out.c3
  clear pb hst
  go_wp2_with fail
  clear p0 p1 p2
  generalize w1.alloc (.cells #[.int .u8 xc, .slice ya yn ym, .iface T (.agg u)] 72) = wx at *
  obtain ⟨g, hg⟩ : ∃ g, w1.heap.size = g := ⟨_, rfl⟩
  rw [hg] at Q0 ⊢
  clear hg
  refine (V _).out.mono ?_
  rintro e w2 ⟨rfl, hb⟩
  replace P0 := Lib.hid (P0.out.kept hb)
  replace Q0 := Lib.hid (Q0.out.kept hb)
  replace HS := Lib.hid (StV.below hb HS.out)
  replace KB := Lib.hid (bnext KB.out hb)
  clear hb
  obtain ⟨p0, p1, p2⟩ := P0.out.c3
  go_wp2_with fail
  clear p0 p1 p2
  refine (I _).out.mono ?_
  rintro e w3 ⟨rfl, hb⟩
  replace Q0 := Lib.hid (Q0.out.kept hb)
  replace HS := Lib.hid (StV.below hb HS.out)
  replace KB := Lib.hid (bnext KB.out hb)
  clear hb
  go_wp2_with fail
  refine (W0 _).out.mono ?_
  rintro e w' ⟨rfl, rfl⟩
  obtain ⟨q0, q1, q2⟩ := Q0.out.c3
  go_wp2_with fail
  refine (CF _ _ _ HS.out).out.mono ?_
  rintro e w4 ⟨rb, cap, rfl, hF, hb⟩
  have HF := Lib.hid hF
  replace KB := Lib.hid (bnext KB.out hb)
  clear hb hF q0 q1 q2
  go_wp2_with fail
  refine (CW HF.out _ (Below.refl _ _)).out.mono ?_
  rintro e w5 ⟨bw, bm, m, F, lo, bl, rfl, k1, k2, k3, hb⟩
  replace KB := Lib.hid (bnext KB.out hb)
  have hEq := nb_congr (fun j hj => (heads_pure HP.out k3 HF.out.top j hj).trans (stS_one (F := tst t) (B := rT p) (j := j) HI.out))
  have HH := heads_any w5 k1 k2
  rw [hEq] at HH
  replace HH := Lib.hid HH
  clear hb k1 k2 k3 hEq
  go_wp2_with fail
  refine HH.out.mono ?_
  rintro e w6 ⟨rfl, hb⟩
  replace KB := Lib.hid (bnext KB.out hb)
  clear hb
  go_wp2_with fail
  refine (implText _ _).mono ?_
  rintro e w7 ⟨rfl, hb⟩
  replace KB := Lib.hid (bnext KB.out hb)
  clear hb
  go_wp2_with fail
  go_ret2
  exact ⟨rfl, KB.out⟩
set_option maxRecDepth 100000 in
set_option maxHeartbeats 4000000 in
theorem implHead_no (s b : ByteArray) (x y z : Int) (h : ¬ ((IsT s ∧ IsP b) ∧ st3 x y z = true)) (w : World) : Calls Try.prog 17 #[.string s, .string b, .agg #[.int .i64 x, .int .i64 y, .int .i64 z]] w (NoPost w) := by
  have V := fun w => Lib.hid (implStateValid x y z w)
  have P0 := Lib.hid (Blk.new w #[.int .i64 x, .int .i64 y, .int .i64 z] 28)
  have KB := Lib.hid ((Below.refl w.heap.size w).alloc (Nat.le_refl _) (.cells #[.int .i64 x, .int .i64 y, .int .i64 z] 28))
  by_cases hx : IsT s ∧ IsP b
  · have hst : st3 x y z = false := by
      cases hv : st3 x y z
      · rfl
      · exact absurd ⟨hx, hv⟩ h
    rw [hst] at V
    obtain ⟨⟨⟨t, ht, hs0⟩, hl⟩, ⟨⟨p, hp, he⟩, hl2⟩⟩ := hx
    have CL := fun w => Lib.hid (readLoop_yes s b ht hs0 hl hp he hl2 w)
    clear ht hs0 hl hp he hl2 hst h
    go_enter Try.func17, Try.ntmps17
    go_wp2_with fail
    generalize w.alloc (.cells #[.int .i64 x, .int .i64 y, .int .i64 z] 28) = w0 at *
    refine (CL _).out.mono ?_
    rintro e w1 ⟨xc, ya, yn, ym, T, u, rfl, hst, hb⟩
    replace P0 := Lib.hid (P0.out.kept hb)
    replace KB := Lib.hid (bnext KB.out hb)
    clear hb hst
    have pb := (Below.refl w1.heap.size w1).alloc (Nat.le_refl _) (.cells #[.int .u8 xc, .slice ya yn ym, .iface T (.agg u)] 72)
    replace P0 := Lib.hid (P0.out.kept pb)
    replace KB := Lib.hid (bnext KB.out pb)
    clear pb
    obtain ⟨p0, p1, p2⟩ := P0.out.c3
    go_wp2_with fail
    refine (V _).out.mono ?_
    rintro e w2 ⟨rfl, hb⟩
    replace KB := Lib.hid (bnext KB.out hb)
    clear hb
    go_wp2_with fail
    go_ret2
    exact ⟨rfl, KB.out⟩
  · have CL := fun w => Lib.hid (readLoop_no s b hx w)
    clear hx h
    go_enter Try.func17, Try.ntmps17
    go_wp2_with fail
    generalize w.alloc (.cells #[.int .i64 x, .int .i64 y, .int .i64 z] 28) = w0 at *
    refine (CL _).out.mono ?_
    rintro e w1 ⟨rfl, hb⟩
    replace KB := Lib.hid (bnext KB.out hb)
    clear hb
    have pb := (Below.refl w1.heap.size w1).alloc (Nat.le_refl _) (.cells #[.int .u8 0, .slice none 0 0, .nilIface] 72)
    replace KB := Lib.hid (bnext KB.out pb)
    clear pb
    go_wp2_with fail
    go_ret2
    exact ⟨rfl, KB.out⟩
end Go.Proofs.Ytcbdbbcipnmjoaa

namespace Go.Proofs.Ytcbdbbcipnmjoaa
open Go.RowKit Tm Go.Great Classical

theorem cells3 {w w' : World} {b : Nat} {x y z : Value} {t : TypeId} (h : Blk w b #[x, y, z] t) (hb : Below w.heap.size w w') : Below w.heap.size w w' ∧ w'.cell? ⟨b, 0, none⟩ = some x ∧ w'.cell? ⟨b, 1, none⟩ = some y ∧ w'.cell? ⟨b, 2, none⟩ = some z := ⟨hb, (h.kept hb).c3.1, (h.kept hb).c3.2.1, (h.kept hb).c3.2.2⟩
set_option maxRecDepth 100000 in
set_option maxHeartbeats 4000000 in
theorem specHead_yes (s b : ByteArray) {t : Tm} {p : Pg} (ht : Ok false true t) (hs0 : s.data.toList = t.ser) (hl : s.size ≤ 200) (hp : p.ok false) (he : b.data.toList = p.ser) (hl2 : b.size ≤ 200) (x y z : Int) (hst : st3 x y z = true) (w : World) : Calls Try.prog 16 #[.string s, .string b, .agg #[.int .i64 x, .int .i64 y, .int .i64 z]] w (TextPost (hdS (tst t) (rT p) (ixh x y z)) w) := by
  have C1 := fun w => Lib.hid (specTest_yes s w ⟨t, ht, hs0⟩ hl)
  have C2 := fun w => Lib.hid (specPV_yes b w ⟨p, hp, he⟩ hl2)
  have V := fun w => Lib.hid (specStateValid x y z w)
  rw [hst] at V
  have hi := ixh_lt hst
  have I := fun w => Lib.hid (specIx0 x y z w hst)
  rw [← hi.2] at I
  have CR := fun w => Lib.hid (run_bs hp he hl2 w)
  have CT := fun w => Lib.hid (specTest s t w (ok_wide ht) hs0 (by omega))
  have CH := fun w => Lib.hid (specHeads (tst t) (rT p) (rL p) (rK p) (ixh x y z) hi.1 w)
  have CX := fun w => Lib.hid (specTextS (hdS (tst t) (rT p) (ixh x y z)) w)
  have P0 := Lib.hid (Blk.new w #[.int .i64 x, .int .i64 y, .int .i64 z] 28)
  have KB := Lib.hid ((Below.refl w.heap.size w).alloc (Nat.le_refl _) (.cells #[.int .i64 x, .int .i64 y, .int .i64 z] 28))
  clear ht hs0 hl hp he hl2 hi hst
  go_enter Try.func16, Try.ntmps16
  go_wp2_with fail
  generalize w.alloc (.cells #[.int .i64 x, .int .i64 y, .int .i64 z] 28) = w0 at *
  refine (C1 _).out.mono ?_
  rintro e w1 ⟨rfl, n0, rfl⟩
  replace P0 := Lib.hid (P0.out.kept (bdrewN (Below.refl _ _) n0))
  replace KB := Lib.hid (bdrewN KB.out n0)
  go_wp2_with fail
  refine (C2 _).out.mono ?_
  rintro e w2 ⟨rfl, n1, rfl⟩
  replace P0 := Lib.hid (P0.out.kept (bdrewN (Below.refl _ _) n1))
  replace KB := Lib.hid (bdrewN KB.out n1)
  generalize (w0.drewN n0).drewN n1 = wa at *
  obtain ⟨p0, p1, p2⟩ := P0.out.c3
  go_wp2_with fail
  clear p0 p1 p2
  refine (V _).out.mono ?_
  rintro e w3 ⟨rfl, hb⟩
  replace P0 := Lib.hid (P0.out.kept hb)
  replace KB := Lib.hid (bnext KB.out hb)
  clear hb
  go_wp2_with fail
  obtain ⟨p0, p1, p2⟩ := P0.out.c3
  have hbb := (Below.refl w3.heap.size w3).drew
  go_region_held3 (fun w' => Below w3.heap.size w3 w' ∧ w'.cell? ⟨w.heap.size, 0, none⟩ = some (.int .i64 x) ∧ w'.cell? ⟨w.heap.size, 1, none⟩ = some (.int .i64 y) ∧ w'.cell? ⟨w.heap.size, 2, none⟩ = some (.int .i64 z))
    ((first
      | exact cells3 P0.out (by assumption)
      | (go_split_ands; exact cells3 P0.out (bnext (by assumption) hq))))
    (first
      | (go_at_call 43; (with_reducible refine (CT _).out.mono ?_); rintro e w5 ⟨rfl, hq⟩)
      | (go_at_call 34; (with_reducible refine (CR _).out.mono ?_); rintro e w5 ⟨rfl, hq⟩)
      | (go_at_call 35; (with_reducible refine (I _).out.mono ?_); rintro e w5 ⟨rfl, hq⟩)
      | (go_at_call 42; (with_reducible refine (CH _).out.mono ?_); rintro e w5 ⟨rfl, hq⟩)
      | (go_at_call 36; (with_reducible refine (CX _).out.mono ?_); rintro e w5 ⟨rfl, hq⟩))
  all_goals
    go_split_ands
    have HF := Lib.hid (bnext KB.out (by assumption))
    go_wp2_with fail
    go_ret2
    exact ⟨rfl, HF.out⟩
set_option maxRecDepth 100000 in
set_option maxHeartbeats 4000000 in
theorem specHead_no (s b : ByteArray) (x y z : Int) (h : ¬ ((IsT s ∧ IsP b) ∧ st3 x y z = true)) (w : World) : Calls Try.prog 16 #[.string s, .string b, .agg #[.int .i64 x, .int .i64 y, .int .i64 z]] w (NoPost w) := by
  have V := fun w => Lib.hid (specStateValid x y z w)
  have P0 := Lib.hid (Blk.new w #[.int .i64 x, .int .i64 y, .int .i64 z] 28)
  have KB := Lib.hid ((Below.refl w.heap.size w).alloc (Nat.le_refl _) (.cells #[.int .i64 x, .int .i64 y, .int .i64 z] 28))
  by_cases ht : IsT s
  · have C1 := fun w => Lib.hid (specTest_yes s w ht.1 ht.2)
    by_cases hp : IsP b
    · have C2 := fun w => Lib.hid (specPV_yes b w hp.1 hp.2)
      have hst : st3 x y z = false := by
        cases hv : st3 x y z
        · rfl
        · exact absurd ⟨⟨ht, hp⟩, hv⟩ h
      rw [hst] at V
      clear ht hp hst h
      go_enter Try.func16, Try.ntmps16
      go_wp2_with fail
      generalize w.alloc (.cells #[.int .i64 x, .int .i64 y, .int .i64 z] 28) = w0 at *
      refine (C1 _).out.mono ?_
      rintro e w1 ⟨rfl, n0, rfl⟩
      replace P0 := Lib.hid (P0.out.kept (bdrewN (Below.refl _ _) n0))
      replace KB := Lib.hid (bdrewN KB.out n0)
      go_wp2_with fail
      refine (C2 _).out.mono ?_
      rintro e w2 ⟨rfl, n1, rfl⟩
      replace P0 := Lib.hid (P0.out.kept (bdrewN (Below.refl _ _) n1))
      replace KB := Lib.hid (bdrewN KB.out n1)
      generalize (w0.drewN n0).drewN n1 = wa at *
      obtain ⟨p0, p1, p2⟩ := P0.out.c3
      go_wp2_with fail
      refine (V _).out.mono ?_
      rintro e w3 ⟨rfl, hb⟩
      replace KB := Lib.hid (bnext KB.out hb)
      clear hb
      go_wp2_with fail
      go_ret2
      exact ⟨rfl, KB.out⟩
    · have C2 := fun w => Lib.hid (specPV_no b w hp)
      clear ht hp h
      go_enter Try.func16, Try.ntmps16
      go_wp2_with fail
      generalize w.alloc (.cells #[.int .i64 x, .int .i64 y, .int .i64 z] 28) = w0 at *
      refine (C1 _).out.mono ?_
      rintro e w1 ⟨rfl, n0, rfl⟩
      replace KB := Lib.hid (bdrewN KB.out n0)
      go_wp2_with fail
      refine (C2 _).out.mono ?_
      rintro e w2 ⟨rfl, n1, rfl⟩
      replace KB := Lib.hid (bdrewN KB.out n1)
      generalize (w0.drewN n0).drewN n1 = wa at *
      go_wp2_with fail
      go_ret2
      exact ⟨rfl, KB.out⟩
  · have C1 := fun w => Lib.hid (specTest_no s w ht)
    clear ht h
    go_enter Try.func16, Try.ntmps16
    go_wp2_with fail
    generalize w.alloc (.cells #[.int .i64 x, .int .i64 y, .int .i64 z] 28) = w0 at *
    refine (C1 _).out.mono ?_
    rintro e w1 ⟨rfl, n0, rfl⟩
    replace KB := Lib.hid (bdrewN KB.out n0)
    go_wp2_with fail
    go_ret2
    exact ⟨rfl, KB.out⟩
end Go.Proofs.Ytcbdbbcipnmjoaa
