import Derived.Test.YtgkoljphndgoeaaGreatDoorBase
import Derived.Test.YtgkoljphndgoeaaGreatDoorPure
import Derived.Lib.OthersKept
import Derived.Test.YtgkoljphndgoeaaGreatDoorGPure
import Derived.Test.YtgkoljphndgoeaaGreatDoorShelf
import Derived.WalkSmall
import Derived.Deep.LoopGhost
import Derived.BigQuiet
import Derived.Deep.QuietTactic
import Derived.Deep.RegionHeld3
import Derived.Deep.AppendLies
import Derived.Defers
import Derived.Recover
namespace Go.Proofs.YtgkoljphndgoeaaGreatDoor
open Go.RowKit
def kcode (k : Bool) : Int := if k then 116 else 101
def kbyte (k : Bool) : UInt8 := if k then 116 else 101
def kstr (l : List Bool) : ByteArray := ⟨(l.map kbyte).toArray⟩
theorem u8_of_nat {c : UInt8} {n : Nat} (h : c.toNat = n) (hn : n < 256) : c = UInt8.ofNat n := by
 apply UInt8.toNat_inj.1
 rw [h]; simp; omega
theorem opk_cases {k : Bool} {c : UInt8} {l : List Bool} (h : opk false k c = some l) :
  (k = false ∧ l = [] ∧ (c = 120 ∨ c = 121 ∨ c = 122 ∨ c = 48 ∨ c = 49 ∨ c = 50)) ∨ (k = false ∧ l = [false, false] ∧ (c = 43 ∨ c = 45 ∨ c = 42)) ∨
  (k = true ∧ l = [] ∧ (c = 116 ∨ c = 102)) ∨ (k = true ∧ l = [false, false] ∧ (c = 61 ∨ c = 60)) ∨ (k = true ∧ l = [true] ∧ c = 33) ∨ (k = true ∧ l = [true, true] ∧ (c = 38 ∨ c = 124)) := by
 unfold opk isVarB isDigB isOpB at h
 cases k <;> simp at h
 ·split at h
  ·rename_i hh; simp at h; subst h; simp; rcases hh with ((hh | hh) | hh) | ((hh | hh) | hh) <;> simp [hh]
  ·split at h
   ·rename_i hh; simp at h; subst h; simp; rcases hh with (hh | hh) | hh <;> simp [hh]
   ·simp at h
 ·split at h
  ·rename_i hh; simp at h; subst h; simp; rcases hh with hh | hh <;> simp [hh]
  ·split at h
   ·rename_i hh; simp at h; subst h; simp; rcases hh with hh | hh <;> simp [hh]
   ·split at h
    ·rename_i hh; simp at h; subst h; simp [hh]
    ·split at h
     ·rename_i hh; simp at h; subst h; simp; rcases hh with hh | hh <;> simp [hh]
     ·simp at h
set_option maxHeartbeats 4000000 in
theorem kinds_ok (k : Bool) (c : UInt8) (l : List Bool) (w : World) (h : opk false k c = some l) :
  Calls Tryz.prog 255 #[.int .u8 (kcode k), .int .i32 c.toNat] w fun e w' => e = .returned (.string (kstr l)) ∧ w = w' := by
 have hc := opk_cases h
 clear h
 rcases hc with ⟨rfl, rfl, h⟩ | ⟨rfl, rfl, h⟩ | ⟨rfl, rfl, h⟩ | ⟨rfl, rfl, h⟩ | ⟨rfl, rfl, h⟩ | ⟨rfl, rfl, h⟩
 ·rcases h with rfl | rfl | rfl | rfl | rfl | rfl <;> (go_enter Tryz.func255, Tryz.ntmps255; go_wp2; go_ret; exact ⟨rfl, rfl⟩)
 ·rcases h with rfl | rfl | rfl <;> (go_enter Tryz.func255, Tryz.ntmps255; go_wp2; go_ret; exact ⟨rfl, rfl⟩)
 ·rcases h with rfl | rfl <;> (go_enter Tryz.func255, Tryz.ntmps255; go_wp2; go_ret; exact ⟨rfl, rfl⟩)
 ·rcases h with rfl | rfl <;> (go_enter Tryz.func255, Tryz.ntmps255; go_wp2; go_ret; exact ⟨rfl, rfl⟩)
 ·subst h; (go_enter Tryz.func255, Tryz.ntmps255; go_wp2; go_ret; exact ⟨rfl, rfl⟩)
 ·rcases h with rfl | rfl <;> (go_enter Tryz.func255, Tryz.ntmps255; go_wp2; go_ret; exact ⟨rfl, rfl⟩)
theorem ne_of_opk {k : Bool} {r : Int} (h : ∀ c : UInt8, (c.toNat : Int) = r → opk false k c = none) (d : UInt8) (hd : opk false k d ≠ none) : (r == (d.toNat : Int)) = false := by
 rw [beq_eq_false_iff_ne]
 rintro rfl
 exact hd (h d rfl)
def Panics (w : World) (e : Ending) (w' : World) : Prop := ∃ v, e = .panicked [{ v := .iface 9 v, recovered := false }] ∧ w = w'
set_option maxHeartbeats 4000000 in
theorem kinds_bad (k : Bool) (r : Int) (w : World) (h : ∀ c : UInt8, (c.toNat : Int) = r → opk false k c = none) :
  Calls Tryz.prog 255 #[.int .u8 (kcode k), .int .i32 r] w (Panics w) := by
 cases k
 ·have h0 := ne_of_opk h 120 (by decide); have h1 := ne_of_opk h 121 (by decide); have h2 := ne_of_opk h 122 (by decide)
  have h3 := ne_of_opk h 48 (by decide); have h4 := ne_of_opk h 49 (by decide); have h5 := ne_of_opk h 50 (by decide)
  have h6 := ne_of_opk h 43 (by decide); have h7 := ne_of_opk h 45 (by decide); have h8 := ne_of_opk h 42 (by decide)
  simp at h0 h1 h2 h3 h4 h5 h6 h7 h8
  clear h
  go_enter Tryz.func255, Tryz.ntmps255
  go_wp2
  exact ⟨rfl, _, rfl, rfl⟩
 ·have h0 := ne_of_opk h 116 (by decide); have h1 := ne_of_opk h 102 (by decide); have h2 := ne_of_opk h 61 (by decide)
  have h3 := ne_of_opk h 60 (by decide); have h4 := ne_of_opk h 33 (by decide); have h5 := ne_of_opk h 38 (by decide)
  have h6 := ne_of_opk h 124 (by decide)
  simp at h0 h1 h2 h3 h4 h5 h6
  clear h
  go_enter Tryz.func255, Tryz.ntmps255
  go_wp2
  exact ⟨rfl, _, rfl, rfl⟩
end Go.Proofs.YtgkoljphndgoeaaGreatDoor
namespace Go.Proofs.YtgkoljphndgoeaaGreatDoor
open Go.RowKit Tm
def lv (c : UInt8) : Value := .int .u8 c.toNat
def RepT (w : World) (B : Nat) : Tm → Value → Value → Prop
 | .leaf c, x, y => x = lv c ∧ ∃ a n, y = .slice a 0 n
 | .un c a, x, y => x = lv c ∧ ∃ b n x1 y1, y = .slice (some ⟨b, 0, none⟩) 1 n ∧ B ≤ b ∧ w.cell? ⟨b, 0, none⟩ = some x1 ∧ w.cell? ⟨b, 1, none⟩ = some y1 ∧ RepT w B a x1 y1
 | .bin c a d, x, y => x = lv c ∧ ∃ b n x1 y1 x2 y2, y = .slice (some ⟨b, 0, none⟩) 2 n ∧ B ≤ b ∧ w.cell? ⟨b, 0, none⟩ = some x1 ∧ w.cell? ⟨b, 1, none⟩ = some y1 ∧
   w.cell? ⟨b, 2, none⟩ = some x2 ∧ w.cell? ⟨b, 3, none⟩ = some y2 ∧ RepT w B a x1 y1 ∧ RepT w B d x2 y2
def RepAt (w : World) (B b o : Nat) (t : Tm) : Prop := ∃ x y, w.cell? ⟨b, o, none⟩ = some x ∧ w.cell? ⟨b, o + 1, none⟩ = some y ∧ RepT w B t x y
theorem RepT.forms {w : World} {B : Nat} {t : Tm} {x y : Value} (h : RepT w B t x y) : ∃ (c : Int) (a : Option Addr) (n m : Nat), x = .int .u8 c ∧ y = .slice a n m := by
 cases t with
 | leaf c => obtain ⟨rfl, a, n, rfl⟩ := h; exact ⟨_, _, _, _, rfl, rfl⟩
 | un c a => obtain ⟨rfl, b, n, x1, y1, rfl, _⟩ := h; exact ⟨_, _, _, _, rfl, rfl⟩
 | bin c a d => obtain ⟨rfl, b, n, x1, y1, x2, y2, rfl, _⟩ := h; exact ⟨_, _, _, _, rfl, rfl⟩
theorem cell_lt {w : World} {b o : Nat} {v : Value} (h : w.cell? ⟨b, o, none⟩ = some v) : b < w.heap.size := World.block_lt_of_cell? w ⟨b, o, none⟩ h
theorem RepT.keep {w w' : World} {B B' : Nat} (hc : ∀ b o v, B ≤ b → w.cell? ⟨b, o, none⟩ = some v → w'.cell? ⟨b, o, none⟩ = some v) (hB : B' ≤ B) : ∀ {t : Tm} {x y : Value}, RepT w B t x y → RepT w' B' t x y := by
 intro t
 induction t with
 | leaf c => exact fun h => h
 | un c a ih =>
  rintro x y ⟨h0, b, n, x1, y1, h1, hb, h2, h3, h4⟩
  exact ⟨h0, b, n, x1, y1, h1, by omega, hc _ _ _ hb h2, hc _ _ _ hb h3, ih h4⟩
 | bin c a d iha ihd =>
  rintro x y ⟨h0, b, n, x1, y1, x2, y2, h1, hb, h2, h3, h4, h5, h6, h7⟩
  exact ⟨h0, b, n, x1, y1, x2, y2, h1, by omega, hc _ _ _ hb h2, hc _ _ _ hb h3, hc _ _ _ hb h4, hc _ _ _ hb h5, iha h6, ihd h7⟩
theorem RepT.below {w w' : World} {B : Nat} (hb : Below w.heap.size w w') {t : Tm} {x y : Value} (h : RepT w B t x y) : RepT w' B t x y :=
 h.keep (fun _ _ _ _ h => (hb.cell (p := ⟨_, _, none⟩) (cell_lt h)).trans h) (Nat.le_refl _)
structure Hole where
 kind : Bool
 b : Nat
 o : Nat
def kv (k : Bool) : Value := .int .u8 (kcode k)
def stk : List Hole → List Value
 | [] => []
 | p :: L => stk L ++ [kv p.kind, .pointer (some ⟨p.b, p.o, none⟩)]
def TB (w : World) (b : Nat) (cur : Array Value) : Prop := w.heap[b]? = some (.cells cur 110 (0, 0))
def InHoles (L : List Hole) (b o : Nat) : Prop := ∃ p ∈ L, p.b = b ∧ (o = p.o ∨ o = p.o + 1)
def Keeps (base : Nat) (w w' : World) (L : List Hole) : Prop := ∀ b o v, base ≤ b → (∃ cur, TB w b cur) → w.cell? ⟨b, o, none⟩ = some v → ¬ InHoles L b o → w'.cell? ⟨b, o, none⟩ = some v
def RepL (w : World) (B : Nat) : List Hole → List Tm → Prop
 | [], [] => True
 | p :: L, t :: ts => RepAt w B p.b p.o t ∧ RepL w B L ts
 | _, _ => False
structure Pend (w : World) (base : Nat) (L : List Hole) (F : List Tm → Tm) (rb : Nat) : Prop where
 cells : ∀ p ∈ L, base ≤ p.b ∧ p.o % 2 = 0 ∧ ∃ cur, TB w p.b cur ∧ p.o + 1 < cur.size
 apart : L.Pairwise fun p q => ¬ (p.b = q.b ∧ p.o = q.o)
 rep : ∀ w' ts, RepL w' base L ts → Keeps base w w' L → RepAt w' base rb 0 (F ts)
theorem TB.cell {w : World} {b : Nat} {cur : Array Value} (h : TB w b cur) (i : Nat) : w.cell? ⟨b, i, none⟩ = cur[i]? := cell_of_row w b i cur _ (0, 0) h
theorem TB.frozen {w : World} {b : Nat} {cur : Array Value} (h : TB w b cur) (i : Nat) : w.frozen? ⟨b, i, none⟩ = false := by unfold TB at h; simp [World.frozen?, h]
theorem TB.lt {w : World} {b : Nat} {cur : Array Value} (h : TB w b cur) : b < w.heap.size := (Array.getElem?_eq_some_iff.1 h).1
theorem Pend.keep {w w' : World} {base : Nat} {L : List Hole} {F : List Tm → Tm} {rb : Nat} (h : Pend w base L F rb) (hk : ∀ b cur, TB w b cur → TB w' b cur) : Pend w' base L F rb where
 cells := fun p hp => by
  obtain ⟨h1, h2, cur, h3, h4⟩ := h.cells p hp
  exact ⟨h1, h2, cur, hk _ _ h3, h4⟩
 apart := h.apart
 rep := fun w2 ts hr hkeep => h.rep w2 ts hr fun b o v hB ⟨cur, hb⟩ hc hn =>
  hkeep b o v hB ⟨cur, hk _ _ hb⟩ (by rw [(hk _ _ hb).cell, ← hb.cell]; exact hc) hn
end Go.Proofs.YtgkoljphndgoeaaGreatDoor
namespace Go.Proofs.YtgkoljphndgoeaaGreatDoor
open Go.RowKit
def RepF (w : World) (B : Nat) : Fo → Nat → Nat → Prop
 | .nil, _, _ => True
 | .nd c kids rest, b, o => (∃ x y, w.cell? ⟨b, o, none⟩ = some x ∧ w.cell? ⟨b, o + 1, none⟩ = some y ∧ x = lv c ∧ ∃ a n, y = .slice a kids.len n ∧ kids.len ≤ n ∧ (kids = .nil ∨ ∃ kb, a = some ⟨kb, 0, none⟩ ∧ B ≤ kb ∧ RepF w B kids kb 0)) ∧ RepF w B rest b (o + 2)
def RepN (w : World) (B : Nat) (c : UInt8) (kids : Fo) (x y : Value) : Prop := x = lv c ∧ ∃ a n, y = .slice a kids.len n ∧ kids.len ≤ n ∧ (kids = .nil ∨ ∃ kb, a = some ⟨kb, 0, none⟩ ∧ B ≤ kb ∧ RepF w B kids kb 0)
theorem RepF.cons {w : World} {B : Nat} {c : UInt8} {kids rest : Fo} {b o : Nat} : RepF w B (.nd c kids rest) b o ↔ (∃ x y, w.cell? ⟨b, o, none⟩ = some x ∧ w.cell? ⟨b, o + 1, none⟩ = some y ∧ RepN w B c kids x y) ∧ RepF w B rest b (o + 2) := Iff.rfl
theorem RepN.forms {w : World} {B : Nat} {c : UInt8} {kids : Fo} {x y : Value} (h : RepN w B c kids x y) : ∃ (a : Option Addr) (m : Nat), x = .int .u8 c.toNat ∧ y = .slice a kids.len m := by
 obtain ⟨h1, a, n, h2, _, _⟩ := h
 exact ⟨a, n, h1, h2⟩
theorem RepF.keep {w w' : World} {B B' : Nat} (hc : ∀ b o v, B ≤ b → w.cell? ⟨b, o, none⟩ = some v → w'.cell? ⟨b, o, none⟩ = some v) (hB : B' ≤ B) : ∀ {f : Fo} {b o : Nat}, B ≤ b → RepF w B f b o → RepF w' B' f b o := by
 intro f
 induction f with
 | nil => exact fun _ h => h
 | nd c kids rest ih1 ih2 =>
  rintro b o hb ⟨⟨x, y, h1, h2, h3, a, n, h4, hcap, h5⟩, h6⟩
  refine ⟨⟨x, y, hc _ _ _ hb h1, hc _ _ _ hb h2, h3, a, n, h4, hcap, ?_⟩, ih2 hb h6⟩
  rcases h5 with h5 | ⟨kb, h5, h7, h8⟩
  ·exact .inl h5
  ·exact .inr ⟨kb, h5, by omega, ih1 h7 h8⟩
theorem RepN.keep {w w' : World} {B B' : Nat} (hc : ∀ b o v, B ≤ b → w.cell? ⟨b, o, none⟩ = some v → w'.cell? ⟨b, o, none⟩ = some v) (hB : B' ≤ B) {c : UInt8} {kids : Fo} {x y : Value} (h : RepN w B c kids x y) : RepN w' B' c kids x y := by
 obtain ⟨h3, a, n, h4, hcap, h5⟩ := h
 refine ⟨h3, a, n, h4, hcap, ?_⟩
 rcases h5 with h5 | ⟨kb, h5, h7, h8⟩
 ·exact .inl h5
 ·exact .inr ⟨kb, h5, by omega, h8.keep hc hB h7⟩
theorem RepN.below {w w' : World} {B : Nat} (hb : Below w.heap.size w w') {c : UInt8} {kids : Fo} {x y : Value} (h : RepN w B c kids x y) : RepN w' B c kids x y :=
 h.keep (fun _ _ _ _ h => (hb.cell (p := ⟨_, _, none⟩) (cell_lt h)).trans h) (Nat.le_refl _)
theorem RepN.mono {w : World} {B B' : Nat} {c : UInt8} {kids : Fo} {x y : Value} (h : RepN w B c kids x y) (hB : B' ≤ B) : RepN w B' c kids x y := h.keep (fun _ _ _ _ h => h) hB
theorem repT_of {w : World} {B : Nat} : ∀ (t : Tm) (r : Fo) (b o : Nat), B ≤ b → RepF w B (emb t r) b o → (∃ x y, w.cell? ⟨b, o, none⟩ = some x ∧ w.cell? ⟨b, o + 1, none⟩ = some y ∧ RepT w B t x y) ∧ RepF w B r b (o + 2) := by
 intro t
 induction t with
 | leaf c =>
  rintro r b o hB ⟨⟨x, y, h1, h2, h3, a, n, h4, _, _⟩, h6⟩
  exact ⟨⟨x, y, h1, h2, h3, a, n, h4⟩, h6⟩
 | un c a ih =>
  rintro r b o hB ⟨⟨x, y, h1, h2, h3, p, n, h4, _, h5⟩, h6⟩
  refine ⟨⟨x, y, h1, h2, h3, ?_⟩, h6⟩
  rcases h5 with h5 | ⟨kb, rfl, h7, h8⟩
  ·cases a <;> cases h5
  ·obtain ⟨⟨x1, y1, k1, k2, k3⟩, _⟩ := ih _ _ _ h7 h8
   have hl : (emb a .nil).len = 1 := by cases a <;> rfl
   exact ⟨kb, n, x1, y1, by rw [h4, hl], h7, k1, k2, k3⟩
 | bin c a d iha ihd =>
  rintro r b o hB ⟨⟨x, y, h1, h2, h3, p, n, h4, _, h5⟩, h6⟩
  refine ⟨⟨x, y, h1, h2, h3, ?_⟩, h6⟩
  rcases h5 with h5 | ⟨kb, rfl, h7, h8⟩
  ·cases a <;> cases h5
  ·obtain ⟨⟨x1, y1, k1, k2, k3⟩, h9⟩ := iha _ _ _ h7 h8
   obtain ⟨⟨x2, y2, l1, l2, l3⟩, _⟩ := ihd _ _ _ h7 h9
   have hl : (emb a (emb d .nil)).len = 2 := by cases a <;> cases d <;> rfl
   exact ⟨kb, n, x1, y1, x2, y2, by rw [h4, hl], h7, k1, k2, l1, l2, k3, l3⟩
theorem repT_ofN {w : World} {B : Nat} {t : Tm} {c : UInt8} {kids : Fo} {x y : Value} (e : Fo.nd c kids .nil = emb t .nil) (h : RepN w B c kids x y) : RepT w B t x y := by
 obtain ⟨h3, a, n, h4, _, h5⟩ := h
 cases t with
 | leaf c' => simp [emb] at e; obtain ⟨rfl, rfl⟩ := e; exact ⟨h3, a, n, h4⟩
 | un c' t1 =>
  simp [emb] at e; obtain ⟨rfl, rfl⟩ := e
  refine ⟨h3, ?_⟩
  rcases h5 with h5 | ⟨kb, rfl, h7, h8⟩
  ·cases t1 <;> cases h5
  ·obtain ⟨⟨x1, y1, k1, k2, k3⟩, _⟩ := repT_of _ _ _ _ h7 h8
   have hl : (emb t1 .nil).len = 1 := by cases t1 <;> rfl
   exact ⟨kb, n, x1, y1, by rw [h4, hl], h7, k1, k2, k3⟩
 | bin c' t1 t2 =>
  simp [emb] at e; obtain ⟨rfl, rfl⟩ := e
  refine ⟨h3, ?_⟩
  rcases h5 with h5 | ⟨kb, rfl, h7, h8⟩
  ·cases t1 <;> cases h5
  ·obtain ⟨⟨x1, y1, k1, k2, k3⟩, h9⟩ := repT_of _ _ _ _ h7 h8
   obtain ⟨⟨x2, y2, l1, l2, l3⟩, _⟩ := repT_of _ _ _ _ h7 h9
   have hl : (emb t1 (emb t2 .nil)).len = 2 := by cases t1 <;> cases t2 <;> rfl
   exact ⟨kb, n, x1, y1, x2, y2, by rw [h4, hl], h7, k1, k2, l1, l2, k3, l3⟩
structure GHole where
 kind : UInt8
 b : Nat
 o : Nat
def gstk : List GHole → List Value
 | [] => []
 | p :: L => gstk L ++ [lv p.kind, .pointer (some ⟨p.b, p.o, none⟩)]
theorem gstk_length (L : List GHole) : (gstk L).length = L.length * 2 := by
 induction L with
 | nil => rfl
 | cons p L ih => simp [gstk, ih]; omega
theorem gstk_top0 (p : GHole) (L : List GHole) : (gstk (p :: L))[L.length * 2]? = some (lv p.kind) := by
 rw [← gstk_length L]; simp [gstk]
theorem gstk_top1 (p : GHole) (L : List GHole) : (gstk (p :: L))[L.length * 2 + 1]? = some (.pointer (some ⟨p.b, p.o, none⟩)) := by
 rw [← gstk_length L]; simp [gstk]
def GIn (L : List GHole) (b o : Nat) : Prop := ∃ p ∈ L, p.b = b ∧ (o = p.o ∨ o = p.o + 1)
def GKeeps (base : Nat) (w w' : World) (L : List GHole) : Prop := ∀ b o v, base ≤ b → (∃ cur, TB w b cur) → w.cell? ⟨b, o, none⟩ = some v → ¬ GIn L b o → w'.cell? ⟨b, o, none⟩ = some v
def GRep (w : World) (B : Nat) : List GHole → Fo → Prop
 | [], f => f = .nil
 | p :: L, f => ∃ c kids rest x y, f = .nd c kids rest ∧ w.cell? ⟨p.b, p.o, none⟩ = some x ∧ w.cell? ⟨p.b, p.o + 1, none⟩ = some y ∧ RepN w B c kids x y ∧ GRep w B L rest
structure GPend (w : World) (base : Nat) (L : List GHole) (F : Fo → Fo) (rb : Nat) : Prop where
 cells : ∀ p ∈ L, base ≤ p.b ∧ p.o % 2 = 0 ∧ ∃ cur, TB w p.b cur ∧ p.o + 1 < cur.size
 apart : L.Pairwise fun p q => ¬ (p.b = q.b ∧ p.o = q.o)
 rep : ∀ w' f, GRep w' base L f → GKeeps base w w' L → RepF w' base (F f) rb 0
theorem GPend.start (w : World) (base rb : Nat) (k : UInt8) (cur : Array Value) (hb : base ≤ rb) (h : TB w rb cur) (hs : 1 < cur.size) : GPend w base [⟨k, rb, 0⟩] (fun f => f) rb where
 cells := by
  intro p hp
  simp at hp; subst hp
  exact ⟨hb, rfl, cur, h, hs⟩
 apart := by simp
 rep := by
  rintro w' f ⟨c, kids, rest, x, y, rfl, h1, h2, h3, h4⟩ _
  rw [show rest = .nil from h4]
  exact ⟨⟨x, y, h1, h2, h3⟩, trivial⟩
theorem GPend.keep {w w' : World} {base : Nat} {L : List GHole} {F : Fo → Fo} {rb : Nat} (h : GPend w base L F rb) (hk : ∀ b cur, TB w b cur → TB w' b cur) : GPend w' base L F rb where
 cells := fun p hp => by
  obtain ⟨h1, h2, cur, h3, h4⟩ := h.cells p hp
  exact ⟨h1, h2, cur, hk _ _ h3, h4⟩
 apart := h.apart
 rep := fun w2 ts hr hkeep => h.rep w2 ts hr fun b o v hB ⟨cur, hb⟩ hc hn =>
  hkeep b o v hB ⟨cur, hk _ _ hb⟩ (by rw [(hk _ _ hb).cell, ← hb.cell]; exact hc) hn
def gbuild (c : UInt8) (n : Nat) (f : Fo) : Fo := .nd c (f.take n) (f.drop n)
def gholes (nb : Nat) : Nat → List UInt8 → List GHole
 | _, [] => []
 | o, k :: l => ⟨k, nb, o⟩ :: gholes nb (o + 2) l
theorem gholes_len (nb o : Nat) (l : List UInt8) : (gholes nb o l).length = l.length := by
 induction l generalizing o with
 | nil => rfl
 | cons k l ih => simp [gholes, ih]
theorem gholes_kind (nb o : Nat) (l : List UInt8) : (gholes nb o l).map (·.kind) = l := by
 induction l generalizing o with
 | nil => rfl
 | cons k l ih => simp [gholes, ih]
theorem gholes_mem {nb o : Nat} {l : List UInt8} {q : GHole} (h : q ∈ gholes nb o l) : q.b = nb ∧ o ≤ q.o ∧ q.o % 2 = o % 2 ∧ q.o + 1 < o + l.length * 2 := by
 induction l generalizing o with
 | nil => simp [gholes] at h
 | cons k l ih =>
  simp only [gholes, List.mem_cons] at h
  rcases h with rfl | h
  ·simp; omega
  ·have := ih h
   simp only [List.length_cons]; omega
theorem gholes_apart (nb o : Nat) (l : List UInt8) : (gholes nb o l).Pairwise fun p q => ¬ (p.b = q.b ∧ p.o = q.o) := by
 induction l generalizing o with
 | nil => simp [gholes]
 | cons k l ih =>
  simp only [gholes, List.pairwise_cons]
  exact ⟨fun q hq e => by have := gholes_mem hq; have e2 : o = q.o := e.2; omega, ih _⟩
theorem grep_split {w : World} {B nb : Nat} {l : List UInt8} {L : List GHole} : ∀ {o : Nat} {f : Fo}, GRep w B (gholes nb o l ++ L) f → (f.take l.length).len = l.length ∧ RepF w B (f.take l.length) nb o ∧ GRep w B L (f.drop l.length) := by
 induction l with
 | nil => intro o f h; exact ⟨rfl, trivial, h⟩
 | cons k l ih =>
  intro o f h
  obtain ⟨c, kids, rest, x, y, rfl, h1, h2, h3, h4⟩ := h
  obtain ⟨a, b, c2⟩ := ih h4
  exact ⟨by simp [Fo.take, Fo.len, a], ⟨⟨x, y, h1, h2, h3⟩, b⟩, c2⟩
theorem GPend.step {w w1 : World} {base : Nat} {p : GHole} {L : List GHole} {F : Fo → Fo} {rb : Nat} (h : GPend w base (p :: L) F rb) (c : UInt8) (l : List UInt8) (nb : Nat) (zs : Array Value) (y : Value)
  (hold : ∀ b cur, TB w b cur → b ≠ p.b → TB w1 b cur) (hnb : w.heap.size ≤ nb) (hbase : base ≤ nb)
  (hp : ∀ cur, TB w p.b cur → TB w1 p.b ((cur.setIfInBounds p.o (lv c)).setIfInBounds (p.o + 1) y))
  (hz : TB w1 nb zs) (hzs : zs.size = l.length * 2) (hy : ∃ n, y = .slice (some ⟨nb, 0, none⟩) l.length n ∧ l.length ≤ n) :
  GPend w1 base (gholes nb 0 l ++ L) (fun f => F (gbuild c l.length f)) rb := by
 have hpc := h.cells p (by simp)
 obtain ⟨hp1, hp2, cur, hcur, hsz⟩ := hpc
 have hcur1 := hp cur hcur
 have hpnb : p.b ≠ nb := by have := hcur.lt; omega
 have cx : w1.cell? ⟨p.b, p.o, none⟩ = some (lv c) := by
  rw [hcur1.cell]; simp [Array.getElem?_setIfInBounds]; omega
 have cy : w1.cell? ⟨p.b, p.o + 1, none⟩ = some y := by
  rw [hcur1.cell]; simp [Array.getElem?_setIfInBounds]; omega
 have even : ∀ q ∈ p :: L, q.o % 2 = 0 := fun q hq => (h.cells q hq).2.1
 have hfar : ∀ q ∈ L, q.b ≠ nb := fun q hq => by obtain ⟨_, _, cq, h3, _⟩ := h.cells q (by simp [hq]); have := h3.lt; omega
 have notin : ∀ o, o = p.o ∨ o = p.o + 1 → ¬ GIn (gholes nb 0 l ++ L) p.b o := by
  rintro o ho ⟨q, hq, hb, ho'⟩
  rw [List.mem_append] at hq
  rcases hq with hq | hq
  ·have := (gholes_mem hq).1; omega
  ·have h1 := (List.pairwise_cons.1 h.apart).1 q hq
   have h2 := even q (by simp [hq])
   exact h1 ⟨hb.symm, by omega⟩
 refine ⟨?_, ?_, ?_⟩
 ·intro q hq
  rw [List.mem_append] at hq
  rcases hq with hq | hq
  ·obtain ⟨e1, e2, e3, e4⟩ := gholes_mem hq
   exact ⟨by omega, by omega, zs, by rw [e1]; exact hz, by omega⟩
  ·obtain ⟨h1, h2, cq, h3, h4⟩ := h.cells q (by simp [hq])
   refine ⟨h1, h2, ?_⟩
   by_cases e : q.b = p.b
   ·rw [e] at h3 ⊢
    exact ⟨_, hp cq h3, by simpa using h4⟩
   ·exact ⟨cq, hold _ _ h3 e, h4⟩
 ·rw [List.pairwise_append]
  refine ⟨gholes_apart _ _ _, (List.pairwise_cons.1 h.apart).2, fun q hq q2 hq2 e => ?_⟩
  exact hfar q2 hq2 (by have := (gholes_mem hq).1; omega)
 ·intro w' f hr hk
  have kx : w'.cell? ⟨p.b, p.o, none⟩ = some (lv c) := hk p.b p.o _ hp1 ⟨_, hcur1⟩ cx (notin _ (.inl rfl))
  have ky : w'.cell? ⟨p.b, p.o + 1, none⟩ = some y := hk p.b (p.o + 1) _ hp1 ⟨_, hcur1⟩ cy (notin _ (.inr rfl))
  have hkeep : GKeeps base w w' (p :: L) := by
   intro b o v hB ⟨cb, hb⟩ hc hn
   have hbn : b ≠ nb := by have := hb.lt; omega
   have hn2 : ¬ GIn (gholes nb 0 l ++ L) b o := by
    rintro ⟨q, hq, hqb, hqo⟩
    rw [List.mem_append] at hq
    rcases hq with hq | hq
    ·have := (gholes_mem hq).1; omega
    ·exact hn ⟨q, by simp [hq], hqb, hqo⟩
   by_cases e : b = p.b
   ·subst e
    refine hk p.b o v hB ⟨_, hp cb hb⟩ ?_ hn2
    rw [(hp cb hb).cell]
    rw [hb.cell] at hc
    have h1 : o ≠ p.o := fun e => hn ⟨p, by simp, rfl, .inl e⟩
    have h2 : o ≠ p.o + 1 := fun e => hn ⟨p, by simp, rfl, .inr e⟩
    rw [Array.getElem?_setIfInBounds, if_neg (by omega), Array.getElem?_setIfInBounds, if_neg (by omega)]
    exact hc
   ·exact hk b o v hB ⟨cb, hold _ _ hb e⟩ (by rw [(hold _ _ hb e).cell, ← hb.cell]; exact hc) hn2
  obtain ⟨n, rfl, hyn⟩ := hy
  obtain ⟨a, b, c2⟩ := grep_split hr
  exact h.rep w' _ ⟨c, _, _, _, _, rfl, kx, ky, ⟨rfl, _, n, by rw [a], by rw [a]; exact hyn, .inr ⟨nb, rfl, hbase, b⟩⟩, c2⟩ hkeep
theorem GPend.done {w w' : World} {base : Nat} {F : Fo → Fo} {rb : Nat} (h : GPend w base [] F rb) (hk : ∀ b o v, base ≤ b → w.cell? ⟨b, o, none⟩ = some v → w'.cell? ⟨b, o, none⟩ = some v) : RepF w' base (F .nil) rb 0 :=
 h.rep w' .nil rfl fun b o v hB _ hc _ => hk b o v hB hc
structure GSofar (k : UInt8) (pre : List UInt8) (ks : List UInt8) (F : Fo → Fo) : Prop where
 ok : ∀ f, FOk false f ks → FOk false (F f) [k]
 ser : ∀ f, FOk false f ks → (F f).ser = pre ++ f.ser
theorem GSofar.start (k : UInt8) : GSofar k [] [k] (fun f => f) where
 ok := fun _ h => h
 ser := fun _ _ => rfl
theorem GSofar.step {k : UInt8} {pre : List UInt8} {k0 : UInt8} {ks : List UInt8} {F : Fo → Fo} (h : GSofar k pre (k0 :: ks) F) {c : UInt8} {l : List UInt8} (hl : gopk false k0 c = some l) : GSofar k (pre ++ [c]) (l ++ ks) (fun f => F (gbuild c l.length f)) where
 ok := fun f hf => h.ok _ ⟨_, _, l, rfl, hl, hf.split.1, hf.split.2⟩
 ser := fun f hf => by
  rw [h.ser (gbuild c l.length f) ⟨_, _, l, rfl, hl, hf.split.1, hf.split.2⟩]
  simp [gbuild, Fo.ser, Fo.take_drop]
def gstr (l : List UInt8) : ByteArray := ⟨l.toArray⟩
set_option maxHeartbeats 1000000 in
theorem stops_ok (c : UInt8) (l : List UInt8) (w : World) (h : gopk0 false 112 c = some l) :
  Calls Tryz.prog 276 #[.int .i32 c.toNat] w fun e w' => e = .returned (.string (gstr l)) ∧ w = w' := by
 have hc := gopk_p (wide := false) (by rw [gopk_of rfl]; exact h)
 clear h
 rcases hc with ⟨rfl, rfl⟩ | ⟨rfl, rfl⟩ | ⟨hc, rfl⟩ | ⟨rfl, rfl⟩ | ⟨rfl, rfl⟩ | ⟨rfl, rfl⟩
 ·go_enter Tryz.func276, Tryz.ntmps276
  go_wp2; go_ret; exact ⟨rfl, rfl⟩
 ·go_enter Tryz.func276, Tryz.ntmps276
  go_wp2; go_ret; exact ⟨rfl, rfl⟩
 ·rcases hc with rfl | rfl <;> (go_enter Tryz.func276, Tryz.ntmps276; go_wp2; go_ret; exact ⟨rfl, rfl⟩)
 ·go_enter Tryz.func276, Tryz.ntmps276
  go_wp2; go_ret; exact ⟨rfl, rfl⟩
 ·go_enter Tryz.func276, Tryz.ntmps276
  go_wp2; go_ret; exact ⟨rfl, rfl⟩
 ·go_enter Tryz.func276, Tryz.ntmps276
  go_wp2; go_ret; exact ⟨rfl, rfl⟩
theorem ne_of_gopk {k : UInt8} {r : Int} (h : ∀ c : UInt8, (c.toNat : Int) = r → gopk0 false k c = none) (d : UInt8) (hd : gopk0 false k d ≠ none) : (r == (d.toNat : Int)) = false := by
 rw [beq_eq_false_iff_ne]
 rintro rfl
 exact hd (h d rfl)
set_option maxHeartbeats 1000000 in
theorem stops_bad (r : Int) (w : World) (h : ∀ c : UInt8, (c.toNat : Int) = r → gopk0 false 112 c = none) :
  Calls Tryz.prog 276 #[.int .i32 r] w (Panics w) := by
 have h0 := ne_of_gopk h 115 (by decide); have h1 := ne_of_gopk h 97 (by decide); have h2 := ne_of_gopk h 59 (by decide)
 have h3 := ne_of_gopk h 47 (by decide); have h4 := ne_of_gopk h 63 (by decide); have h5 := ne_of_gopk h 64 (by decide)
 have h6 := ne_of_gopk h 126 (by decide)
 simp at h0 h1 h2 h3 h4 h5 h6
 clear h
 go_enter Tryz.func276, Tryz.ntmps276
 go_wp2
 exact ⟨rfl, _, rfl, rfl⟩
def IsKind (k : UInt8) : Prop := NarK k ∨ wideK k = true
theorem wideK_cases {k : UInt8} (h : wideK k = true) : k = 69 ∨ k = 84 ∨ k = 86 ∨ k = 80 := by simpa [wideK, or_assoc] using h
theorem wideK_nark {k : UInt8} (h : wideK k = true) : NarK (k + 32) := by
 rcases wideK_cases h with rfl | rfl | rfl | rfl <;> simp [NarK]
theorem gopk0_kind {wide : Bool} {k c : UInt8} {l : List UInt8} (h : gopk0 wide k c = some l) : NarK k := by
 unfold gopk0 at h
 by_cases h1 : k = 101
 ·exact .inl h1
 rw [if_neg h1] at h
 by_cases h2 : k = 116
 ·exact .inr (.inl h2)
 rw [if_neg h2] at h
 by_cases h3 : k = 118
 ·exact .inr (.inr (.inl h3))
 rw [if_neg h3] at h
 by_cases h4 : k = 112
 ·exact .inr (.inr (.inr h4))
 rw [if_neg h4] at h
 cases h
theorem gopk_kind {wide : Bool} {k c : UInt8} {l : List UInt8} (h : gopk wide k c = some l) : IsKind k := by
 by_cases hw : wideK k = true
 ·exact .inr hw
 ·simp only [Bool.not_eq_true] at hw
  rw [gopk_of hw] at h
  exact .inl (gopk0_kind h)
theorem gopk_kinds {wide : Bool} {k c : UInt8} {l : List UInt8} (h : gopk wide k c = some l) : (∀ k2 ∈ l, IsKind k2) ∧ l.length ≤ 3 := by
 by_cases hw : wideK k = true
 ·rw [gopk_wide hw] at h
  cases ho : gopk0 true (k + 32) c with
  | none => rw [ho] at h; cases h
  | some l0 =>
   rw [ho] at h
   simp at h
   subst h
   rcases gopk0_lists ho with rfl | rfl | rfl | rfl | rfl | rfl | rfl | rfl <;> simp [IsKind, wideK]
 ·simp only [Bool.not_eq_true] at hw
  rw [gopk_of hw] at h
  rcases gopk0_lists h with rfl | rfl | rfl | rfl | rfl | rfl | rfl | rfl <;> simp [IsKind, NarK]
theorem gopk0_ascii {wide : Bool} {k c : UInt8} {l : List UInt8} (h : gopk0 wide k c = some l) : c.toNat < 128 := by
 rcases gopk0_kind h with rfl | rfl | rfl | rfl
 ·have h2 := gopk_kc wide false c
  simp only [kc] at h2
  rw [gopk_of rfl] at h2
  cases ho : opk wide false c with
  | none => rw [ho] at h2; simp at h2; rw [h] at h2; cases h2
  | some l2 => exact opk_ascii ho
 ·have h2 := gopk_kc wide true c
  simp only [kc] at h2
  rw [gopk_of (by rfl)] at h2
  cases ho : opk wide true c with
  | none => rw [ho] at h2; simp at h2; rw [h] at h2; cases h2
  | some l2 => exact opk_ascii ho
 ·simp only [gopk0] at h
  simp at h
  obtain ⟨h, _⟩ := h
  simp [isVarB] at h
  rcases h with ((rfl | rfl) | rfl) | ⟨_, (rfl | rfl) | rfl⟩ <;> decide
 ·rcases gopk_p (wide := wide) (by rw [gopk_of rfl]; exact h) with ⟨rfl, _⟩ | ⟨rfl, _⟩ | ⟨h, _⟩ | ⟨rfl, _⟩ | ⟨rfl, _⟩ | ⟨rfl, _⟩
  ·decide
  ·decide
  ·rcases h with rfl | rfl <;> decide
  ·decide
  ·decide
  ·decide
theorem gopk_ascii {wide : Bool} {k c : UInt8} {l : List UInt8} (h : gopk wide k c = some l) : c.toNat < 128 := by
 by_cases hw : wideK k = true
 ·rw [gopk_wide hw] at h
  cases ho : gopk0 true (k + 32) c with
  | none => rw [ho] at h; cases h
  | some l0 => exact gopk0_ascii ho
 ·simp only [Bool.not_eq_true] at hw
  rw [gopk_of hw] at h
  exact gopk0_ascii h
set_option maxHeartbeats 1000000 in
theorem vkinds_ok (c : UInt8) (w : World) (h : isVarB false c = true) :
  Calls Tryz.prog 255 #[.int .u8 118, .int .i32 c.toNat] w fun e w' => e = .returned (.string (gstr [])) ∧ w = w' := by
 simp [isVarB] at h
 rcases h with (rfl | rfl) | rfl <;> (go_enter Tryz.func255, Tryz.ntmps255; go_wp2; go_ret; exact ⟨rfl, rfl⟩)
set_option maxHeartbeats 1000000 in
theorem gkinds0_ok (k c : UInt8) (l : List UInt8) (w : World) (h : gopk0 false k c = some l) :
  Calls Tryz.prog 255 #[.int .u8 k.toNat, .int .i32 c.toNat] w fun e w' => e = .returned (.string (gstr l)) ∧ w = w' := by
 have hkc : ∀ kb : Bool, k = kc kb → Calls Tryz.prog 255 #[.int .u8 k.toNat, .int .i32 c.toNat] w fun e w' => e = .returned (.string (gstr l)) ∧ w = w' := by
  rintro kb rfl
  rw [← gopk_of (by cases kb <;> rfl), gopk_kc] at h
  cases ho : opk false kb c with
  | none => rw [ho] at h; cases h
  | some lb =>
   rw [ho] at h
   simp at h
   subst h
   have e1 : ((kc kb).toNat : Int) = kcode kb := by cases kb <;> rfl
   have e2 : gstr (lb.map kc) = kstr lb := by
    unfold gstr kstr
    congr 2
   rw [e1, e2]
   exact kinds_ok kb c lb w ho
 rcases gopk0_kind h with rfl | rfl | rfl | rfl
 ·exact hkc false rfl
 ·exact hkc true rfl
 ·simp only [gopk0] at h
  simp at h
  obtain ⟨h, rfl⟩ := h
  exact vkinds_ok c w h
 ·have H := Lib.hid (stops_ok c l w h)
  clear h hkc
  go_enter Tryz.func255, Tryz.ntmps255
  go_wp2_with fail
  refine H.out.mono ?_
  rintro e w' ⟨rfl, rfl⟩
  go_wp2_with fail
  go_ret
  exact ⟨rfl, rfl⟩
set_option maxHeartbeats 1000000 in
theorem gkinds0_bad (k : UInt8) (r : Int) (w : World) (hk : NarK k) (h : ∀ c : UInt8, (c.toNat : Int) = r → gopk0 false k c = none) :
  Calls Tryz.prog 255 #[.int .u8 k.toNat, .int .i32 r] w (Panics w) := by
 have hkc : ∀ kb : Bool, k = kc kb → Calls Tryz.prog 255 #[.int .u8 k.toNat, .int .i32 r] w (Panics w) := by
  rintro kb rfl
  have e1 : ((kc kb).toNat : Int) = kcode kb := by cases kb <;> rfl
  rw [e1]
  refine kinds_bad kb r w fun c hc => ?_
  have h2 := h c hc
  rw [← gopk_of (by cases kb <;> rfl), gopk_kc] at h2
  simpa using h2
 rcases hk with rfl | rfl | rfl | rfl
 ·exact hkc false rfl
 ·exact hkc true rfl
 ·have h0 := ne_of_gopk h 120 (by decide); have h1 := ne_of_gopk h 121 (by decide); have h2 := ne_of_gopk h 122 (by decide)
  simp at h0 h1 h2
  clear h hkc
  go_enter Tryz.func255, Tryz.ntmps255
  go_wp2
  exact ⟨rfl, _, rfl, rfl⟩
 ·have H := Lib.hid (stops_bad r w h)
  clear h hkc
  go_enter Tryz.func255, Tryz.ntmps255
  go_wp2_with fail
  refine H.out.mono ?_
  rintro e w' ⟨v, rfl, rfl⟩
  go_wp2_with fail
  exact ⟨rfl, _, rfl, rfl⟩
theorem low_x (r : Int) (hr : r = 88 ∨ r = 89 ∨ r = 90 ∨ r = 69 ∨ r = 84 ∨ r = 86 ∨ r = 80) (w : World) : Calls Tryz.prog 288 #[.int .i32 r] w fun e w' => e = .returned (.int .i32 (r + 32)) ∧ w = w' := by
 rcases hr with rfl | rfl | rfl | rfl | rfl | rfl | rfl <;> (go_enter Tryz.func288, Tryz.ntmps288; go_wp2; go_ret; exact ⟨rfl, rfl⟩)
def upS (l : List UInt8) : ByteArray := gstr (l.map (· - 32))
theorem code_sub {k : UInt8} (h : wideK k = true) : ((k.toNat : Int) + 32 = ((k + 32).toNat : Int)) ∧ (k.toNat : Int) < 128 := by
 rcases wideK_cases h with rfl | rfl | rfl | rfl <;> decide
set_option maxHeartbeats 2000000 in
theorem wide_ok (U : ∀ (l : List UInt8) (w : World), (l = [] ∨ l = [101, 101] ∨ l = [116] ∨ l = [116, 116] ∨ l = [118, 101] ∨ l = [112, 112] ∨ l = [116, 112, 112] ∨ l = [116, 112]) → Calls Tryz.prog 289 #[.string (gstr l)] w fun e w' => e = .returned (.string (upS l)) ∧ Below w.heap.size w w')
  (k c : UInt8) (l : List UInt8) (w : World) (hk : wideK k = true) (h : gopk0 true (k + 32) c = some l) :
  Calls Tryz.prog 277 #[.int .u8 k.toNat, .int .i32 c.toNat] w fun e w' => e = .returned (.string (upS l)) ∧ Below w.heap.size w w' := by
 have HU := fun w => Lib.hid (U l w (gopk0_lists h))
 rw [gopk0_nrw (wideK_nark hk)] at h
 have HO := fun w => Lib.hid (gkinds0_ok (k + 32) (nrw c) l w h)
 have LK := fun w => Lib.hid (low_x (k.toNat : Int) (by rcases wideK_cases hk with rfl | rfl | rfl | rfl <;> simp) w)
 obtain ⟨e1, e2⟩ := code_sub hk
 rw [e1] at LK
 have e3 : IntKind.u8.wrap (((k + 32).toNat : Nat) : Int) = (((k + 32).toNat : Nat) : Int) := by
  rcases wideK_cases hk with rfl | rfl | rfl | rfl <;> rfl
 have e4 : IntKind.i32.wrap ((k.toNat : Nat) : Int) = ((k.toNat : Nat) : Int) := by
  rcases wideK_cases hk with rfl | rfl | rfl | rfl <;> rfl
 clear h
 by_cases hx : c = 88 ∨ c = 89 ∨ c = 90
 ·have LC := fun w => Lib.hid (low_x (c.toNat : Int) (by rcases hx with rfl | rfl | rfl <;> simp) w)
  have en : (c.toNat : Int) + 32 = ((nrw c).toNat : Int) := by rcases hx with rfl | rfl | rfl <;> rfl
  rw [en] at LC
  have g1 : (88 : Int) ≤ (c.toNat : Int) := by rcases hx with rfl | rfl | rfl <;> decide
  have g2 : (c.toNat : Int) ≤ 90 := by rcases hx with rfl | rfl | rfl <;> decide
  generalize nrw c = d at *
  generalize k + 32 = kn at *
  clear hx en hk e1 e2
  go_enter Tryz.func277, Tryz.ntmps277
  go_wp2_with fail
  refine (LC _).out.mono ?_
  rintro e w' ⟨rfl, rfl⟩
  go_wp2_with fail
  refine (LK _).out.mono ?_
  rintro e w' ⟨rfl, rfl⟩
  go_wp2_with fail
  refine (HO _).out.mono ?_
  rintro e w' ⟨rfl, rfl⟩
  go_wp2_with fail
  refine (HU _).out.mono ?_
  rintro e w' ⟨rfl, hb⟩
  have HB := Lib.hid hb
  clear hb
  go_wp2_with fail
  go_ret
  exact ⟨rfl, HB.out⟩
 ·have en : nrw c = c := by unfold nrw; rw [if_neg hx]
  rw [en] at HO
  have g1 : ¬ ((88 : Int) ≤ (c.toNat : Int) ∧ (c.toNat : Int) ≤ 90) := by
   intro hh
   apply hx
   have h1 : c.toNat = 88 ∨ c.toNat = 89 ∨ c.toNat = 90 := by omega
   rcases h1 with h1 | h1 | h1
   ·exact .inl (UInt8.toNat_inj.1 h1)
   ·exact .inr (.inl (UInt8.toNat_inj.1 h1))
   ·exact .inr (.inr (UInt8.toNat_inj.1 h1))
  generalize k + 32 = kn at *
  clear hx en hk e1 e2
  by_cases g2 : (88 : Int) ≤ (c.toNat : Int)
  ·have g3 : ¬ (c.toNat : Int) ≤ 90 := fun g3 => g1 ⟨g2, g3⟩
   clear g1
   go_enter Tryz.func277, Tryz.ntmps277
   go_wp2_with fail
   refine (LK _).out.mono ?_
   rintro e w' ⟨rfl, rfl⟩
   go_wp2_with fail
   refine (HO _).out.mono ?_
   rintro e w' ⟨rfl, rfl⟩
   go_wp2_with fail
   refine (HU _).out.mono ?_
   rintro e w' ⟨rfl, hb⟩
   have HB := Lib.hid hb
   clear hb
   go_wp2_with fail
   go_ret
   exact ⟨rfl, HB.out⟩
  ·clear g1
   go_enter Tryz.func277, Tryz.ntmps277
   go_wp2_with fail
   refine (LK _).out.mono ?_
   rintro e w' ⟨rfl, rfl⟩
   go_wp2_with fail
   refine (HO _).out.mono ?_
   rintro e w' ⟨rfl, rfl⟩
   go_wp2_with fail
   refine (HU _).out.mono ?_
   rintro e w' ⟨rfl, hb⟩
   have HB := Lib.hid hb
   clear hb
   go_wp2_with fail
   go_ret
   exact ⟨rfl, HB.out⟩
theorem upper_ok (l : List UInt8) (w : World) (hl : l = [] ∨ l = [101, 101] ∨ l = [116] ∨ l = [116, 116] ∨ l = [118, 101] ∨ l = [112, 112] ∨ l = [116, 112, 112] ∨ l = [116, 112]) :
  Calls Tryz.prog 289 #[.string (gstr l)] w fun e w' => e = .returned (.string (upS l)) ∧ Below w.heap.size w w' := by
 have hz : (gstr l).size ≤ 140737488355328 := by rcases hl with rfl | rfl | rfl | rfl | rfl | rfl | rfl | rfl <;> decide
 have ha : ∀ (j : Nat) (b : UInt8), (gstr l).data.toList[j]? = some b → b.toNat < 128 := by
  intro j b hj
  have hm : b ∈ l := by have := List.mem_of_getElem? hj; simpa [gstr] using this
  rcases hl with rfl | rfl | rfl | rfl | rfl | rfl | rfl | rfl <;> simp at hm <;> (try rcases hm with rfl | rfl | rfl) <;> (try rcases hm with rfl | rfl) <;> (try subst hm) <;> decide
 have h := Go.Proofs.Tryz.strings_ToUpper_ascii (gstr l) w hz ha
 have e : (⟨(Lib.toUpperA (gstr l).data.toList).toArray⟩ : ByteArray) = upS l := by
  rcases hl with rfl | rfl | rfl | rfl | rfl | rfl | rfl | rfl <;> rfl
 rw [e] at h
 exact h
set_option maxHeartbeats 1000000 in
theorem gkinds_ok (k c : UInt8) (l : List UInt8) (w : World) (h : gopk false k c = some l) :
  Calls Tryz.prog 255 #[.int .u8 k.toNat, .int .i32 c.toNat] w fun e w' => e = .returned (.string (gstr l)) ∧ Below w.heap.size w w' := by
 by_cases hw : wideK k = true
 ·rw [gopk_wide hw] at h
  cases ho : gopk0 true (k + 32) c with
  | none => rw [ho] at h; cases h
  | some l0 =>
   rw [ho] at h
   simp at h
   subst h
   have C := fun w => Lib.hid (wide_ok upper_ok k c l0 w hw ho)
   unfold upS at C
   clear ho
   rcases wideK_cases hw with rfl | rfl | rfl | rfl
   all_goals
    clear hw
    go_enter Tryz.func255, Tryz.ntmps255
    go_wp2_with fail
    refine (C _).out.mono ?_
    rintro e w' ⟨rfl, hb⟩
    have HB := Lib.hid hb
    clear hb
    go_wp2_with fail
    go_ret
    exact ⟨rfl, HB.out⟩
 ·simp only [Bool.not_eq_true] at hw
  rw [gopk_of hw] at h
  exact (gkinds0_ok k c l w h).mono fun _ _ ⟨h1, h2⟩ => ⟨h1, by subst h2; exact Below.refl _ _⟩
def nrr (r : Int) : Int := if 88 ≤ r ∧ r ≤ 90 then r + 32 else r
set_option maxHeartbeats 2000000 in
theorem wide_bad (k : UInt8) (r : Int) (w : World) (hk : wideK k = true) (h : ∀ c : UInt8, (c.toNat : Int) = r → gopk0 true (k + 32) c = none) :
  Calls Tryz.prog 277 #[.int .u8 k.toNat, .int .i32 r] w (Panics w) := by
 have hn : ∀ c : UInt8, (c.toNat : Int) = nrr r → gopk0 false (k + 32) c = none := by
  intro c hc
  by_cases hx : 88 ≤ r ∧ r ≤ 90
  ·unfold nrr at hc
   rw [if_pos hx] at hc
   have hr : r = 88 ∨ r = 89 ∨ r = 90 := by omega
   rcases hr with rfl | rfl | rfl
   ·have := h 88 rfl
    rw [gopk0_nrw (wideK_nark hk)] at this
    rw [show c = nrw 88 from UInt8.toNat_inj.1 (by simp [nrw]; omega)]; exact this
   ·have := h 89 rfl
    rw [gopk0_nrw (wideK_nark hk)] at this
    rw [show c = nrw 89 from UInt8.toNat_inj.1 (by simp [nrw]; omega)]; exact this
   ·have := h 90 rfl
    rw [gopk0_nrw (wideK_nark hk)] at this
    rw [show c = nrw 90 from UInt8.toNat_inj.1 (by simp [nrw]; omega)]; exact this
  ·unfold nrr at hc
   rw [if_neg hx] at hc
   have h1 := h c hc
   rw [gopk0_nrw (wideK_nark hk)] at h1
   have h2 : nrw c = c := by
    unfold nrw
    rw [if_neg]
    rintro (rfl | rfl | rfl) <;> exact hx (by rw [← hc]; decide)
   rw [h2] at h1; exact h1
 have HO := fun w => Lib.hid (gkinds0_bad (k + 32) (nrr r) w (wideK_nark hk) hn)
 have LK := fun w => Lib.hid (low_x (k.toNat : Int) (by rcases wideK_cases hk with rfl | rfl | rfl | rfl <;> simp) w)
 obtain ⟨e1, e2⟩ := code_sub hk
 rw [e1] at LK
 have e3 : IntKind.u8.wrap (((k + 32).toNat : Nat) : Int) = (((k + 32).toNat : Nat) : Int) := by
  rcases wideK_cases hk with rfl | rfl | rfl | rfl <;> rfl
 have e4 : IntKind.i32.wrap ((k.toNat : Nat) : Int) = ((k.toNat : Nat) : Int) := by
  rcases wideK_cases hk with rfl | rfl | rfl | rfl <;> rfl
 clear h hn
 generalize k + 32 = kn at *
 by_cases hx : 88 ≤ r ∧ r ≤ 90
 ·have LC := fun w => Lib.hid (low_x r (by omega) w)
  unfold nrr at HO
  rw [if_pos hx] at HO
  obtain ⟨g1, g2⟩ := hx
  clear hk e1 e2
  go_enter Tryz.func277, Tryz.ntmps277
  go_wp2_with fail
  refine (LC _).out.mono ?_
  rintro e w' ⟨rfl, rfl⟩
  go_wp2_with fail
  refine (LK _).out.mono ?_
  rintro e w' ⟨rfl, rfl⟩
  go_wp2_with fail
  refine (HO _).out.mono ?_
  rintro e w' ⟨v, rfl, rfl⟩
  go_wp2_with fail
  exact ⟨rfl, _, rfl, rfl⟩
 ·unfold nrr at HO
  rw [if_neg hx] at HO
  clear hk e1 e2
  by_cases g2 : (88 : Int) ≤ r
  ·have g3 : ¬ r ≤ 90 := fun g3 => hx ⟨g2, g3⟩
   clear hx
   go_enter Tryz.func277, Tryz.ntmps277
   go_wp2_with fail
   refine (LK _).out.mono ?_
   rintro e w' ⟨rfl, rfl⟩
   go_wp2_with fail
   refine (HO _).out.mono ?_
   rintro e w' ⟨v, rfl, rfl⟩
   go_wp2_with fail
   exact ⟨rfl, _, rfl, rfl⟩
  ·clear hx
   go_enter Tryz.func277, Tryz.ntmps277
   go_wp2_with fail
   refine (LK _).out.mono ?_
   rintro e w' ⟨rfl, rfl⟩
   go_wp2_with fail
   refine (HO _).out.mono ?_
   rintro e w' ⟨v, rfl, rfl⟩
   go_wp2_with fail
   exact ⟨rfl, _, rfl, rfl⟩
set_option maxHeartbeats 1000000 in
theorem gkinds_bad (k : UInt8) (r : Int) (w : World) (hk : IsKind k) (h : ∀ c : UInt8, (c.toNat : Int) = r → gopk false k c = none) :
  Calls Tryz.prog 255 #[.int .u8 k.toNat, .int .i32 r] w (Panics w) := by
 by_cases hw : wideK k = true
 ·have C := fun w => Lib.hid (wide_bad k r w hw fun c hc => by
   have := h c hc
   rw [gopk_wide hw] at this
   simpa using this)
  clear h hk
  rcases wideK_cases hw with rfl | rfl | rfl | rfl
  all_goals
   clear hw
   go_enter Tryz.func255, Tryz.ntmps255
   go_wp2_with fail
   refine (C _).out.mono ?_
   rintro e w' ⟨v, rfl, rfl⟩
   go_wp2_with fail
   exact ⟨rfl, _, rfl, rfl⟩
 ·simp only [Bool.not_eq_true] at hw
  refine gkinds0_bad k r w (hk.resolve_right (by simp [hw])) fun c hc => ?_
  have := h c hc
  rwa [gopk_of hw] at this
theorem infoPlace : (Tryz.prog.info? 271).map (fun i => (i.zero, i.size, i.bytes)) = some (some (.agg #[.int .u8 0, .pointer none]), 2, 16) := by kernel_rfl
def lim (k : UInt8) : Nat := if k = 80 then 1000 else 200
theorem lim_le (k : UInt8) : lim k ≤ 1000 := by unfold lim; split <;> omega
def MustPost (k : UInt8) (s : ByteArray) (w : World) (e : Ending) (w' : World) : Prop :=
 Below w.heap.size w w' ∧ ((∃ c kids x y, FOk false (.nd c kids .nil) [k] ∧ s.data.toList = (Fo.nd c kids .nil).ser ∧ s.size ≤ lim k ∧ e = .returned (.agg #[x, y]) ∧ RepN w' (w.heap.size + 1) c kids x y) ∨
  (¬ (GValid false k s.data.toList ∧ s.size ≤ lim k) ∧ ∃ v, e = .panicked [{ v := .iface 9 v, recovered := false }]))
structure MInv (s : ByteArray) (k : UInt8) (w wr : World) (v : Value) (pos : Nat) (L : List GHole) (F : Fo → Fo) : Prop where
 it : wr.heap[w.heap.size + 3]? = some (.stringIter s pos)
 own : wr.ownsRow (w.heap.size + 2) 271 2 v L.length (gstk L)
 bel : Below w.heap.size w wr
 pend : GPend wr (w.heap.size + 1) L F (w.heap.size + 1)
 sofar : GSofar k (s.data.toList.take pos) (L.map (·.kind)) F
 mach : gmach false [k] s.data.toList = gmach false (L.map (·.kind)) (s.data.toList.drop pos)
 len : L.length ≤ 2 * pos + 1
 kinds : ∀ p ∈ L, IsKind p.kind
 res : TB wr w.heap.size #[.int .u8 0, .slice none 0 0]
 le : pos ≤ s.size
theorem iterPos_must {s : ByteArray} {k : UInt8} {w wr : World} {v : Value} {pos : Nat} {L : List GHole} {F : Fo → Fo} (h : MInv s k w wr v pos L F) : wr.iterPos (w.heap.size + 3) = pos := iterPos_of h.it
theorem heap_at_new {w : World} {o : Obj} {k : Nat} (h : k = w.heap.size) : (w.alloc o).heap[k]? = some o := by subst h; exact heap_alloc_new w o
theorem heap_at_old {w : World} {o x : Obj} {k : Nat} (h : w.heap[k]? = some x) : (w.alloc o).heap[k]? = some x := (Below.heap_alloc w o k (Array.getElem?_eq_some_iff.1 h).1).trans h
theorem mstart (k : UInt8) (s : ByteArray) (w : World) (hk : IsKind k) :
  MInv s k w ((((w.alloc (.cells #[.int .u8 0, .slice none 0 0] 110)).alloc (.cells #[.int .u8 0, .slice none 0 0] 110)).alloc (.cells #[.int .u8 (k.toNat), .pointer (some ⟨w.heap.size + 1, 0, none⟩)] 271)).iter s 0)
   (.slice (some ⟨w.heap.size + 1 + 1, 0, none⟩) 1 1) 0 [⟨k, w.heap.size + 1, 0⟩] (fun f => f) := by
 unfold World.iter
 refine ⟨heap_at_new (by simp), ?_, ?_, ?_, GSofar.start k, rfl, by simp, by simpa using hk, ?_, by omega⟩
 ·exact ⟨by simp [gstk], .inr ⟨w.heap.size + 2, 1, #[.int .u8 (k.toNat), .pointer (some ⟨w.heap.size + 1, 0, none⟩)], rfl, by omega, heap_at_old (heap_at_new (by simp)), by simp, by unfold maxLen; omega, by simp, by simp [gstk, lv]⟩⟩
 ·exact (((((Below.refl _ _).alloc (Nat.le_refl _) _).alloc (by simp) _).alloc (by simp; omega) _).alloc (by simp; omega) _)
 ·exact GPend.start _ _ _ k #[.int .u8 0, .slice none 0 0] (Nat.le_refl _) (heap_at_old (heap_at_old (heap_at_new (by simp)))) (by simp)
 ·exact heap_at_old (heap_at_old (heap_at_old (heap_at_new rfl)))
theorem drop_cons (s : ByteArray) (pos : Nat) (h : pos < s.size) : s.data.toList.drop pos = s[pos] :: s.data.toList.drop (pos + 1) := by
 rw [List.drop_eq_getElem_cons (by simpa using h)]; rfl
theorem take_snoc (s : ByteArray) (k : Nat) (h : k < s.size) : s.data.toList.take (k + 1) = s.data.toList.take k ++ [s[k]] := by
 rw [List.take_succ_eq_append_getElem (by simpa using h)]; rfl
theorem post_bad {k : UInt8} {s : ByteArray} {w w' : World} {e : Ending} (hb : Below w.heap.size w w') (hm : gmach false [k] s.data.toList = false) (he : ∃ v, e = .panicked [{ v := .iface 9 v, recovered := false }]) : MustPost k s w e w' :=
 ⟨hb, .inr ⟨fun h => (by rw [gmach_iff.2 h.1] at hm; cases hm), he⟩⟩
structure Filled (W1 wq : World) (p : GHole) (x y : Value) (nz : Nat) (o1 o2 : Obj) : Prop where
 old : ∀ (b : Nat) (o : Obj), W1.heap[b]? = some o → b ≠ p.b → wq.heap[b]? = some o
 top : ∀ cur, TB W1 p.b cur → TB wq p.b ((cur.setIfInBounds p.o x).setIfInBounds (p.o + 1) y)
 n1 : wq.heap[W1.heap.size]? = some o1
 n2 : wq.heap[nz]? = some o2
 size : W1.heap.size + 1 ≤ nz
 bel : ∀ w B, Below B w W1 → B ≤ p.b → Below B w wq
theorem ckm {w w' : World} {b o : Nat} {v : Value} (hb : Below w.heap.size w w') (h : w.cell? ⟨b, o, none⟩ = some v) : w'.cell? ⟨b, o, none⟩ = some v := (hb.cell (p := ⟨b, o, none⟩) (cell_lt h)).trans h
theorem tb_kept {w w' : World} {b : Nat} {cur : Array Value} (h : TB w b cur) (hb : Below w.heap.size w w') : TB w' b cur := (hb.block b h.lt).trans h
theorem filled {W1 W2 : World} {p : GHole} {cur : Array Value} (hcur : TB W1 p.b cur) (o1 o2 : Obj) (hq : Below (W1.alloc o1).heap.size (W1.alloc o1) W2) (x y : Value) : Filled W1 (((W2.setCell ⟨p.b, p.o, none⟩ x).setCell ⟨p.b, p.o + 1, none⟩ y).alloc o2).drew p x y W2.heap.size o1 o2 where
 old := fun b o h hb => by
  have hlt : b < W1.heap.size := (Array.getElem?_eq_some_iff.1 h).1
  refine heap_at_old ?_
  rw [Below.heap_setCell _ _ _ _ hb, Below.heap_setCell _ _ _ _ hb]
  exact (hq.block b (by simp; omega)).trans (heap_at_old h)
 top := fun c hc => by
  have h2 : TB W2 p.b c := (hq.block p.b (by have := hc.lt; simp; omega)).trans (heap_at_old hc)
  refine heap_at_old ?_
  unfold TB at h2
  simp [World.setCell, Array.getElem?_modify, h2]
 n1 := by
  have hlt := hcur.lt
  refine heap_at_old ?_
  rw [Below.heap_setCell _ _ _ _ (by simp; omega), Below.heap_setCell _ _ _ _ (by simp; omega)]
  exact (hq.block W1.heap.size (by simp)).trans (heap_at_new rfl)
 n2 := heap_at_new (by simp [World.setCell])
 size := by have := hq.size; simpa using this
 bel := fun w B h hb => by
  have hlt := hcur.lt
  have h2 : Below B w W2 := (h.alloc (by omega) o1).trans (hq.mono (by simp; omega))
  exact (((h2.setCell (p := ⟨p.b, p.o, none⟩) hb _).setCell (p := ⟨p.b, p.o + 1, none⟩) hb _).alloc (by have := hq.size; simp [World.setCell] at this ⊢; omega) _).drew
structure Mid (s : ByteArray) (w wq w5 : World) (nbx : Nat) (bx : Array Value) (pos g n cap : Nat) (xs : List Value) : Prop where
 own : w5.ownsRow (w.heap.size + 2) 271 2 (.slice (some ⟨g, 0, none⟩) n cap) n xs
 ne : g ≠ nbx
 box : w5.heap[nbx]? = some (.cells bx 271 (0, 0))
 tb : ∀ b cur, TB wq b cur → TB w5 b cur
 it : w5.heap[w.heap.size + 3]? = some (.stringIter s pos)
 bel : Below w.heap.size w w5
theorem own_row {w : World} {base : Nat} {e : TypeId} {size g n cap m : Nat} {xs : List Value} (h : w.ownsRow base e size (.slice (some ⟨g, 0, none⟩) n cap) m xs) : ∃ cur, w.heap[g]? = some (.cells cur e (0, 0)) := by
 rcases h.2 with ⟨h0, _⟩ | ⟨g', cap', cur, hv, _, hh, _⟩
 ·cases h0
 ·cases hv; exact ⟨cur, hh⟩
theorem own_ne_tb {w : World} {base g n cap m : Nat} {xs : List Value} {b : Nat} {cur : Array Value} (h : w.ownsRow base 271 2 (.slice (some ⟨g, 0, none⟩) n cap) m xs) (hb : TB w b cur) : g ≠ b := by
 obtain ⟨cg, hcg⟩ := own_row h
 rintro rfl
 unfold TB at hb
 rw [hb] at hcg
 simp at hcg
theorem Mid.step {s : ByteArray} {w wq w5 w6 wt : World} {nbx : Nat} {bx : Array Value} {pos g n cap g' n' cap' : Nat} {xs xs' : List Value} (h : Mid s w wq w5 nbx bx pos g n cap xs)
  (hk : ∀ (k : Nat) (o : Obj), w5.heap[k]? = some o → wt.heap[k]? = some o) (hs : w5.heap.size ≤ wt.heap.size) (hbw : Below w.heap.size w wt)
  (hg : wt.grownBy w6 (some g)) (hown : w6.ownsRow (w.heap.size + 2) 271 2 (.slice (some ⟨g', 0, none⟩) n' cap') n' xs') (hat : some g = some g' ∨ g' = wt.heap.size) :
  Mid s w wq w6 nbx bx pos g' n' cap' xs' := by
 obtain ⟨cg, hcg⟩ := own_row h.own
 have lt5 : ∀ {k : Nat} {o : Obj}, w5.heap[k]? = some o → k < w5.heap.size := fun hh => (Array.getElem?_eq_some_iff.1 hh).1
 have far : ∀ (k : Nat) (o : Obj), w5.heap[k]? = some o → k ≠ g → w6.heap[k]? = some o := fun k o hh hne => (hg.block k (by have := lt5 hh; omega) (by simpa using hne)).trans (hk k o hh)
 refine ⟨hown, ?_, far _ _ h.box (fun e => h.ne e.symm), ?_, ?_, ?_⟩
 ·rcases hat with e | e
  ·cases e; exact h.ne
  ·have := lt5 h.box; omega
 ·intro b cur hb
  have hb5 := h.tb b cur hb
  refine far _ _ hb5 ?_
  rintro rfl
  unfold TB at hb5
  rw [hcg] at hb5
  simp at hb5
 ·exact far _ _ h.it (by rintro e; rw [← e, h.it] at hcg; cases hcg)
 ·exact hbw.grown hg hbw.size (fun k hk2 => by have := (h.own.lt k (by simpa [Value.ownBlock, eq_comm] using hk2)).1; omega)
theorem mid_of {s : ByteArray} {k : UInt8} {w wr W1 wq : World} {v : Value} {pos g n cap : Nat} {p : GHole} {L : List GHole} {F : Fo → Fo} {x y : Value} {bx : Array Value} {nz : Nat} {o2 : Obj} {tcur : Array Value} (hF : Filled W1 wq p x y nz (.cells bx 271) o2) (_inv : MInv s k w wr v pos (p :: L) F)
  (hit : W1.heap[w.heap.size + 3]? = some (.stringIter s (pos + 1))) (hown : W1.ownsRow (w.heap.size + 2) 271 2 (.slice (some ⟨g, 0, none⟩) (n + 1) cap) (n + 1) (gstk (p :: L))) (hT : TB W1 p.b tcur) (hpB : w.heap.size + 1 ≤ p.b)
  (hbel : Below w.heap.size w W1) (hn : n = L.length := by rfl) : Mid s w wq wq W1.heap.size bx (pos + 1) g n cap (gstk L) := by
 subst hn
 have hpop := ownsRow_pop (last := [lv p.kind, .pointer (some ⟨p.b, p.o, none⟩)]) (gstk_length L) (h := by simpa [gstk] using hown)
 obtain ⟨cg, hcg⟩ := own_row hpop
 have hgp : g ≠ p.b := by
  rintro rfl
  unfold TB at hT
  rw [hT] at hcg
  simp at hcg
 refine ⟨?_, ?_, hF.n1, fun _ _ h => h, hF.old _ _ hit ?_, hF.bel _ _ hbel (by omega)⟩
 ·refine ⟨hpop.1, ?_⟩
  rcases hpop.2 with h2 | ⟨g1, cap1, cur, hv, b, cc, d⟩
  ·cases h2.1
  ·cases hv
   exact .inr ⟨_, _, cur, rfl, b, hF.old _ _ cc hgp, d⟩
 ·have := (Array.getElem?_eq_some_iff.1 hcg).1; omega
 ·rintro e; rw [e] at hit; unfold TB at hT; rw [hT] at hit; cases hit
theorem mstep {s : ByteArray} {k : UInt8} {w wr W1 wq w7 : World} {v : Value} {pos : Nat} {p : GHole} {L : List GHole} {F : Fo → Fo} (inv : MInv s k w wr v pos (p :: L) F) (hp : pos < s.size) {c : UInt8} (hc : s[pos] = c) {l : List UInt8} (hl : gopk false p.kind c = some l)
  (hW1 : wr.iterAt (w.heap.size + 3) s (pos + 1) = W1) {m nz : Nat} {bx zs : Array Value} {g n cap : Nat} (hF : Filled W1 wq p (lv c) (.slice (some ⟨nz, 0, none⟩) l.length m) nz (.cells bx 271) (.cells zs 110)) (hzs : zs.size = l.length * 2) (hml : l.length ≤ m)
  (hM : Mid s w wq w7 W1.heap.size bx (pos + 1) g n cap (gstk (gholes nz 0 l ++ L))) (hn : n = (gholes nz 0 l ++ L).length) :
  MInv s k w w7 (.slice (some ⟨g, 0, none⟩) n cap) (pos + 1) (gholes nz 0 l ++ L) (fun ts => F (gbuild c l.length ts)) := by
 subst hn
 have hnz := hF.size
 have hkinds := gholes_kind nz 0 l
 have hW1s : W1.heap.size = wr.heap.size := by rw [← hW1]; exact Lib.iterAt_size _ _ _ _
 have hW1h : ∀ (b : Nat) (cur : Array Value), TB wr b cur → TB W1 b cur := by
  intro b cur h
  rw [← hW1]; unfold TB
  rw [Lib.iterAt_other _ _ _ _ _ (by intro e; have h2 := inv.it; unfold TB at h; rw [e] at h; rw [h2] at h; cases h)]
  exact h
 have hpb := (inv.pend.cells p (by simp)).1
 have hpn : p.b ≠ w.heap.size := by omega
 have hroot : w.heap.size < wr.heap.size := inv.res.lt
 have p1 : GPend W1 (w.heap.size + 1) (p :: L) F (w.heap.size + 1) := inv.pend.keep hW1h
 have p2 := p1.step (w1 := wq) c l nz zs (.slice (some ⟨nz, 0, none⟩) l.length m) (fun b cur h hb => hF.old b _ h hb) (by omega) (by omega) (fun cur h => hF.top cur h) hF.n2 hzs ⟨_, rfl, hml⟩
 refine ⟨hM.it, hM.own, hM.bel, p2.keep hM.tb, ?_, ?_, ?_, ?_, ?_, by omega⟩
 ·rw [List.map_append, hkinds, take_snoc s pos hp, hc]
  exact inv.sofar.step hl
 ·rw [inv.mach, drop_cons s pos hp, hc, List.map_append, hkinds]
  simp only [List.map_cons, gmach, hl]
 ·have h1 := inv.len
  have h2 := gholes_len nz 0 l
  have := (gopk_kinds hl).2
  simp at h1 ⊢
  omega
 ·intro q hq
  rw [List.mem_append] at hq
  rcases hq with hq | hq
  ·exact (gopk_kinds hl).1 _ (by rw [← hkinds]; exact List.mem_map_of_mem hq)
  ·exact inv.kinds q (by simp [hq])
 ·exact hM.tb _ _ (hF.old _ _ (hW1h _ _ inv.res) (Ne.symm hpn))
theorem mk0 : ∀ w, (Instr.makeSlice 108 (.int .i64 0) (.int .i64 0)).run Tryz.prog w = .ok (.slice (some ⟨w.heap.size, 0, none⟩) 0 0) (w.alloc (.cells #[] 110)) := fun _ => by kernel_rfl
theorem mk1 : ∀ w, (Instr.makeSlice 108 (.int .i64 1) (.int .i64 1)).run Tryz.prog w = .ok (.slice (some ⟨w.heap.size, 0, none⟩) 1 1) (w.alloc (.cells #[.int .u8 0, .slice none 0 0] 110)) := fun _ => by kernel_rfl
theorem mk2 : ∀ w, (Instr.makeSlice 108 (.int .i64 2) (.int .i64 2)).run Tryz.prog w = .ok (.slice (some ⟨w.heap.size, 0, none⟩) 2 2) (w.alloc (.cells #[.int .u8 0, .slice none 0 0, .int .u8 0, .slice none 0 0] 110)) := fun _ => by kernel_rfl
theorem mk3 : ∀ w, (Instr.makeSlice 108 (.int .i64 3) (.int .i64 3)).run Tryz.prog w = .ok (.slice (some ⟨w.heap.size, 0, none⟩) 3 3) (w.alloc (.cells #[.int .u8 0, .slice none 0 0, .int .u8 0, .slice none 0 0, .int .u8 0, .slice none 0 0] 110)) := fun _ => by kernel_rfl
theorem mkn (n : Nat) (hn : n ≤ 3) : ∃ zs : Array Value, zs.size = n * 2 ∧ ∀ w, (Instr.makeSlice 108 (.int .i64 n) (.int .i64 n)).run Tryz.prog w = .ok (.slice (some ⟨w.heap.size, 0, none⟩) n n) (w.alloc (.cells zs 110)) := by
 match n, hn with
 | 0, _ => exact ⟨_, rfl, mk0⟩
 | 1, _ => exact ⟨_, rfl, mk1⟩
 | 2, _ => exact ⟨_, rfl, mk2⟩
 | 3, _ => exact ⟨_, rfl, mk3⟩
theorem gstr_size (l : List UInt8) : (gstr l).size = l.length := by simp [gstr, ByteArray.size]
theorem ownsRow_iterAt' {w : World} {base : Nat} {e : TypeId} {size : Nat} {v : Value} {n : Nat} {xs : List Value} (h : w.ownsRow base e size v n xs) {k : Nat} {s : ByteArray} {p0 : Nat} (hk : w.heap[k]? = some (.stringIter s p0)) (p : Nat) : (w.iterAt k s p).ownsRow base e size v n xs := by
 obtain ⟨h1, h2⟩ := h
 refine ⟨h1, ?_⟩
 rcases h2 with h2 | ⟨g, cap, cur, a, b, c, d⟩
 ·exact .inl h2
 ·exact .inr ⟨g, cap, cur, a, b, by rw [Lib.iterAt_other _ _ _ _ _ (by rintro rfl; rw [hk] at c; cases c)]; exact c, d⟩
theorem rune_bad {k : UInt8} {s : ByteArray} {pos : Nat} (hp : pos < s.size) (h : gopk false k s[pos] = none) : ∀ c : UInt8, (c.toNat : Int) = ((Utf8.decode s pos).1 : Int) → gopk false k c = none := by
 intro c hc
 by_cases ha : (s[pos]).toNat < 128
 ·rw [decode_ascii s pos hp ha] at hc
  have : c = s[pos] := UInt8.toNat_inj.1 (by simp only [Int.natCast_inj] at hc; exact hc)
  rw [this]; exact h
 ·have h2 := (decode_high s pos hp (by omega)).1
  cases ho : gopk false k c with
  | none => rfl
  | some l => have := gopk_ascii ho; omega
theorem mend {k : UInt8} {s : ByteArray} {w wr : World} {v : Value} {pos : Nat} {F : Fo → Fo} (inv : MInv s k w wr v pos [] F) (hpos : pos = s.size) (hsz : s.size ≤ lim k) {x y : Value}
  (hx : wr.cell? ⟨w.heap.size + 1, 0, none⟩ = some x) (hy : wr.cell? ⟨w.heap.size + 1, 1, none⟩ = some y) :
  MustPost k s w (.returned (.agg #[x, y])) ((wr.setCell ⟨w.heap.size, 0, none⟩ x).setCell ⟨w.heap.size, 1, none⟩ y) := by
 have hk : ∀ b o v, w.heap.size + 1 ≤ b → wr.cell? ⟨b, o, none⟩ = some v → ((wr.setCell ⟨w.heap.size, 0, none⟩ x).setCell ⟨w.heap.size, 1, none⟩ y).cell? ⟨b, o, none⟩ = some v := by
  intro b o v hb h
  rw [World.cell?_setCell_other _ _ _ _ (by intro e; injection e; omega), World.cell?_setCell_other _ _ _ _ (by intro e; injection e; omega)]
  exact h
 obtain ⟨c, kids, rest, l2, eF, h1, h2, h3⟩ := (inv.sofar.ok .nil rfl).cons_inv
 obtain ⟨⟨x', y', hx', hy', hr⟩, _⟩ := eF ▸ inv.pend.done hk
 rw [hk _ _ _ (Nat.le_refl _) hx] at hx'
 rw [hk _ _ _ (Nat.le_refl _) hy] at hy'
 cases hx'; cases hy'
 have hsr := inv.sofar.ser .nil rfl
 have hok := inv.sofar.ok .nil rfl
 rw [eF, FOk.nil_inv h3] at hsr hok
 refine ⟨(inv.bel.setCell (Nat.le_refl _) _).setCell (Nat.le_refl _) _, .inl ⟨c, kids, x, y, hok, ?_, hsz, rfl, hr⟩⟩
 rw [hsr, hpos, List.take_of_length_le (by simp)]; simp [Fo.ser]
def Inner (s : ByteArray) (w wq W1 : World) (nz : Nat) (bx : Array Value) (pos : Nat) (l : List UInt8) (L : List GHole) (v6 v11 : Value) (w5 : World) : Prop :=
 ∃ (j : Nat) (i : Int) (g n cap : Nat), j ≤ l.length ∧ i = (j : Int) - 1 ∧ v11 = .int .i64 i ∧ v6 = .slice (some ⟨g, 0, none⟩) n cap ∧ n = (gholes nz (j * 2) (l.drop j) ++ L).length ∧
  Mid s w wq w5 W1.heap.size bx (pos + 1) g n cap (gstk (gholes nz (j * 2) (l.drop j) ++ L))
set_option maxHeartbeats 1000000 in
theorem longest_any (k : UInt8) (w : World) (hk : IsKind k) : Calls Tryz.prog 254 #[.int .u8 k.toNat] w fun e w' => e = .returned (.int .i64 (lim k : Nat)) ∧ w = w' := by
 rcases hk with (rfl | rfl | rfl | rfl) | hk
 ·go_enter Tryz.func254, Tryz.ntmps254; go_wp2; go_ret; exact ⟨rfl, rfl⟩
 ·go_enter Tryz.func254, Tryz.ntmps254; go_wp2; go_ret; exact ⟨rfl, rfl⟩
 ·go_enter Tryz.func254, Tryz.ntmps254; go_wp2; go_ret; exact ⟨rfl, rfl⟩
 ·go_enter Tryz.func254, Tryz.ntmps254; go_wp2; go_ret; exact ⟨rfl, rfl⟩
 ·rcases wideK_cases hk with rfl | rfl | rfl | rfl <;> (clear hk; go_enter Tryz.func254, Tryz.ntmps254; go_wp2; go_ret; exact ⟨rfl, rfl⟩)
set_option maxRecDepth 1000000 in
set_option maxHeartbeats 2000000 in
theorem must_any (k : UInt8) (s : ByteArray) (w : World) (hk : IsKind k) (hsz : s.size ≤ lim k) : Calls Tryz.prog 219 #[.string s, .int .u8 (k.toNat)] w (MustPost k s w) := by
  obtain ⟨i0, hi0, hz0, hz1, hz2⟩ := info_parts infoPlace
  have LG := fun w => Lib.hid (longest_any k w hk)
  have hs1 : s.size ≤ 1000 := Nat.le_trans hsz (lim_le k)
  have hnl : ¬ lim k < s.size := by omega
  go_enter Tryz.func219, Tryz.ntmps219
  go_wp2_with fail
  refine (LG _).out.mono ?_
  rintro e w0 ⟨rfl, rfl⟩
  clear LG
  go_wp2_with fail
  go_loopw [6] (fun v wr => ∃ (pos : Nat) (L : List GHole) (F : Fo → Fo), MInv s k w wr v pos L F) (fun _ wr => s.size - wr.iterPos (w.heap.size + 3))
  case atStart => exact ⟨0, _, _, mstart k s w hk⟩
  case round =>
    obtain ⟨pos, L, F, inv⟩ := hrel
    have hpos0 := Lib.hid (iterPos_must inv)
    have hit := inv.it
    by_cases hp : pos < s.size
    · have hnx : ∀ ty, (Instr.next (.pointer (some ⟨w.heap.size + 1 + 1 + 1, 0, none⟩)) true ty).run Tryz.prog wr = _ := fun ty => Lib.run_next_any_at wr (w.heap.size + 3) s pos ty hit hp
      clear hit
      cases L with
      | nil =>
        have hown := inv.own
        have hm := Lib.hid inv.mach
        have hbel := inv.bel
        have hbel2 := Lib.below_iterAt hbel (k := w.heap.size + 3) (by omega) s (pos + (Utf8.decode s pos).2)
        have hbad : Hid (gmach false [k] s.data.toList = false) := by
          have h := hm.out
          rw [drop_cons s pos hp] at h
          exact h
        clear inv hm hbel
        rcases hown.2 with ⟨rfl, _⟩ | ⟨g, cap, cur, rfl, _⟩
        · go_wp2_with fail
          exact ⟨rfl, post_bad hbel2 hbad.out ⟨_, rfl⟩⟩
        · simp only [List.length_nil]
          go_wp2_with fail
          exact ⟨rfl, post_bad hbel2 hbad.out ⟨_, rfl⟩⟩
      | cons p L =>
        have hown := inv.own
        rcases hown.2 with ⟨_, hn0⟩ | ⟨g, cap, cur, rfl, _, _, hncap, hcapm, _, _⟩
        · simp at hn0
        have hown2 := ownsRow_iterAt' hown inv.it (pos + (Utf8.decode s pos).2)
        have hbel2 := Lib.below_iterAt inv.bel (k := w.heap.size + 3) (by omega) s (pos + (Utf8.decode s pos).2)
        have hm := Lib.hid inv.mach
        have hlen := inv.len
        simp only [List.length_cons] at hown2 hncap hlen ⊢
        unfold maxLen at hcapm
        cases hopk : gopk false p.kind s[pos] with
        | none =>
          have hbad : Hid (gmach false [k] s.data.toList = false) := by
            have h := hm.out
            rw [drop_cons s pos hp] at h
            simp only [List.map_cons, gmach, hopk] at h
            exact h
          have hrb := Lib.hid (rune_bad hp hopk)
          have HKD := Lib.hid (inv.kinds p (by simp))
          clear inv hm hown hopk
          generalize wr.iterAt (w.heap.size + 3) s (pos + (Utf8.decode s pos).2) = W1 at *
          have ct0 := (hown2.cellAt (L.length * 2) (by omega)).trans (gstk_top0 p L)
          have ct1 := (hown2.cellAt (L.length * 2 + 1) (by omega)).trans (gstk_top1 p L)
          have hg0 : (((L.length : Int) + 1) == 0) = false := by simp; omega
          have hix0 : (0 : Int) ≤ (L.length : Int) := by omega
          have hix1 : (L.length : Int) < (L.length : Int) + 1 := by omega
          have hix3 : L.length < L.length + 1 := by omega
          unfold lv at ct0
          clear hown2
          go_wp2_with fail
          refine (gkinds_bad _ _ _ HKD.out hrb.out).mono ?_
          rintro e w' ⟨v, rfl, rfl⟩
          go_wp2_with fail
          exact ⟨rfl, post_bad (hbel2.alloc hbel2.size _) hbad.out ⟨_, rfl⟩⟩
        | some l =>
          have hasc := gopk_ascii hopk
          have hl2 := (gopk_kinds hopk).2
          rw [decode_ascii s pos hp hasc] at hnx hown2 hbel2
          simp only at hnx hown2 hbel2
          have hit2 := Lib.iterAt_heap wr (w.heap.size + 3) s pos (pos + 1) inv.it
          obtain ⟨hpB, hpe, tcur, htc, htsz⟩ := inv.pend.cells p (by simp)
          have htc2 : TB (wr.iterAt (w.heap.size + 3) s (pos + 1)) p.b tcur := by
            unfold TB
            rw [Lib.iterAt_other _ _ _ _ _ (by intro e; have h := inv.it; unfold TB at htc; rw [e] at htc; rw [h] at htc; cases htc)]
            exact htc
          have hc0 := htc2.cell p.o
          have hc1 := htc2.cell (p.o + 1)
          have hf0 := htc2.frozen p.o
          have hf1 := htc2.frozen (p.o + 1)
          rw [Array.getElem?_eq_getElem (by omega)] at hc0 hc1
          generalize tcur[p.o] = x0 at hc0
          generalize tcur[p.o + 1] = x1 at hc1
          have hpb := htc2.lt
          have HT := Lib.hid htc2
          have HK := Lib.hid hopk
          have HI := Lib.hid inv
          have HI2 := Lib.hid hit2
          have HB := Lib.hid hbel2
          have HO := Lib.hid hown2
          have hcb : (s[pos].toNat : Int) < 256 := by omega
          have hcb0 : (0 : Int) ≤ (s[pos].toNat : Int) := by omega
          generalize hW1 : wr.iterAt (w.heap.size + 3) s (pos + 1) = W1 at *
          have HW1 := Lib.hid hW1
          generalize hcc : s[pos] = c at *
          have HC := Lib.hid hcc
          have ct0 := (hown2.cellAt (L.length * 2) (by omega)).trans (gstk_top0 p L)
          have ct1 := (hown2.cellAt (L.length * 2 + 1) (by omega)).trans (gstk_top1 p L)
          have hg0 : (((L.length : Int) + 1) == 0) = false := by simp; omega
          have hix0 : (0 : Int) ≤ (L.length : Int) := by omega
          have hix1 : (L.length : Int) < (L.length : Int) + 1 := by omega
          have hix3 : L.length < L.length + 1 := by omega
          unfold lv at ct0
          clear hown2 hown hopk hm inv hit2 hbel2 hW1 hcc htc2 htc
          go_wp2_with fail
          refine (gkinds_ok _ _ _ _ HK.out).mono ?_
          rintro e W2 ⟨rfl, hq⟩
          have ba := (Below.refl W1.heap.size W1).alloc (Nat.le_refl _) (.cells #[.int .u8 (p.kind.toNat), .pointer (some ⟨p.b, p.o, none⟩)] 271)
          have HQ := Lib.hid hq
          replace hc0 := ckm hq (ckm ba hc0)
          replace hc1 := ckm hq (ckm ba hc1)
          have HT2 := Lib.hid (tb_kept (tb_kept HT.out ba) hq)
          replace hf0 := HT2.out.frozen p.o
          replace hf1 := HT2.out.frozen (p.o + 1)
          replace hpb := HT2.out.lt
          have hbk : W2.heap[W1.heap.size]? = some (.cells #[.int .u8 (p.kind.toNat), .pointer (some ⟨p.b, p.o, none⟩)] 271) := (hq.block W1.heap.size (by simp)).trans (heap_at_new rfl)
          have bx0 : W2.cell? ⟨W1.heap.size, 0, none⟩ = some (.int .u8 (p.kind.toNat)) := by rw [cell_of_row W2 _ 0 _ _ (0, 0) hbk]; rfl
          have bx1 : W2.cell? ⟨W1.heap.size, 1, none⟩ = some (.pointer (some ⟨p.b, p.o, none⟩)) := by rw [cell_of_row W2 _ 1 _ _ (0, 0) hbk]; rfl
          have hb1 : W1.heap.size < W2.heap.size := by have := hq.size; simp at this; omega
          have hb2 : p.b < W1.heap.size := HT.out.lt
          have hb3 : p.b ≠ W1.heap.size := by omega
          have hb4 : W1.heap.size ≠ p.b := by omega
          clear hq ba ct0 ct1 hbk
          go_wp2_with fail
          have HL : Hid (l.length = (gstr l).size) := (gstr_size l).symm
          obtain ⟨zs, hzs, hmk⟩ := mkn (gstr l).size (by rw [← HL.out]; exact hl2)
          have HZ := Lib.hid hzs
          clear hzs
          have hk63 : (gstr l).size ≤ 3 := by rw [← HL.out]; exact hl2
          have HKB : Hid (∀ (m : Nat) (h : m < (gstr l).size), (gstr l)[m] = l[m]'(by rw [HL.out]; exact h)) := fun m h => rfl
          generalize hKe : gstr l = K at *
          clear hKe
          go_region
          go_wp2_with fail
          have HF := Lib.hid (filled HT.out (.cells #[.int .u8 (p.kind.toNat), .pointer (some ⟨p.b, p.o, none⟩)] 271) (.cells zs 110) HQ.out (.int .u8 (c.toNat : Int)) (.slice (some ⟨W2.heap.size, 0, none⟩) K.size K.size))
          have HM0 := Lib.hid (mid_of HF.out HI.out HI2.out HO.out HT.out hpB HB.out)
          generalize (((W2.setCell ⟨p.b, p.o, none⟩ (.int .u8 (c.toNat : Int))).setCell ⟨p.b, p.o + 1, none⟩ (.slice (some ⟨W2.heap.size, 0, none⟩) K.size K.size)).alloc (.cells zs 110)).drew = w0 at *
          clear hc0 hc1 hf0 hf1 hmk hpb bx0 bx1 HT2
          go_loopw [6, 11] (fun v6 v11 w5 => Inner s w w0 W1 W2.heap.size #[.int .u8 (p.kind.toNat), .pointer (some ⟨p.b, p.o, none⟩)] pos l L v6 v11 w5) (fun _ v11 _ => (intOf v11 + 1).toNat)
          case atStart => exact ⟨K.size, _, g, L.length, cap, by rw [HL.out]; omega, rfl, rfl, rfl, by rw [← HL.out, List.drop_of_length_le (Nat.le_refl _)]; simp [gholes], by rw [← HL.out, List.drop_of_length_le (Nat.le_refl _)]; exact HM0.out⟩
          case round =>
            obtain ⟨j, i, g2, n2, cap2, hj, hi, rfl, rfl, hn2, HM⟩ := hrel
            have HN2 := Lib.hid hn2
            have HM1 := Lib.hid HM
            clear hn2 HM
            cases j with
            | zero =>
              obtain rfl : i = -1 := by omega
              clear hi
              go_wp2_with fail
              go_roundw
              case rel => exact ⟨pos + 1, _, _, mstep HI.out hp HC.out HK.out HW1.out (m := K.size) (by rw [HL.out]; exact HF.out) (by rw [HL.out]; exact HZ.out) (Nat.le_of_eq HL.out) HM1.out HN2.out⟩
              case measure => rw [iterPos_must (mstep HI.out hp HC.out HK.out HW1.out (m := K.size) (by rw [HL.out]; exact HF.out) (by rw [HL.out]; exact HZ.out) (Nat.le_of_eq HL.out) HM1.out HN2.out), hpos0.out]; omega
            | succ m =>
              obtain rfl : i = (m : Int) := by omega
              clear hi
              have hmK : m < K.size := by rw [← HL.out]; exact hj
              have HKm := Lib.hid (HKB.out m hmK)
              have hn63 : n2 ≤ 4000 := by rw [HN2.out, List.length_append, gholes_len, List.length_drop]; omega
              have hown0 := HM1.out.own
              have hbx0 : wr.cell? ⟨W1.heap.size, 1, none⟩ = some (.pointer (some ⟨p.b, p.o, none⟩)) := by rw [cell_of_row wr _ 1 _ _ (0, 0) HM1.out.box]; rfl
              have hsl0 : wr.cell? ⟨p.b, p.o + 1, none⟩ = some (.slice (some ⟨W2.heap.size, 0, none⟩) K.size K.size) := by
                rw [(HM1.out.tb _ _ (HF.out.top _ HT.out)).cell]; simp [Array.getElem?_setIfInBounds]; omega
              have htl0 : wr.heap.size ≥ W2.heap.size + 1 := by have := HM1.out.tb _ _ HF.out.n2; have := TB.lt this; omega
              have hmi : (0 : Int) ≤ (m : Int) := by omega
              have hmi2 : (m : Int) < (K.size : Int) := by omega
              go_wp2_with fail
              go_region_held3 (fun w' => w'.cell? ⟨W1.heap.size, 1, none⟩ = some (.pointer (some ⟨p.b, p.o, none⟩)) ∧ w'.cell? ⟨p.b, p.o + 1, none⟩ = some (.slice (some ⟨W2.heap.size, 0, none⟩) K.size K.size))
                (first
                  | go_keep
                  | (go_split_ands
                     refine ⟨?_, ?_⟩
                     · (rw [hgrow.cell_far _ (by simp; omega) (by have := HM1.out.ne; simp [Value.ownBlock]; omega)]; assumption)
                     · (rw [hgrow.cell_far _ (by have := (HM1.out.tb _ _ (HF.out.top _ HT.out)).lt; simp; omega) (by have := own_ne_tb HM1.out.own (HM1.out.tb _ _ (HF.out.top _ HT.out)); simp [Value.ownBlock]; omega)]; assumption)))
                ((refine step_append_lies _ (by rfl) _ _ _ (by rfl) (w.heap.size + 2) 271 i0 _ 2 16 Tryz.underlying272 hi0 hz0 hz1 hz2 rfl (by omega) _ _ _ (by rfl) ((hown0.alloc _).drew)
                    ⟨wr.heap.size, 0, none⟩ 1 1 [.int .u8 K[m].toNat, .pointer (some ⟨W2.heap.size, m * 2, none⟩)] (by rfl) (by rfl) (World.news_of_block (cs := #[.int .u8 K[m].toNat, .pointer (some ⟨W2.heap.size, m * 2, none⟩)]) (t := 271) (fr := (0, 0)) (heap_alloc_new wr _)) (by simp [Value.oneCell'])
                    (by omega) (by unfold maxLen; omega) (by omega) (by have := hpB; have := HT.out.lt; simp; omega) (wr.heap.size + 1) (by simp) ?_; intro g1 cap1 w1 hown1' hgrow hat hlt))
              have hdr : l.drop m = l[m]'(by rw [HL.out]; exact hmK) :: l.drop (m + 1) := List.drop_eq_getElem_cons (by rw [HL.out]; exact hmK)
              have hst : gstk (gholes W2.heap.size ((m + 1) * 2) (l.drop (m + 1)) ++ L) ++ [.int .u8 K[m].toNat, .pointer (some ⟨W2.heap.size, m * 2, none⟩)] = gstk (gholes W2.heap.size (m * 2) (l.drop m) ++ L) := by
                rw [hdr, HKm.out, show (m + 1) * 2 = m * 2 + 2 by omega]; rfl
              have hln : n2 + 1 = (gholes W2.heap.size (m * 2) (l.drop m) ++ L).length := by
                rw [HN2.out, hdr, show (m + 1) * 2 = m * 2 + 2 by omega]; rfl
              rw [hst] at hown1'
              have HM2 := Lib.hid (HM1.out.step (wt := (wr.alloc (.cells #[.int .u8 K[m].toNat, .pointer (some ⟨W2.heap.size, m * 2, none⟩)] 271)).drew) (fun _ _ h => heap_at_old h) (by simp) ((HM1.out.bel.alloc HM1.out.bel.size _).drew) hgrow hown1' (by simpa [Value.ownBlock] using hat))
              have HLN := Lib.hid hln
              clear hown0 hbx0 hsl0 htl0 hown1' hgrow hat hlt hst hdr hln HM1
              go_wp2_with fail
              go_roundw
              case rel => exact ⟨m, _, g1, n2 + 1, cap1, by omega, rfl, rfl, rfl, HLN.out, HM2.out⟩
              case measure => simp [intOf]
    · have hnx : ∀ ty, (Instr.next (.pointer (some ⟨w.heap.size + 1 + 1 + 1, 0, none⟩)) true ty).run Tryz.prog wr = _ := fun ty => Lib.run_next_end_at wr (w.heap.size + 3) s pos ty hit hp
      clear hit
      have hown := inv.own
      have hbel := inv.bel
      have hpos : Hid (pos = s.size) := by have := inv.le; show pos = s.size; omega
      have hm := Lib.hid inv.mach
      have hlen := inv.len
      cases L with
      | nil =>
        obtain ⟨c, kids, rest, l2, eF, _, _, _⟩ := (inv.sofar.ok .nil rfl).cons_inv
        obtain ⟨⟨x, y, hx, hy, hrep⟩, _⟩ := eF ▸ inv.pend.done (w' := wr) (fun _ _ _ _ h => h)
        have hr0 := inv.res.cell 0
        have hr1 := inv.res.cell 1
        have hf0 := inv.res.frozen 0
        have hf1 := inv.res.frozen 1
        have hsf := Lib.hid inv.sofar
        have hlt := cell_lt hx
        simp only [Nat.zero_add] at hy
        simp at hr0 hr1
        have hlt2 : w.heap.size < wr.heap.size := by omega
        obtain ⟨ya, ym, rfl, rfl⟩ := RepN.forms hrep
        have hfin : Hid (MustPost k s w (.returned (.agg #[.int .u8 c.toNat, .slice ya kids.len ym])) ((wr.setCell ⟨w.heap.size, 0, none⟩ (.int .u8 c.toNat)).setCell ⟨w.heap.size, 1, none⟩ (.slice ya kids.len ym))) := mend inv hpos.out hsz hx hy
        clear inv hlen hlt hrep hpos hm hsf eF
        rcases hown.2 with ⟨rfl, _⟩ | ⟨g, cap, cur, rfl, _⟩
        · go_wp2_with fail
          exact bodyPost_ret (v := .agg #[.int .u8 c.toNat, .slice ya kids.len ym]) (by simp [results, Tryz.results219, go_sem, hr0, hr1]) rfl hfin.out
        · simp only [List.length_nil]
          go_wp2_with fail
          exact bodyPost_ret (v := .agg #[.int .u8 c.toNat, .slice ya kids.len ym]) (by simp [results, Tryz.results219, go_sem, hr0, hr1]) rfl hfin.out
      | cons p L =>
        have hbad : Hid (gmach false [k] s.data.toList = false) := by
          have h := hm.out
          rw [hpos.out, List.drop_of_length_le (by simp)] at h
          exact h
        clear inv hm
        rcases hown.2 with ⟨_, hn0⟩ | ⟨g, cap, cur, rfl, _, _, hncap, hcapm, _, _⟩
        · simp at hn0
        simp only [List.length_cons] at hown hncap hlen ⊢
        unfold maxLen at hcapm
        clear hpos hown
        go_wp2_with fail
        exact ⟨rfl, post_bad hbel hbad.out ⟨_, rfl⟩⟩
set_option maxHeartbeats 1000000 in
theorem must_long (k : UInt8) (s : ByteArray) (w : World) (hk : IsKind k) (hsz : lim k < s.size) : Calls Tryz.prog 219 #[.string s, .int .u8 k.toNat] w (MustPost k s w) := by
 have LG := fun w => Lib.hid (longest_any k w hk)
 have hnl : lim k < s.size := by omega
 go_enter Tryz.func219, Tryz.ntmps219
 go_wp2_with fail
 refine (LG _).out.mono ?_
 rintro e w0 ⟨rfl, rfl⟩
 clear LG
 go_wp2_with fail
 exact ⟨rfl, (Below.refl _ _).alloc (Nat.le_refl _) _, .inr ⟨fun h => by omega, _, rfl⟩⟩
theorem must_all (k : UInt8) (s : ByteArray) (w : World) (hk : IsKind k) : Calls Tryz.prog 219 #[.string s, .int .u8 k.toNat] w (MustPost k s w) := by
 by_cases h : s.size ≤ lim k
 ·exact must_any k s w hk h
 ·exact must_long k s w hk (by omega)
theorem fok_kind {c : UInt8} {kids : Fo} {k : UInt8} (h : FOk false (.nd c kids .nil) [k]) : IsKind k := by
 obtain ⟨k', ks', l, e, h1, _⟩ := h
 cases e
 exact gopk_kind h1
theorem must_yes (k : UInt8) (s : ByteArray) (w : World) {c : UInt8} {kids : Fo} (ht : FOk false (.nd c kids .nil) [k]) (hs : s.data.toList = (Fo.nd c kids .nil).ser) (hl : s.size ≤ lim k) :
  Calls Tryz.prog 219 #[.string s, .int .u8 k.toNat] w fun e w' => ∃ ya ym, e = .returned (.agg #[.int .u8 c.toNat, .slice ya kids.len ym]) ∧ RepN w' w.heap.size c kids (.int .u8 c.toNat) (.slice ya kids.len ym) ∧ Below w.heap.size w w' :=
 (must_all k s w (fok_kind ht)).mono fun e w' h => by
  obtain ⟨hb, h⟩ := h
  rcases h with ⟨c', kids', x, y, ht', hs', _, rfl, hr⟩ | ⟨h, _⟩
  ·have e := fo_inj ht ht' (hs.symm.trans hs')
   cases e
   obtain ⟨ya, ym, rfl, rfl⟩ := hr.forms
   exact ⟨_, _, rfl, hr.mono (by omega), hb⟩
  ·exact absurd ⟨⟨_, ht, hs⟩, hl⟩ h
theorem must_no (k : UInt8) (s : ByteArray) (w : World) (hk : IsKind k) (h : ¬ (GValid false k s.data.toList ∧ s.size ≤ lim k)) :
  Calls Tryz.prog 219 #[.string s, .int .u8 k.toNat] w fun e w' => ∃ v, e = .panicked [{ v := .iface 9 v, recovered := false }] ∧ Below w.heap.size w w' :=
 (must_all k s w hk).mono fun e w' h2 => by
  obtain ⟨hb, h2⟩ := h2
  rcases h2 with ⟨c', kids', x, y, ht', hs', hl, rfl, hr⟩ | ⟨_, v, rfl⟩
  ·exact absurd ⟨⟨_, ht', hs'⟩, hl⟩ h
  ·exact ⟨v, rfl, hb⟩
theorem catch_idle (p q : Addr) (w : World) :
  CallsD Tryz.prog 218 #[.pointer (some p), .pointer (some q)] .returning w fun e u' w' => e = .returned (.tuple #[]) ∧ u' = .returning ∧ w' = w := by
 refine callsD_of_wpS Tryz.func218 rfl fun c₀ cs hu => ?_
 apply wpS_seq
 apply wpS_region
 simp [wpOpsS, go_sem, recoverD, hu, Tryz.ntmps218, Exit.thenS]
 refine wpS_cond (t := false) (by simp [Act.eval, Array.replicate]) ?_
 simp only [Bool.false_eq_true, if_false]
 refine wpS_of_wp (wp_skip ?_)
 cases c₀
 simp_all [bodyPostS, results, Tryz.results218]
theorem catch_panicking (b c : Nat) (xc : Int) (ya : Option Addr) (yn ym : Nat) (o : Bool) (u : TypeId) (pv : Value) (older : List PanicEntry) (w : World) (hbc : b ≠ c)
  (h0 : w.cell? ⟨b, 0, none⟩ = some (.int .u8 xc)) (h1 : w.cell? ⟨b, 1, none⟩ = some (.slice ya yn ym)) (h2 : w.cell? ⟨c, 0, none⟩ = some (.bool o))
  (f0 : w.frozen? ⟨b, 0, none⟩ = false) (f1 : w.frozen? ⟨b, 1, none⟩ = false) (f2 : w.frozen? ⟨c, 0, none⟩ = false) :
  CallsD Tryz.prog 218 #[.pointer (some ⟨b, 0, none⟩), .pointer (some ⟨c, 0, none⟩)] (.panicking ({ v := .iface u pv, recovered := false } :: older)) w fun e u' w' =>
   e = .returned (.tuple #[]) ∧ u' = .panicking ({ v := .iface u pv, recovered := true } :: older) ∧ w' = ((w.setCell ⟨b, 0, none⟩ (.int .u8 0)).setCell ⟨b, 1, none⟩ (.slice none 0 0)).setCell ⟨c, 0, none⟩ (.bool false) := by
 refine callsD_of_wpS Tryz.func218 rfl fun c₀ cs hu => ?_
 apply wpS_seq
 apply wpS_region
 simp [wpOpsS, go_sem, recoverD, hu, Tryz.ntmps218, Exit.thenS]
 refine wpS_cond (t := true) (by simp [Act.eval, Array.replicate]) ?_
 simp only [if_true]
 apply wpS_region
 simp [wpOpsS, go_sem, h0, h1, h2, f0, f1, f2, bodyPostS, results, Tryz.results218]
set_option maxHeartbeats 1000000 in
theorem gread_yes (k : UInt8) (s : ByteArray) (w : World) {c : UInt8} {kids : Fo} (ht : FOk false (.nd c kids .nil) [k]) (hs : s.data.toList = (Fo.nd c kids .nil).ser) (hl : s.size ≤ lim k) :
  Calls Tryz.prog 166 #[.string s, .int .u8 k.toNat] w fun e w' => ∃ ya ym, e = .returned (.tuple #[.agg #[.int .u8 c.toNat, .slice ya kids.len ym], .bool true]) ∧ RepN w' w.heap.size c kids (.int .u8 c.toNat) (.slice ya kids.len ym) ∧ Below w.heap.size w w' := by
 have HM := fun w => Lib.hid (must_yes k s w ht hs hl)
 have hmf : ∀ (fn : Fn) (first cap : Array Value) (w : World), (Instr.makeFunc fn first cap).run Tryz.prog w = .ok (.func fn first cap) w := fun _ _ _ _ => rfl
 clear hs
 go_enter_defers Tryz.func166, Tryz.ntmps166
 go_wp2_with fail
 refine (HM _).out.mono ?_
 rintro e w1 ⟨ya, ym, rfl, hrep, hb⟩
 have hB : Below w.heap.size w w1 := (((Below.refl _ _).alloc (Nat.le_refl _) _).alloc (by simp) _).trans (hb.mono (by simp; omega))
 have hlt : w.heap.size + 1 < w1.heap.size := by have := hb.size; simp at this; omega
 obtain ⟨hc, hf⟩ := bcell hb
 have a0 : w1.cell? ⟨w.heap.size, 0, none⟩ = some (.int .u8 0) := by rw [hc _ _ (by simp <;> omega)]; simp [go_sem]
 have a1 : w1.cell? ⟨w.heap.size, 1, none⟩ = some (.slice none 0 0) := by rw [hc _ _ (by simp <;> omega)]; simp [go_sem]
 have a2 : w1.cell? ⟨w.heap.size + 1, 0, none⟩ = some (.bool false) := by rw [hc _ _ (by simp <;> omega)]; simp [go_sem]
 have b0 : w1.frozen? ⟨w.heap.size, 0, none⟩ = false := by rw [hf _ _ (by simp <;> omega)]; simp [go_sem]
 have b1 : w1.frozen? ⟨w.heap.size, 1, none⟩ = false := by rw [hf _ _ (by simp <;> omega)]; simp [go_sem]
 have b2 : w1.frozen? ⟨w.heap.size + 1, 0, none⟩ = false := by rw [hf _ _ (by simp <;> omega)]; simp [go_sem]
 have HR := Lib.hid hrep
 have HB := Lib.hid hB
 clear hb hc hf hrep hB
 go_wp2_with fail
 refine leaves_cons (f := 218) (args := #[.pointer (some ⟨w.heap.size, 0, none⟩), .pointer (some ⟨w.heap.size + 1, 0, none⟩)]) (by simp) (by simp [go_sem]) ?_
 refine (catch_idle _ _ _).mono ?_
 rintro e u' w'' ⟨rfl, rfl, rfl⟩
 refine ⟨.tuple #[.agg #[.int .u8 c.toNat, .slice ya kids.len ym], .bool true], ?_, ya, ym, rfl, ?_, ?_⟩
 ·simp [results, Tryz.results166, go_sem, a0, a1, a2]
 ·refine HR.out.keep (fun b o v hb h => ?_) (by simp <;> omega)
  simp at hb
  rw [World.cell?_setCell_other _ _ _ _ (by intro e; injection e; omega), World.cell?_setCell_other _ _ _ _ (by intro e; injection e; omega), World.cell?_setCell_other _ _ _ _ (by intro e; injection e; omega)]
  exact h
 ·exact ((HB.out.setCell (p := ⟨w.heap.size, 0, none⟩) (Nat.le_refl _) _).setCell (p := ⟨w.heap.size, 1, none⟩) (Nat.le_refl _) _).setCell (p := ⟨w.heap.size + 1, 0, none⟩) (by simp) _
set_option maxHeartbeats 1000000 in
theorem gread_no (k : UInt8) (s : ByteArray) (w : World) (hk : IsKind k) (h : ¬ (GValid false k s.data.toList ∧ s.size ≤ lim k)) :
  Calls Tryz.prog 166 #[.string s, .int .u8 k.toNat] w fun e w' => e = .returned (.tuple #[.agg #[.int .u8 0, .slice none 0 0], .bool false]) ∧ Below w.heap.size w w' := by
 have HM := fun w => Lib.hid (must_no k s w hk h)
 have hmf : ∀ (fn : Fn) (first cap : Array Value) (w : World), (Instr.makeFunc fn first cap).run Tryz.prog w = .ok (.func fn first cap) w := fun _ _ _ _ => rfl
 clear h
 go_enter_defers Tryz.func166, Tryz.ntmps166
 go_wp2_with fail
 refine (HM _).out.mono ?_
 rintro e w1 ⟨pv, rfl, hb⟩
 have hB : Below w.heap.size w w1 := (((Below.refl _ _).alloc (Nat.le_refl _) _).alloc (by simp) _).trans (hb.mono (by simp; omega))
 have hlt : w.heap.size + 1 < w1.heap.size := by have := hb.size; simp at this; omega
 obtain ⟨hc, hf⟩ := bcell hb
 have a0 : w1.cell? ⟨w.heap.size, 0, none⟩ = some (.int .u8 0) := by rw [hc _ _ (by simp <;> omega)]; simp [go_sem]
 have a1 : w1.cell? ⟨w.heap.size, 1, none⟩ = some (.slice none 0 0) := by rw [hc _ _ (by simp <;> omega)]; simp [go_sem]
 have a2 : w1.cell? ⟨w.heap.size + 1, 0, none⟩ = some (.bool false) := by rw [hc _ _ (by simp <;> omega)]; simp [go_sem]
 have b0 : w1.frozen? ⟨w.heap.size, 0, none⟩ = false := by rw [hf _ _ (by simp <;> omega)]; simp [go_sem]
 have b1 : w1.frozen? ⟨w.heap.size, 1, none⟩ = false := by rw [hf _ _ (by simp <;> omega)]; simp [go_sem]
 have b2 : w1.frozen? ⟨w.heap.size + 1, 0, none⟩ = false := by rw [hf _ _ (by simp <;> omega)]; simp [go_sem]
 have HB := Lib.hid hB
 clear hb hc hf hB
 go_wp2_with fail
 refine leaves_cons (f := 218) (args := #[.pointer (some ⟨w.heap.size, 0, none⟩), .pointer (some ⟨w.heap.size + 1, 0, none⟩)]) (by simp) (by simp [go_sem]) ?_
 refine (catch_panicking w.heap.size (w.heap.size + 1) 0 none 0 0 false _ _ [] _ (by omega) a0 a1 a2 b0 b1 b2).mono ?_
 rintro e u' w'' ⟨rfl, rfl, rfl⟩
 refine ⟨.tuple #[.agg #[.int .u8 0, .slice none 0 0], .bool false], ?_, rfl, ?_⟩
 ·simp [results, Tryz.results166, go_sem, a0, a1, a2]
 ·exact ((HB.out.setCell (p := ⟨w.heap.size, 0, none⟩) (Nat.le_refl _) _).setCell (p := ⟨w.heap.size, 1, none⟩) (Nat.le_refl _) _).setCell (p := ⟨w.heap.size + 1, 0, none⟩) (by simp) _
def wcode (k : Bool) : Int := if k then 84 else 69
theorem kcw (k : Bool) : NarK (kc k) ∧ IsKind (kc k - 32) ∧ lim (kc k - 32) = 200 ∧ ((kc k - 32).toNat : Int) = wcode k := by cases k <;> simp [kc, IsKind, NarK, wideK, lim, wcode]
theorem emb_w {k : Bool} {t : Tm} (ht : Ok true k t) : FOk false (emb t .nil) [kc k - 32] := (fok_wide (emb t .nil) [kc k] (by simpa using (kcw k).1)).2 (emb_ok ht rfl)
theorem readw_yes (k : Bool) (s : ByteArray) (w : World) {t : Tm} (ht : Ok true k t) (hs : s.data.toList = t.ser) (hl : s.size ≤ 200) :
  Calls Tryz.prog 166 #[.string s, .int .u8 (wcode k)] w fun e w' => ∃ xc ya yn ym, e = .returned (.tuple #[.agg #[.int .u8 xc, .slice ya yn ym], .bool true]) ∧ RepT w' w.heap.size t (.int .u8 xc) (.slice ya yn ym) ∧ Below w.heap.size w w' := by
 obtain ⟨c, kids, rest, l, e, h1, h2, h3⟩ := (emb_w ht).cons_inv
 rw [FOk.nil_inv h3] at e
 obtain ⟨n1, n2, n3, n4⟩ := kcw k
 rw [← n4]
 refine (gread_yes (kc k - 32) s w (by rw [← e]; exact emb_w ht) (by rw [hs, ← e, emb_ser]; simp [Fo.ser]) (by rw [n3]; exact hl)).mono ?_
 rintro e2 w' ⟨ya, ym, rfl, hr, hb⟩
 exact ⟨_, ya, _, ym, rfl, repT_ofN e.symm hr, hb⟩
end Go.Proofs.YtgkoljphndgoeaaGreatDoor
