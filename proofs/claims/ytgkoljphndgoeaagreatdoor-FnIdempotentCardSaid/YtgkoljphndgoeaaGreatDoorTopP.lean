import Derived.Test.YtgkoljphndgoeaaGreatDoorTopT
import Derived.Test.YtgkoljphndgoeaaGreatDoorTopB
import Derived.Test.YtgkoljphndgoeaaGreatDoorGPure
import Derived.Laws.OwnMore
import Derived.Deep.AppendLies
import Derived.Deep.Onto
import Derived.Test.YtgkoljphndgoeaaGreatDoorBase
namespace Go.Proofs.YtgkoljphndgoeaaGreatDoor
open Go.RowKit
theorem RepF.at {w : World} {B : Nat} : ∀ (m : Nat) {f : Fo} {b o : Nat}, RepF w B f b o → RepF w B (f.drop m) b (o + m * 2) := by
 intro m
 induction m with
 | zero => exact fun h => h
 | succ m ih =>
  intro f b o h
  cases f with
  | nil => exact trivial
  | nd c k r =>
   have := ih h.2
   rw [show o + (m + 1) * 2 = o + 2 + m * 2 by omega]
   exact this
theorem Fo.at {f : Fo} {m : Nat} (h : m < f.len) : ∃ c k r, f.drop m = .nd c k r ∧ f.drop (m + 1) = r ∧ (f.take (m + 1)).ser = (f.take m).ser ++ (Fo.nd c k .nil).ser := by
 induction m generalizing f with
 | zero =>
  cases f with
  | nil => simp [Fo.len] at h
  | nd c k r => exact ⟨c, k, r, rfl, rfl, by simp [Fo.take, Fo.ser]⟩
 | succ m ih =>
  cases f with
  | nil => simp [Fo.len] at h
  | nd c k r =>
   obtain ⟨c', k', r', h1, h2, h3⟩ := ih (f := r) (by simp [Fo.len] at h; omega)
   refine ⟨c', k', r', h1, h2, ?_⟩
   simp only [Fo.take, Fo.ser] at h3 ⊢
   rw [h3]; simp
theorem FOk.at {wide : Bool} {f : Fo} {ks : List UInt8} (h : FOk wide f ks) : ∀ (m : Nat) {c : UInt8} {k r : Fo}, f.drop m = .nd c k r → ∃ k0, FOk wide (.nd c k .nil) [k0] := by
 intro m
 induction m generalizing f ks with
 | zero =>
  rintro c k r e
  simp only [Fo.drop] at e
  subst e
  obtain ⟨k0, ks', l, rfl, h1, h2, h3⟩ := h
  exact ⟨k0, k0, [], l, rfl, h1, h2, rfl⟩
 | succ m ih =>
  intro c k r e
  cases f with
  | nil => simp [Fo.drop] at e
  | nd c' k' r' =>
   obtain ⟨k0, ks', l, rfl, h1, h2, h3⟩ := h
   exact ih h3 e
theorem Fo.take_len {f : Fo} : f.take f.len = f := by
 induction f with
 | nil => rfl
 | nd c k r _ ih => simp [Fo.len, Fo.take, ih]
theorem enc_all : ∀ n : Nat, n < 128 → Utf8.encode (wrap32 (n : Int)) = bs [UInt8.ofNat n] := by decide +kernel
theorem enc_of {c : UInt8} (h : c.toNat < 128) : Utf8.encode (wrap32 (c.toNat : Int)) = bs [c] := by
 rw [enc_all _ h]; simp
set_option maxRecDepth 100000 in
set_option maxHeartbeats 4000000 in
theorem text_of : ∀ (n : Nat) (c : UInt8) (kids : Fo) (k : UInt8) (B : Nat) (w : World) (ya : Option Addr) (ym : Nat), (Fo.nd c kids .nil).ser.length ≤ n → n ≤ 1000 → FOk false (.nd c kids .nil) [k] → RepN w B c kids (.int .u8 c.toNat) (.slice ya kids.len ym) →
  Calls Tryz.prog 130 #[.agg #[.int .u8 c.toNat, .slice ya kids.len ym]] w fun e w' => e = .returned (.string (bs (Fo.nd c kids .nil).ser)) ∧ Below w.heap.size w w' := by
 intro n
 induction n with
 | zero => intro c kids k B w ya ym hn; simp [Fo.ser] at hn
 | succ n ih =>
  intro c kids k B w ya ym hn hn2 hok hr
  obtain ⟨k', ks', l, hk', hg, hkids, _⟩ := id hok
  have HE := Lib.hid (enc_of (gopk_ascii hg))
  clear hk' hg
  have hsz : (Fo.nd c kids .nil).ser.length ≤ 1000 := by omega
  have HR := Lib.hid hr
  have HI := Lib.hid ih
  have HOK := Lib.hid hkids
  have hlk := FOk.len hkids
  have hll := fo_len_le hkids
  have hlb : kids.len ≤ 1000 := by simp [Fo.ser] at hsz; omega
  clear hr hok ih hkids hlk hll
  go_enter Tryz.func130, Tryz.ntmps130
  go_wp2_with fail
  have hB := (Below.refl w.heap.size w).alloc (Nat.le_refl _) (.cells #[.int .u8 c.toNat, .slice ya kids.len ym] 110)
  generalize w.alloc (.cells #[.int .u8 c.toNat, .slice ya kids.len ym] 110) = W0 at *
  have HB0 := Lib.hid hB
  clear hB
  generalize hE : Utf8.encode (wrap32 (c.toNat : Int)) = E at *
  clear hE
  go_loopw [3, 13] (fun t i wr => ∃ m : Nat, m ≤ kids.len ∧ i = .int .i64 m ∧ t = .string (bs (c :: (kids.take m).ser)) ∧ Hid (Below w.heap.size w wr)) (fun _ i _ => kids.len - (intOf i).toNat)
  case atStart => exact ⟨0, Nat.zero_le _, rfl, by rw [HE.out]; rfl, HB0⟩
  case round =>
   obtain ⟨m, hm, rfl, rfl, HB⟩ := hrel
   by_cases hlt : m < kids.len
   ·obtain ⟨c1, k1, r1, h1, h2, h3⟩ := Fo.at hlt
    obtain ⟨h4, a, n', h5, _, h6⟩ := HR.out
    cases h5
    rcases h6 with h6 | ⟨kb, rfl, hkb, hrf⟩
    ·rw [h6] at hlt; simp [Fo.len] at hlt
    have hat := RepF.at m hrf
    rw [h1] at hat
    obtain ⟨⟨x, y, hx, hy, hrn⟩, _⟩ := hat
    obtain ⟨ya1, ym1, rfl, rfl⟩ := RepN.forms hrn
    rw [Nat.zero_add] at hx hy
    have hx1 := ckeep HB.out hx
    have hy1 := ckeep HB.out hy
    obtain ⟨k0, hk0⟩ := FOk.at HOK.out m h1
    have hlen : (kids.take m).ser.length + (Fo.nd c1 k1 .nil).ser.length + (kids.drop (m + 1)).ser.length = kids.ser.length := by
     have := congrArg List.length (Fo.take_drop (m + 1) kids)
     rw [h3] at this
     simp only [List.length_append] at this
     omega
    have hn3 : kids.ser.length ≤ n := by simp [Fo.ser] at hn; omega
    have hcall : Hid (∀ w2, Below w.heap.size w w2 → Calls Tryz.prog 130 #[.agg #[.int .u8 c1.toNat, .slice ya1 k1.len ym1]] w2 fun e w' => e = .returned (.string (bs (Fo.nd c1 k1 .nil).ser)) ∧ Below w2.heap.size w2 w') :=
     fun w2 hb => HI.out c1 k1 k0 B w2 ya1 ym1 (by omega) (by omega) hk0 (RepN.below hb hrn)
    have hs1 : (bs (c :: (kids.take m).ser)).size ≤ 1001 := by rw [bs_size]; simp; omega
    have hs2 : (bs (Fo.nd c1 k1 .nil).ser).size ≤ 1001 := by rw [bs_size]; omega
    have hcat : Hid (bs (c :: (kids.take m).ser) ++ bs (Fo.nd c1 k1 .nil).ser = bs (c :: (kids.take (m + 1)).ser)) := by
     show _ ++ _ = _
     rw [bs_append, h3]; simp
    have hmi : (0 : Int) ≤ (m : Int) := by omega
    have hmi2 : (m : Int) < (kids.len : Int) := by omega
    clear hx hy h1 h2 h3 h4 hrf hrn hk0 hlen
    generalize bs (c :: (kids.take m).ser) = S1 at *
    generalize bs (Fo.nd c1 k1 .nil).ser = S2 at *
    have f0 : ¬ (9223372036854775807 < S1.size + S2.size) := by omega
    go_wp2_with fail
    refine (hcall.out _ (HB.out.alloc HB.out.size _)).mono ?_
    rintro e w3 ⟨rfl, hb⟩
    have HB3 := Lib.hid ((HB.out.alloc HB.out.size (.cells #[.int .u8 c1.toNat, .slice ya1 k1.len ym1] 110)).trans (hb.mono (by have := HB.out.size; simp; omega)))
    clear hb hx1 hy1
    go_wp2_with fail
    go_roundw
    case rel => exact ⟨m + 1, by omega, by go_num, by rw [hcat.out], HB3⟩
    case measure => simp [intOf]; omega
   ·go_wp2_with fail
    go_ret
    exact ⟨by rw [show m = kids.len by omega, Fo.take_len]; simp [Fo.ser], HB.out⟩
theorem text_node (c : UInt8) (kids : Fo) (k : UInt8) (B : Nat) (w : World) (ya : Option Addr) (ym : Nat) (hn : (Fo.nd c kids .nil).ser.length ≤ 1000) (hok : FOk false (.nd c kids .nil) [k]) (hr : RepN w B c kids (.int .u8 c.toNat) (.slice ya kids.len ym)) :
  Calls Tryz.prog 130 #[.agg #[.int .u8 c.toNat, .slice ya kids.len ym]] w fun e w' => e = .returned (.string (bs (Fo.nd c kids .nil).ser)) ∧ Below w.heap.size w w' :=
 text_of _ c kids k B w ya ym (Nat.le_refl _) hn hok hr
theorem emb_nd (t : Tm) : ∃ kids, ∀ r, emb t r = .nd t.head kids r := by
 cases t with
 | leaf c => exact ⟨.nil, fun r => rfl⟩
 | un c a => exact ⟨emb a .nil, fun r => rfl⟩
 | bin c a b => exact ⟨emb a (emb b .nil), fun r => rfl⟩
def RepH (w : World) (B : Nat) (t : Tm) (x y : Value) : Prop := ∃ kids, (∀ r, emb t r = .nd t.head kids r) ∧ RepN w B t.head kids x y
theorem RepH.rep {w : World} {B : Nat} {t : Tm} {x y : Value} (h : RepH w B t x y) : RepT w B t x y := by
 obtain ⟨kids, e, hr⟩ := h
 exact repT_ofN (e .nil).symm hr
theorem RepH.forms {w : World} {B : Nat} {t : Tm} {x y : Value} (h : RepH w B t x y) : ∃ (a : Option Addr) (n m : Nat), x = .int .u8 t.head.toNat ∧ y = .slice a n m := by
 obtain ⟨kids, e, hr⟩ := h
 obtain ⟨a, m, h1, h2⟩ := RepN.forms hr
 exact ⟨a, _, m, h1, h2⟩
theorem RepH.below {w w' : World} {B : Nat} {t : Tm} {x y : Value} (h : RepH w B t x y) (hb : Below w.heap.size w w') : RepH w' B t x y := by
 obtain ⟨kids, e, hr⟩ := h
 exact ⟨kids, e, hr.below hb⟩
theorem RepH.of {w : World} {B : Nat} {t : Tm} {r : Fo} {b o : Nat} (h : RepF w B (emb t r) b o) : (∃ (a : Option Addr) (n m : Nat), w.cell? ⟨b, o, none⟩ = some (.int .u8 t.head.toNat) ∧ w.cell? ⟨b, o + 1, none⟩ = some (.slice a n m) ∧ RepH w B t (.int .u8 t.head.toNat) (.slice a n m)) ∧ RepF w B r b (o + 2) := by
 obtain ⟨kids, e⟩ := emb_nd t
 rw [e] at h
 obtain ⟨⟨x, y, h1, h2, h3⟩, h4⟩ := h
 obtain ⟨a, m, rfl, rfl⟩ := RepN.forms (show RepN w B t.head kids x y from h3)
 exact ⟨⟨a, _, m, h1, h2, kids, e, h3⟩, h4⟩
end Go.Proofs.YtgkoljphndgoeaaGreatDoor
namespace Go.Proofs.YtgkoljphndgoeaaGreatDoor
namespace Pg
def letter : Pg → UInt8
 | .skip => 115
 | .asg _ _ => 97
 | .seq _ _ => 59
 | .ite _ _ _ => 63
 | .whl _ _ => 64
 | .cho _ _ => 47
 | .asm _ => 126
def kids : Pg → Fo
 | .skip => .nil
 | .asg v e => .nd v .nil (emb e .nil)
 | .seq a b => a.fo (b.fo .nil)
 | .ite t a b => emb t (a.fo (b.fo .nil))
 | .whl t a => emb t (a.fo .nil)
 | .cho a b => a.fo (b.fo .nil)
 | .asm t => emb t .nil
theorem fo_eq (p : Pg) (r : Fo) : p.fo r = .nd p.letter p.kids r := by cases p <;> rfl
theorem len_fo (p : Pg) (r : Fo) : (p.fo r).len = r.len + 1 := by rw [fo_eq]; rfl
end Pg
namespace Pg
def pks : Pg → List Pg
 | .skip => []
 | .asg _ _ => []
 | .seq a b => [a, b]
 | .ite _ a b => [a, b]
 | .whl _ a => [a]
 | .cho a b => [a, b]
 | .asm _ => []
def hd : Pg → List UInt8
 | .skip => []
 | .asg v e => v :: e.ser
 | .seq _ _ => []
 | .ite t _ _ => t.ser
 | .whl t _ => t.ser
 | .cho _ _ => []
 | .asm t => t.ser
theorem ser_eq (p : Pg) : p.ser = p.letter :: (p.hd ++ p.pks.flatMap Pg.ser) := by cases p <;> simp [Pg.ser, Pg.letter, Pg.hd, Pg.pks]
end Pg
def Pg.all : Pg → List Pg
 | .skip => [.skip]
 | .asg v e => [.asg v e]
 | .seq a b => .seq a b :: (a.all ++ b.all)
 | .ite t a b => .ite t a b :: (a.all ++ b.all)
 | .whl t a => .whl t a :: a.all
 | .cho a b => .cho a b :: (a.all ++ b.all)
 | .asm t => [.asm t]
theorem Pg.all_le (p : Pg) : p.all.length ≤ p.ser.length := by
 induction p <;> simp [Pg.all, Pg.ser] <;> omega
end Go.Proofs.YtgkoljphndgoeaaGreatDoor
namespace Go.Proofs.YtgkoljphndgoeaaGreatDoor
open Go.RowKit
def StV (w : World) (B : Nat) : Pg → Value → Prop
 | .skip, v => v = .iface 139 (.agg #[])
 | .asg x e, v => ∃ a b, v = .iface 116 (.agg #[.string (bs [x]), a, b]) ∧ RepH w B e a b
 | .seq p q, v => ∃ a b, v = .iface 275 (.agg #[a, b]) ∧ StV w B p a ∧ StV w B q b
 | .ite t p q, v => ∃ x y a b, v = .iface 277 (.agg #[x, y, a, b]) ∧ RepH w B t x y ∧ StV w B p a ∧ StV w B q b
 | .whl t p, v => ∃ x y a, v = .iface 156 (.agg #[x, y, a]) ∧ RepH w B t x y ∧ StV w B p a
 | .cho p q, v => ∃ a b, v = .iface 150 (.agg #[a, b]) ∧ StV w B p a ∧ StV w B q b
 | .asm t, v => ∃ x y, v = .iface 154 (.agg #[x, y]) ∧ RepH w B t x y
theorem StV.forms {w : World} {B : Nat} {p : Pg} {v : Value} (h : StV w B p v) : ∃ T u, v = .iface T (.agg u) := by
 cases p with
 | skip => exact ⟨_, _, h⟩
 | asg x e => obtain ⟨a, b, rfl, _⟩ := h; exact ⟨_, _, rfl⟩
 | seq p q => obtain ⟨a, b, rfl, _⟩ := h; exact ⟨_, _, rfl⟩
 | ite t p q => obtain ⟨x, y, a, b, rfl, _⟩ := h; exact ⟨_, _, rfl⟩
 | whl t p => obtain ⟨x, y, a, rfl, _⟩ := h; exact ⟨_, _, rfl⟩
 | cho p q => obtain ⟨a, b, rfl, _⟩ := h; exact ⟨_, _, rfl⟩
 | asm t => obtain ⟨x, y, rfl, _⟩ := h; exact ⟨_, _, rfl⟩
theorem StV.below {w w' : World} {B : Nat} (hb : Below w.heap.size w w') : ∀ {p : Pg} {v : Value}, StV w B p v → StV w' B p v := by
 intro p
 induction p with
 | skip => exact fun h => h
 | asg x e => rintro v ⟨a, b, h, h1⟩; exact ⟨a, b, h, h1.below hb⟩
 | seq p q ihp ihq => rintro v ⟨a, b, h, h1, h2⟩; exact ⟨a, b, h, ihp h1, ihq h2⟩
 | ite t p q ihp ihq => rintro v ⟨x, y, a, b, h, h0, h1, h2⟩; exact ⟨x, y, a, b, h, h0.below hb, ihp h1, ihq h2⟩
 | whl t p ihp => rintro v ⟨x, y, a, h, h0, h1⟩; exact ⟨x, y, a, h, h0.below hb, ihp h1⟩
 | cho p q ihp ihq => rintro v ⟨a, b, h, h1, h2⟩; exact ⟨a, b, h, ihp h1, ihq h2⟩
 | asm t => rintro v ⟨x, y, h, h0⟩; exact ⟨x, y, h, h0.below hb⟩
def StPost (w0 : World) (B : Nat) (p : Pg) (w : World) (e : Ending) (w' : World) : Prop := ∃ T u, e = .returned (.iface T (.agg u)) ∧ StV w0 B p (.iface T (.agg u)) ∧ Below w.heap.size w w'
def TwoPost (w0 : World) (B : Nat) (p q : Pg) (w : World) (e : Ending) (w' : World) : Prop := ∃ T u T2 u2, e = .returned (.agg #[.iface T (.agg u), .iface T2 (.agg u2)]) ∧ StV w0 B p (.iface T (.agg u)) ∧ StV w0 B q (.iface T2 (.agg u2)) ∧ Below w.heap.size w w'
set_option maxRecDepth 100000 in
set_option maxHeartbeats 4000000 in
theorem two_of (w0 : World) (B : Nat) (p q : Pg) (w : World) (b o n : Nat) (x1 x2 : Int) (p1 p2 : Option Addr) (m1 m2 n1 n2 : Nat)
    (k0 : w.cell? ⟨b, o, none⟩ = some (.int .u8 x1)) (k1 : w.cell? ⟨b, o + 1, none⟩ = some (.slice p1 m1 n1)) (k2 : w.cell? ⟨b, o + 2, none⟩ = some (.int .u8 x2)) (k3 : w.cell? ⟨b, o + 3, none⟩ = some (.slice p2 m2 n2))
    (c1 : ∀ w', Below w.heap.size w w' → Calls Tryz.prog 223 #[.agg #[.int .u8 x1, .slice p1 m1 n1]] w' (StPost w0 B p w'))
    (c2 : ∀ w', Below w.heap.size w w' → Calls Tryz.prog 223 #[.agg #[.int .u8 x2, .slice p2 m2 n2]] w' (StPost w0 B q w')) :
    Calls Tryz.prog 256 #[.slice (some ⟨b, o, none⟩) 2 n] w (TwoPost w0 B p q w) := by
  have C1 := Lib.hid c1
  have C2 := Lib.hid c2
  clear c1 c2
  go_enter Tryz.func256, Tryz.ntmps256
  go_wp2_with fail
  have hB := (Below.refl w.heap.size w).alloc (Nat.le_refl _) (.cells #[.nilIface, .nilIface] 148)
  have t0 := Blk.new w #[.nilIface, .nilIface] 148
  generalize w.alloc (.cells #[.nilIface, .nilIface] 148) = W0 at *
  have q0 : W0.cell? ⟨w.heap.size, 0, none⟩ = some .nilIface := t0.cell 0
  have q1 : W0.cell? ⟨w.heap.size, 1, none⟩ = some .nilIface := t0.cell 1
  have r0 := t0.free 0
  have r1 := t0.free 1
  have hlt := t0.lt
  have j0 := ckeep hB k0
  have j1 := ckeep hB k1
  have j2 := ckeep hB k2
  have j3 := ckeep hB k3
  have hB' := hB.drew
  clear k0 k1 k2 k3 t0
  go_region_with (first
    | (go_at_call 223; (with_reducible refine (C1.out _ hB').mono ?_); rintro e w2 ⟨T1, u1, rfl, hst1, hq⟩;
       have z0 := ckeep hq q0; have z1 := ckeep hq q1; have y0 := (hq.frozen (p := ⟨w.heap.size, 0, none⟩) hlt).trans r0; have y1 := (hq.frozen (p := ⟨w.heap.size, 1, none⟩) hlt).trans r1;
       have i2 := ckeep hq j2; have i3 := ckeep hq j3; have hlt2 := cell_lt z0; have hB2 := hB'.trans (hq.mono hB'.size))
    | (go_at_call 223; (with_reducible refine (C2.out _ hB2).mono ?_); rintro e w3 ⟨T2, u2, rfl, hst2, hq2⟩;
       have z0 := ckeep hq2 z0; have z1 := ckeep hq2 z1; have y0 := (hq2.frozen (p := ⟨w.heap.size, 0, none⟩) hlt2).trans y0; have y1 := (hq2.frozen (p := ⟨w.heap.size, 1, none⟩) hlt2).trans y1;
       have hB3 := hB2.trans (hq2.mono hB2.size)))
  all_goals
    go_wp2_with fail
    have a0 : ((w3.setCell ⟨w.heap.size, 0, none⟩ (.iface T1 (.agg u1))).setCell ⟨w.heap.size, 1, none⟩ (.iface T2 (.agg u2))).cell? ⟨w.heap.size, 0, none⟩ = some (.iface T1 (.agg u1)) := by simp [go_sem, z0]
    have a1 : ((w3.setCell ⟨w.heap.size, 0, none⟩ (.iface T1 (.agg u1))).setCell ⟨w.heap.size, 1, none⟩ (.iface T2 (.agg u2))).cell? ⟨w.heap.size, 1, none⟩ = some (.iface T2 (.agg u2)) := by simp [go_sem, z1]
    exact bodyPost_ret (v := .agg #[.iface T1 (.agg u1), .iface T2 (.agg u2)]) (by simp [results, Tryz.results256, go_sem, a0, a1]) rfl ⟨T1, u1, T2, u2, rfl, hst1, hst2, (hB3.setCell (p := ⟨w.heap.size, 0, none⟩) (Nat.le_refl _) _).setCell (p := ⟨w.heap.size, 1, none⟩) (Nat.le_refl _) _⟩
theorem len_emb (t : Tm) (r : Fo) : (emb t r).len = r.len + 1 := by cases t <;> rfl
theorem st_skip (w0 : World) (B : Nat) (w : World) (ya : Option Addr) (ym : Nat) :
  Calls Tryz.prog 223 #[.agg #[.int .u8 115, .slice ya 0 ym]] w (StPost w0 B .skip w) := by
 go_enter Tryz.func223, Tryz.ntmps223
 go_wp2_with fail
 go_ret
 exact ⟨_, _, rfl, rfl, (Below.refl _ _).alloc (Nat.le_refl _) _⟩
theorem boxed (w : World) (c : Int) (a : Option Addr) (m n : Nat) : ∃ W0, w.alloc (.cells #[.int .u8 c, .slice a m n] 110) = W0 ∧ Below w.heap.size w W0 ∧ Below w.heap.size w W0.drew ∧ w.heap.size < W0.heap.size ∧
  W0.cell? ⟨w.heap.size, 0, none⟩ = some (.int .u8 c) ∧ W0.cell? ⟨w.heap.size, 1, none⟩ = some (.slice a m n) := by
 have t0 := Blk.new w #[.int .u8 c, .slice a m n] 110
 have hB := (Below.refl w.heap.size w).alloc (Nat.le_refl _) (.cells #[.int .u8 c, .slice a m n] 110)
 exact ⟨_, rfl, hB, hB.drew, t0.lt, t0.cell 0, t0.cell 1⟩
set_option maxRecDepth 100000 in
set_option maxHeartbeats 4000000 in
theorem st_seq (w0 : World) (B : Nat) (p q : Pg) (w : World) (b n : Nat)
  (c1 : ∀ w', Below w.heap.size w w' → Calls Tryz.prog 256 #[.slice (some ⟨b, 0, none⟩) 2 n] w' (TwoPost w0 B p q w')) :
  Calls Tryz.prog 223 #[.agg #[.int .u8 59, .slice (some ⟨b, 0, none⟩) 2 n]] w (StPost w0 B (.seq p q) w) := by
 have C1 := Lib.hid c1
 clear c1
 obtain ⟨W0, hW0, hB, hB', hlt, q0, q1⟩ := boxed w 59 (some ⟨b, 0, none⟩) 2 n
 go_enter Tryz.func223, Tryz.ntmps223
 go_wp2_with fail
 refine (C1.out _ hB).mono ?_
 rintro e w2 ⟨T1, u1, T2, u2, rfl, hst1, hst2, hq⟩
 have HB := Lib.hid (hB.trans (hq.mono hB.size))
 have H1 := Lib.hid hst1
 have H2 := Lib.hid hst2
 clear hq hst1 hst2 hB hB' q0 q1
 go_wp2_with fail
 go_ret
 exact ⟨_, _, rfl, ⟨_, _, rfl, H1.out, H2.out⟩, HB.out⟩
set_option maxRecDepth 100000 in
set_option maxHeartbeats 4000000 in
theorem st_cho (w0 : World) (B : Nat) (p q : Pg) (w : World) (b n : Nat)
  (c1 : ∀ w', Below w.heap.size w w' → Calls Tryz.prog 256 #[.slice (some ⟨b, 0, none⟩) 2 n] w' (TwoPost w0 B p q w')) :
  Calls Tryz.prog 223 #[.agg #[.int .u8 47, .slice (some ⟨b, 0, none⟩) 2 n]] w (StPost w0 B (.cho p q) w) := by
 have C1 := Lib.hid c1
 clear c1
 obtain ⟨W0, hW0, hB, hB', hlt, q0, q1⟩ := boxed w 47 (some ⟨b, 0, none⟩) 2 n
 go_enter Tryz.func223, Tryz.ntmps223
 go_wp2_with fail
 refine (C1.out _ hB).mono ?_
 rintro e w2 ⟨T1, u1, T2, u2, rfl, hst1, hst2, hq⟩
 have HB := Lib.hid (hB.trans (hq.mono hB.size))
 have H1 := Lib.hid hst1
 have H2 := Lib.hid hst2
 clear hq hst1 hst2 hB hB' q0 q1
 go_wp2_with fail
 go_ret
 exact ⟨_, _, rfl, ⟨_, _, rfl, H1.out, H2.out⟩, HB.out⟩
set_option maxRecDepth 100000 in
set_option maxHeartbeats 4000000 in
theorem st_asm (w0 : World) (B : Nat) (t : Tm) (w : World) (b n : Nat) (x1 : Int) (p1 : Option Addr) (m1 n1 : Nat)
  (k0 : w.cell? ⟨b, 0, none⟩ = some (.int .u8 x1)) (k1 : w.cell? ⟨b, 1, none⟩ = some (.slice p1 m1 n1)) (hr : RepH w0 B t (.int .u8 x1) (.slice p1 m1 n1)) :
  Calls Tryz.prog 223 #[.agg #[.int .u8 126, .slice (some ⟨b, 0, none⟩) 1 n]] w (StPost w0 B (.asm t) w) := by
 have HR := Lib.hid hr
 clear hr
 obtain ⟨W0, hW0, hB, hB', hlt, q0, q1⟩ := boxed w 126 (some ⟨b, 0, none⟩) 1 n
 have j0 := ckeep hB k0
 have j1 := ckeep hB k1
 clear k0 k1
 go_enter Tryz.func223, Tryz.ntmps223
 go_wp2_with fail
 go_ret
 exact ⟨_, _, rfl, ⟨_, _, rfl, HR.out⟩, hB⟩
set_option maxRecDepth 100000 in
set_option maxHeartbeats 4000000 in
theorem st_asg (w0 : World) (B : Nat) (v : UInt8) (x : Tm) (w : World) (b n : Nat) (x1 x2 : Int) (p1 p2 : Option Addr) (m1 m2 n1 n2 : Nat)
  (k0 : w.cell? ⟨b, 0, none⟩ = some (.int .u8 x1)) (k1 : w.cell? ⟨b, 1, none⟩ = some (.slice p1 m1 n1)) (k2 : w.cell? ⟨b, 2, none⟩ = some (.int .u8 x2)) (k3 : w.cell? ⟨b, 3, none⟩ = some (.slice p2 m2 n2))
  (hr : RepH w0 B x (.int .u8 x2) (.slice p2 m2 n2))
  (c1 : ∀ w', Below w.heap.size w w' → Calls Tryz.prog 130 #[.agg #[.int .u8 x1, .slice p1 m1 n1]] w' fun e w2 => e = .returned (.string (bs [v])) ∧ Below w'.heap.size w' w2) :
  Calls Tryz.prog 223 #[.agg #[.int .u8 97, .slice (some ⟨b, 0, none⟩) 2 n]] w (StPost w0 B (.asg v x) w) := by
 have HR := Lib.hid hr
 have C1 := Lib.hid c1
 clear hr c1
 obtain ⟨W0, hW0, hB, hB', hlt, q0, q1⟩ := boxed w 97 (some ⟨b, 0, none⟩) 2 n
 have j0 := ckeep hB k0
 have j1 := ckeep hB k1
 have j2 := ckeep hB k2
 have j3 := ckeep hB k3
 clear k0 k1 k2 k3
 go_enter Tryz.func223, Tryz.ntmps223
 go_wp2_with fail
 go_region_held3 (fun w' => Below w.heap.size w w' ∧ w'.cell? ⟨w.heap.size, 0, none⟩ = some (.int .u8 97) ∧ w'.cell? ⟨w.heap.size, 1, none⟩ = some (.slice (some ⟨b, 0, none⟩) 2 n) ∧
   w'.cell? ⟨b, 0, none⟩ = some (.int .u8 x1) ∧ w'.cell? ⟨b, 1, none⟩ = some (.slice p1 m1 n1) ∧ w'.cell? ⟨b, 2, none⟩ = some (.int .u8 x2) ∧ w'.cell? ⟨b, 3, none⟩ = some (.slice p2 m2 n2))
  ((go_split_ands; refine ⟨?_, ?_, ?_, ?_, ?_, ?_, ?_⟩ <;> first | assumption | exact ckeep hq (by assumption) | exact Below.trans (by assumption) (hq.mono (by have := Below.size (by assumption : Below w.heap.size w _); omega))))
  (first | (go_at_call 130; (with_reducible refine (C1.out _ ?_).mono ?_); (go_split_ands; assumption); rintro e w2 ⟨rfl, hq⟩))
 go_wp2_with fail
 go_split_ands
 go_ret
 exact ⟨_, _, rfl, ⟨_, _, rfl, HR.out⟩, by assumption⟩
set_option maxRecDepth 100000 in
set_option maxHeartbeats 4000000 in
theorem st_ite (w0 : World) (B : Nat) (t : Tm) (p q : Pg) (w : World) (b n : Nat) (x1 : Int) (p1 : Option Addr) (m1 n1 : Nat) (hn : 3 ≤ n)
  (k0 : w.cell? ⟨b, 0, none⟩ = some (.int .u8 x1)) (k1 : w.cell? ⟨b, 1, none⟩ = some (.slice p1 m1 n1))
  (hr : RepH w0 B t (.int .u8 x1) (.slice p1 m1 n1))
  (c1 : ∀ w', Below w.heap.size w w' → Calls Tryz.prog 256 #[.slice (some ⟨b, 2, none⟩) 2 (n - 1)] w' (TwoPost w0 B p q w')) :
  Calls Tryz.prog 223 #[.agg #[.int .u8 63, .slice (some ⟨b, 0, none⟩) 3 n]] w (StPost w0 B (.ite t p q) w) := by
 have HR := Lib.hid hr
 have C1 := Lib.hid c1
 clear hr c1
 obtain ⟨W0, hW0, hB, hB', hlt, q0, q1⟩ := boxed w 63 (some ⟨b, 0, none⟩) 3 n
 have j0 := ckeep hB k0
 have j1 := ckeep hB k1
 have hn1 : ¬ n = 1 := by omega
 clear k0 k1
 go_enter Tryz.func223, Tryz.ntmps223
 go_wp2_with fail
 go_region_held3 (fun w' => Below w.heap.size w w' ∧ w'.cell? ⟨w.heap.size, 0, none⟩ = some (.int .u8 63) ∧ w'.cell? ⟨w.heap.size, 1, none⟩ = some (.slice (some ⟨b, 0, none⟩) 3 n) ∧
   w'.cell? ⟨b, 0, none⟩ = some (.int .u8 x1) ∧ w'.cell? ⟨b, 1, none⟩ = some (.slice p1 m1 n1))
  ((go_split_ands; refine ⟨?_, ?_, ?_, ?_, ?_⟩ <;> first | assumption | exact ckeep hq (by assumption) | exact Below.trans (by assumption) (hq.mono (by have := Below.size (by assumption : Below w.heap.size w _); omega))))
  (first | (go_at_call 256; (with_reducible refine (C1.out _ ?_).mono ?_); (go_split_ands; assumption); rintro e w2 ⟨T1, u1, T2, u2, rfl, hst1, hst2, hq⟩))
 go_wp2_with fail
 go_split_ands
 go_ret
 exact ⟨_, _, rfl, ⟨_, _, _, _, rfl, HR.out, hst1, hst2⟩, by assumption⟩
set_option maxRecDepth 100000 in
set_option maxHeartbeats 4000000 in
theorem st_whl (w0 : World) (B : Nat) (t : Tm) (p : Pg) (w : World) (b n : Nat) (x1 x2 : Int) (p1 p2 : Option Addr) (m1 m2 n1 n2 : Nat)
  (k0 : w.cell? ⟨b, 0, none⟩ = some (.int .u8 x1)) (k1 : w.cell? ⟨b, 1, none⟩ = some (.slice p1 m1 n1)) (k2 : w.cell? ⟨b, 2, none⟩ = some (.int .u8 x2)) (k3 : w.cell? ⟨b, 3, none⟩ = some (.slice p2 m2 n2))
  (hr : RepH w0 B t (.int .u8 x1) (.slice p1 m1 n1))
  (c1 : ∀ w', Below w.heap.size w w' → Calls Tryz.prog 223 #[.agg #[.int .u8 x2, .slice p2 m2 n2]] w' (StPost w0 B p w')) :
  Calls Tryz.prog 223 #[.agg #[.int .u8 64, .slice (some ⟨b, 0, none⟩) 2 n]] w (StPost w0 B (.whl t p) w) := by
 have HR := Lib.hid hr
 have C1 := Lib.hid c1
 clear hr c1
 obtain ⟨W0, hW0, hB, hB', hlt, q0, q1⟩ := boxed w 64 (some ⟨b, 0, none⟩) 2 n
 have j0 := ckeep hB k0
 have j1 := ckeep hB k1
 have j2 := ckeep hB k2
 have j3 := ckeep hB k3
 clear k0 k1 k2 k3
 go_enter Tryz.func223, Tryz.ntmps223
 go_wp2_with fail
 go_region_held3 (fun w' => Below w.heap.size w w' ∧ w'.cell? ⟨w.heap.size, 0, none⟩ = some (.int .u8 64) ∧ w'.cell? ⟨w.heap.size, 1, none⟩ = some (.slice (some ⟨b, 0, none⟩) 2 n) ∧
   w'.cell? ⟨b, 0, none⟩ = some (.int .u8 x1) ∧ w'.cell? ⟨b, 1, none⟩ = some (.slice p1 m1 n1) ∧ w'.cell? ⟨b, 2, none⟩ = some (.int .u8 x2) ∧ w'.cell? ⟨b, 3, none⟩ = some (.slice p2 m2 n2))
  ((go_split_ands; refine ⟨?_, ?_, ?_, ?_, ?_, ?_, ?_⟩ <;> first | assumption | exact ckeep hq (by assumption) | exact Below.trans (by assumption) (hq.mono (by have := Below.size (by assumption : Below w.heap.size w _); omega))))
  (first | (go_at_call 223; (with_reducible refine (C1.out _ ?_).mono ?_); (go_split_ands; assumption); rintro e w2 ⟨T1, u1, rfl, hst1, hq⟩))
 go_wp2_with fail
 go_split_ands
 go_ret
 exact ⟨_, _, rfl, ⟨_, _, _, rfl, HR.out, hst1⟩, by assumption⟩
theorem pg_cells {w : World} {B : Nat} {p : Pg} {r : Fo} {b o : Nat} (h : RepF w B (p.fo r) b o) : (∃ (a : Option Addr) (m : Nat), w.cell? ⟨b, o, none⟩ = some (.int .u8 p.letter.toNat) ∧ w.cell? ⟨b, o + 1, none⟩ = some (.slice a p.kids.len m) ∧ RepN w B p.letter p.kids (.int .u8 p.letter.toNat) (.slice a p.kids.len m)) ∧ RepF w B r b (o + 2) := by
 rw [Pg.fo_eq] at h
 obtain ⟨⟨x, y, h1, h2, h3⟩, h4⟩ := h
 obtain ⟨a, m, rfl, rfl⟩ := RepN.forms (show RepN w B p.letter p.kids x y from h3)
 exact ⟨⟨a, m, h1, h2, h3⟩, h4⟩
theorem st_any {wide : Bool} : ∀ (p : Pg), p.ok wide → p.ser.length ≤ 1000 → ∀ (w0 : World) (B : Nat) (w : World) (ya : Option Addr) (ym : Nat), Below w0.heap.size w0 w → RepN w0 B p.letter p.kids (.int .u8 p.letter.toNat) (.slice ya p.kids.len ym) →
  Calls Tryz.prog 223 #[.agg #[.int .u8 p.letter.toNat, .slice ya p.kids.len ym]] w (StPost w0 B p w) := by
 have two : ∀ (p q : Pg) (w0 w : World) (B kb o n : Nat), Below w0.heap.size w0 w → RepF w0 B (p.fo (q.fo .nil)) kb o →
   (∀ (w : World) (ya : Option Addr) (ym : Nat), Below w0.heap.size w0 w → RepN w0 B p.letter p.kids (.int .u8 p.letter.toNat) (.slice ya p.kids.len ym) → Calls Tryz.prog 223 #[.agg #[.int .u8 p.letter.toNat, .slice ya p.kids.len ym]] w (StPost w0 B p w)) →
   (∀ (w : World) (ya : Option Addr) (ym : Nat), Below w0.heap.size w0 w → RepN w0 B q.letter q.kids (.int .u8 q.letter.toNat) (.slice ya q.kids.len ym) → Calls Tryz.prog 223 #[.agg #[.int .u8 q.letter.toNat, .slice ya q.kids.len ym]] w (StPost w0 B q w)) →
   ∀ w', Below w.heap.size w w' → Calls Tryz.prog 256 #[.slice (some ⟨kb, o, none⟩) 2 n] w' (TwoPost w0 B p q w') := by
  intro p q w0 w B kb o n hb hr ip iq w' hb2
  obtain ⟨⟨a1, m1, k0, k1, hr1⟩, hr'⟩ := pg_cells hr
  obtain ⟨⟨a2, m2, k2, k3, hr2⟩, _⟩ := pg_cells hr'
  have hb3 := bnext hb hb2
  exact two_of w0 B p q w' kb o n _ _ _ _ _ _ _ _ (ckeep hb3 k0) (ckeep hb3 k1) (ckeep hb3 k2) (ckeep hb3 k3) (fun w' h => ip w' _ _ (bnext hb3 h) hr1) (fun w' h => iq w' _ _ (bnext hb3 h) hr2)
 intro p
 induction p with
 | skip => intro _ _ w0 B w ya ym _ _; exact st_skip w0 B w ya ym
 | asg v e =>
  intro hok hn w0 B w ya ym hb ⟨_, a, n, h1, hcap, h2⟩
  cases h1
  rcases h2 with h2 | ⟨kb, rfl, hkb, hr⟩
  ·cases h2
  obtain ⟨⟨x, y, k0, k1, hrv⟩, hr'⟩ := RepF.cons.1 hr
  obtain ⟨va, vm, rfl, rfl⟩ := RepN.forms hrv
  obtain ⟨⟨pe, ne, me, k2, k3, hre⟩, _⟩ := RepH.of hr'
  obtain ⟨kv, hv⟩ : ∃ kv, FOk false (.nd v .nil .nil) [kv] := by
   have h1 := hok.1
   cases wide
   ·exact ⟨118, 118, [], [], rfl, by simp [gopk, gopk0, wideK, h1], rfl, rfl⟩
   ·exact ⟨86, 86, [], [], rfl, by simp [gopk, gopk0, wideK, h1], rfl, rfl⟩
  have hl : (Pg.asg v e).kids.len = 2 := by simp only [Pg.kids, Fo.len, len_emb]
  rw [hl] at hcap ⊢
  exact st_asg w0 B v e w kb ym _ _ _ _ _ _ _ _ (ckeep hb k0) (ckeep hb k1) (ckeep hb k2) (ckeep hb k3) hre (fun w' h => text_node v .nil kv B w' va vm (by simp [Fo.ser]) hv (RepN.below (bnext hb h) hrv))
 | seq p q ip iq =>
  intro hok hn w0 B w ya ym hb ⟨_, a, n, h1, hcap, h2⟩
  cases h1
  simp [Pg.ser] at hn
  rcases h2 with h2 | ⟨kb, rfl, hkb, hr⟩
  ·have h3 := congrArg Fo.len h2; simp only [Pg.kids, Pg.len_fo, Fo.len] at h3; omega
  have hl : (Pg.seq p q).kids.len = 2 := by simp only [Pg.kids, Pg.len_fo, Fo.len]
  rw [hl] at hcap ⊢
  exact st_seq w0 B p q w kb ym (two p q w0 w B kb 0 ym hb hr (fun w ya ym => ip hok.1 (by omega) w0 B w ya ym) (fun w ya ym => iq hok.2 (by omega) w0 B w ya ym))
 | ite t p q ip iq =>
  intro hok hn w0 B w ya ym hb ⟨_, a, n, h1, hcap, h2⟩
  cases h1
  simp [Pg.ser] at hn
  rcases h2 with h2 | ⟨kb, rfl, hkb, hr⟩
  ·obtain ⟨kids, e⟩ := emb_nd t
   simp only [Pg.kids, e] at h2; cases h2
  obtain ⟨⟨pe, ne, me, k0, k1, hre⟩, hr'⟩ := RepH.of hr
  have hl : (Pg.ite t p q).kids.len = 3 := by simp only [Pg.kids, Pg.len_fo, len_emb, Fo.len]
  rw [hl] at hcap ⊢
  exact st_ite w0 B t p q w kb ym _ _ _ _ hcap (ckeep hb k0) (ckeep hb k1) hre (two p q w0 w B kb 2 (ym - 1) hb hr' (fun w ya ym => ip hok.2.1 (by omega) w0 B w ya ym) (fun w ya ym => iq hok.2.2 (by omega) w0 B w ya ym))
 | whl t p ip =>
  intro hok hn w0 B w ya ym hb ⟨_, a, n, h1, hcap, h2⟩
  cases h1
  simp [Pg.ser] at hn
  rcases h2 with h2 | ⟨kb, rfl, hkb, hr⟩
  ·obtain ⟨kids, e⟩ := emb_nd t
   simp only [Pg.kids, e] at h2; cases h2
  obtain ⟨⟨pe, ne, me, k0, k1, hre⟩, hr'⟩ := RepH.of hr
  obtain ⟨⟨a2, m2, k2, k3, hr2⟩, _⟩ := pg_cells hr'
  have hl : (Pg.whl t p).kids.len = 2 := by simp only [Pg.kids, Pg.len_fo, len_emb, Fo.len]
  rw [hl] at hcap ⊢
  exact st_whl w0 B t p w kb ym _ _ _ _ _ _ _ _ (ckeep hb k0) (ckeep hb k1) (ckeep hb k2) (ckeep hb k3) hre (fun w' h => ip hok.2 (by omega) w0 B w' _ _ (bnext hb h) hr2)
 | cho p q ip iq =>
  intro hok hn w0 B w ya ym hb ⟨_, a, n, h1, hcap, h2⟩
  cases h1
  simp [Pg.ser] at hn
  rcases h2 with h2 | ⟨kb, rfl, hkb, hr⟩
  ·have h3 := congrArg Fo.len h2; simp only [Pg.kids, Pg.len_fo, Fo.len] at h3; omega
  have hl : (Pg.cho p q).kids.len = 2 := by simp only [Pg.kids, Pg.len_fo, Fo.len]
  rw [hl] at hcap ⊢
  exact st_cho w0 B p q w kb ym (two p q w0 w B kb 0 ym hb hr (fun w ya ym => ip hok.1 (by omega) w0 B w ya ym) (fun w ya ym => iq hok.2 (by omega) w0 B w ya ym))
 | asm t =>
  intro hok hn w0 B w ya ym hb ⟨_, a, n, h1, hcap, h2⟩
  cases h1
  rcases h2 with h2 | ⟨kb, rfl, hkb, hr⟩
  ·obtain ⟨kids, e⟩ := emb_nd t
   simp only [Pg.kids, e] at h2; cases h2
  obtain ⟨⟨pe, ne, me, k0, k1, hre⟩, _⟩ := RepH.of hr
  have hl : (Pg.asm t).kids.len = 1 := by simp only [Pg.kids, len_emb, Fo.len]
  rw [hl] at hcap ⊢
  exact st_asm w0 B t w kb ym _ _ _ _ (ckeep hb k0) (ckeep hb k1) hre
def ProgPost (p : Pg) (w : World) (e : Ending) (w' : World) : Prop := ∃ T u, e = .returned (.tuple #[.iface T (.agg u), .bool true]) ∧ StV w' w.heap.size p (.iface T (.agg u)) ∧ Below w.heap.size w w'
set_option maxHeartbeats 1000000 in
theorem stmt_yes (s : ByteArray) (w : World) {p : Pg} (hp : p.ok false) (hs : s.data.toList = p.ser) (hl : s.size ≤ 200) :
  Calls Tryz.prog 169 #[.string s, .int .u8 112] w (ProgPost p w) := by
 have hsz : p.ser.length ≤ 1000 := by have := congrArg List.length hs; simp at this; omega
 have HC := fun w => Lib.hid (gread_yes 112 s w (c := p.letter) (kids := p.kids) (by rw [← Pg.fo_eq]; exact pg_ok hp rfl) (by rw [hs, ← Pg.fo_eq, pg_ser]; simp [Fo.ser]) (by rw [show lim 112 = 200 from rfl]; exact hl))
 have HS := Lib.hid (st_any p hp hsz)
 clear hs
 go_enter Tryz.func169, Tryz.ntmps169
 go_wp2_with fail
 refine (HC _).out.mono ?_
 rintro e w1 ⟨ya, ym, rfl, hr, hb⟩
 have HB := Lib.hid hb
 have HR := Lib.hid hr
 clear hb hr
 go_wp2_with fail
 refine (HS.out w1 w.heap.size _ ya ym ((Below.refl _ _).alloc (Nat.le_refl _) _) HR.out).mono ?_
 rintro e w2 ⟨T, u, rfl, hst, hb⟩
 have HB2 := Lib.hid (bnext (bput HB.out _) hb)
 have H3 := Lib.hid (StV.below (((Below.refl w1.heap.size w1).alloc (Nat.le_refl _) _).trans (hb.mono (by simp))) hst)
 clear hb hst
 go_wp2_with fail
 go_ret2
 exact ⟨T, u, rfl, H3.out, HB2.out⟩
set_option maxHeartbeats 1000000 in
theorem stmt_no (s : ByteArray) (w : World) (h : ¬ (PValid false s.data.toList ∧ s.size ≤ 200)) :
  Calls Tryz.prog 169 #[.string s, .int .u8 112] w fun e w' => e = .returned (.tuple #[.nilIface, .bool false]) ∧ Below w.heap.size w w' := by
 have HC := fun w => Lib.hid (gread_no 112 s w (by simp [IsKind, NarK]) (by rw [pvalid_iff, show lim 112 = 200 from rfl]; exact h))
 clear h
 go_enter Tryz.func169, Tryz.ntmps169
 go_wp2_with fail
 refine (HC _).out.mono ?_
 rintro e w1 ⟨rfl, hb⟩
 have HB := Lib.hid hb
 clear hb
 go_wp2_with fail
 go_ret2
 exact ⟨rfl, bput HB.out _⟩
set_option maxHeartbeats 1000000 in
theorem prog_yes (s : ByteArray) (w : World) {p : Pg} (hp : p.ok false) (hs : s.data.toList = p.ser) (hl : s.size ≤ 200) :
  Calls Tryz.prog 93 #[.string s] w (ProgPost p w) := by
 have HC := fun w => Lib.hid (stmt_yes s w hp hs hl)
 clear hs
 go_enter Tryz.func93, Tryz.ntmps93
 go_wp2_with fail
 refine (HC _).out.mono ?_
 rintro e w1 ⟨T, u, rfl, hst, hb⟩
 have HB := Lib.hid hb
 have HS := Lib.hid hst
 clear hb hst
 go_wp2_with fail
 go_ret2
 exact ⟨T, u, rfl, HS.out, HB.out⟩
set_option maxHeartbeats 1000000 in
theorem prog_no (s : ByteArray) (w : World) (h : ¬ (PValid false s.data.toList ∧ s.size ≤ 200)) :
  Calls Tryz.prog 93 #[.string s] w fun e w' => e = .returned (.tuple #[.nilIface, .bool false]) ∧ Below w.heap.size w w' := by
 have HC := fun w => Lib.hid (stmt_no s w h)
 clear h
 go_enter Tryz.func93, Tryz.ntmps93
 go_wp2_with fail
 refine (HC _).out.mono ?_
 rintro e w1 ⟨rfl, hb⟩
 have HB := Lib.hid hb
 clear hb
 go_wp2_with fail
 go_ret2
 exact ⟨rfl, HB.out⟩
set_option maxHeartbeats 1000000 in
theorem implPV_yes (s : ByteArray) (w : World) {p : Pg} (hp : p.ok false) (hs : s.data.toList = p.ser) (hl : s.size ≤ 200) :
  Calls Tryz.prog 27 #[.string s] w fun e w' => e = .returned (.bool true) ∧ Below w.heap.size w w' := by
 have HC := fun w => Lib.hid (prog_yes s w hp hs hl)
 clear hs
 go_enter Tryz.func27, Tryz.ntmps27
 go_wp2_with fail
 refine (HC _).out.mono ?_
 rintro e w1 ⟨T, u, rfl, _, hb⟩
 have HB := Lib.hid hb
 clear hb
 go_wp2_with fail
 go_ret
 exact ⟨rfl, HB.out⟩
set_option maxHeartbeats 1000000 in
theorem implPV_no (s : ByteArray) (w : World) (h : ¬ (PValid false s.data.toList ∧ s.size ≤ 200)) :
  Calls Tryz.prog 27 #[.string s] w fun e w' => e = .returned (.bool false) ∧ Below w.heap.size w w' := by
 have HC := fun w => Lib.hid (prog_no s w h)
 clear h
 go_enter Tryz.func27, Tryz.ntmps27
 go_wp2_with fail
 refine (HC _).out.mono ?_
 rintro e w1 ⟨rfl, hb⟩
 have HB := Lib.hid hb
 clear hb
 go_wp2_with fail
 go_ret
 exact ⟨rfl, HB.out⟩
def Row (w : World) (B : Nat) (T : TypeId) (v : Value) (xs : List Value) : Prop := w.ownsRow B T 1 v xs.length xs
theorem Row.kept {w w' : World} {B : Nat} {T : TypeId} {v : Value} {xs : List Value} (h : Row w B T v xs) (hb : Below w.heap.size w w') : Row w' B T v xs := by
 obtain ⟨h1, h2⟩ := h
 refine ⟨h1, ?_⟩
 rcases h2 with h2 | ⟨g, cap, cur, a, b, c, d⟩
 ·exact .inl h2
 ·exact .inr ⟨g, cap, cur, a, b, (hb.block g (Array.getElem?_eq_some_iff.1 c).1).trans c, d⟩
theorem Row.new (w : World) (T : TypeId) (xs : List Value) (hx : xs.length ≤ 1000) : Row (w.alloc (.cells xs.toArray T)) w.heap.size T (.slice (some ⟨w.heap.size, 0, none⟩) xs.length xs.length) xs := by
 refine ⟨by simp, .inr ⟨w.heap.size, xs.length, xs.toArray, rfl, Nat.le_refl _, Blk.new w xs.toArray T, Nat.le_refl _, by unfold maxLen; omega, by simp, by simp⟩⟩
theorem Row.cases {w : World} {B : Nat} {T : TypeId} {v : Value} {xs : List Value} (h : Row w B T v xs) : (v = .slice none 0 0 ∧ xs = []) ∨ ∃ g cap, v = .slice (some ⟨g, 0, none⟩) xs.length cap ∧ B ≤ g ∧ xs.length ≤ cap ∧ ∀ (j : Nat) (u : Value), xs[j]? = some u → w.cell? ⟨g, j, none⟩ = some u := by
 have h' := h
 obtain ⟨h1, h2⟩ := h
 rcases h2 with ⟨h2, h3⟩ | ⟨g, cap, cur, rfl, b, c, d, _⟩
 ·exact .inl ⟨h2, List.eq_nil_of_length_eq_zero h3⟩
 ·refine .inr ⟨g, cap, rfl, b, d, fun j u hu => ?_⟩
  have hj : j < xs.length := (List.getElem?_eq_some_iff.1 hu).1
  rw [World.ownsRow.cellAt (show World.ownsRow _ _ _ _ _ _ _ from h') j (by omega)]
  exact hu
theorem Row.one' {w : World} {B : Nat} {T : TypeId} {v a : Value} (h : Row w B T v [a]) : ∃ g cap, v = .slice (some ⟨g, 0, none⟩) 1 cap ∧ B ≤ g ∧ w.cell? ⟨g, 0, none⟩ = some a := by
 rcases h.cases with ⟨_, h2⟩ | ⟨g, cap, h1, hb, _, h3⟩
 ·cases h2
 ·exact ⟨g, cap, h1, hb, h3 0 a rfl⟩
theorem Row.two' {w : World} {B : Nat} {T : TypeId} {v a b : Value} (h : Row w B T v [a, b]) : ∃ g cap, v = .slice (some ⟨g, 0, none⟩) 2 cap ∧ B ≤ g ∧ w.cell? ⟨g, 0, none⟩ = some a ∧ w.cell? ⟨g, 1, none⟩ = some b := by
 rcases h.cases with ⟨_, h2⟩ | ⟨g, cap, h1, hb, _, h3⟩
 ·cases h2
 ·exact ⟨g, cap, h1, hb, h3 0 a rfl, h3 1 b rfl⟩
theorem Row.after {w w2 w3 : World} {T : TypeId} {v : Value} {xs ys : List Value} {g3 cap3 : Nat} (hB : Below w.heap.size w w2) (hrow : Row w2 w.heap.size T v xs)
  (hown : w3.ownsRow w.heap.size T 1 (.slice (some ⟨g3, 0, none⟩) (xs.length + ys.length) cap3) (xs.length + ys.length) (xs ++ ys)) (hgrow : w2.grownBy w3 v.ownBlock) :
  Row w3 w.heap.size T (.slice (some ⟨g3, 0, none⟩) (xs.length + ys.length) cap3) (xs ++ ys) ∧ Below w.heap.size w w3 := by
 refine ⟨?_, hB.grown hgrow hB.size (fun k hk => (World.ownsRow.lt hrow k hk).1)⟩
 unfold Row
 rw [List.length_append]
 exact hown
theorem tas_asg_skip (v : Value) (W : World) : (Instr.typeAssert (.iface 139 v) 72 116 true).run Tryz.prog W = .ok (.tuple #[.agg #[.string ⟨#[]⟩, .int .u8 0, .slice none 0 0], .bool false]) W := by kernel_rfl
theorem tas_asg_asg (v : Value) (W : World) : (Instr.typeAssert (.iface 116 v) 72 116 true).run Tryz.prog W = .ok (.tuple #[v, .bool true]) W := by kernel_rfl
theorem tas_asg_ite (v : Value) (W : World) : (Instr.typeAssert (.iface 277 v) 72 116 true).run Tryz.prog W = .ok (.tuple #[.agg #[.string ⟨#[]⟩, .int .u8 0, .slice none 0 0], .bool false]) W := by kernel_rfl
theorem tas_asg_whl (v : Value) (W : World) : (Instr.typeAssert (.iface 156 v) 72 116 true).run Tryz.prog W = .ok (.tuple #[.agg #[.string ⟨#[]⟩, .int .u8 0, .slice none 0 0], .bool false]) W := by kernel_rfl
theorem tas_asg_cho (v : Value) (W : World) : (Instr.typeAssert (.iface 150 v) 72 116 true).run Tryz.prog W = .ok (.tuple #[.agg #[.string ⟨#[]⟩, .int .u8 0, .slice none 0 0], .bool false]) W := by kernel_rfl
theorem tas_asg_asm (v : Value) (W : World) : (Instr.typeAssert (.iface 154 v) 72 116 true).run Tryz.prog W = .ok (.tuple #[.agg #[.string ⟨#[]⟩, .int .u8 0, .slice none 0 0], .bool false]) W := by kernel_rfl
theorem tas_seq_skip (v : Value) (W : World) : (Instr.typeAssert (.iface 139 v) 72 275 true).run Tryz.prog W = .ok (.tuple #[.agg #[.nilIface, .nilIface], .bool false]) W := by kernel_rfl
theorem tas_seq_asg (v : Value) (W : World) : (Instr.typeAssert (.iface 116 v) 72 275 true).run Tryz.prog W = .ok (.tuple #[.agg #[.nilIface, .nilIface], .bool false]) W := by kernel_rfl
theorem tas_seq_seq (v : Value) (W : World) : (Instr.typeAssert (.iface 275 v) 72 275 true).run Tryz.prog W = .ok (.tuple #[v, .bool true]) W := by kernel_rfl
theorem tas_seq_ite (v : Value) (W : World) : (Instr.typeAssert (.iface 277 v) 72 275 true).run Tryz.prog W = .ok (.tuple #[.agg #[.nilIface, .nilIface], .bool false]) W := by kernel_rfl
theorem tas_seq_whl (v : Value) (W : World) : (Instr.typeAssert (.iface 156 v) 72 275 true).run Tryz.prog W = .ok (.tuple #[.agg #[.nilIface, .nilIface], .bool false]) W := by kernel_rfl
theorem tas_seq_cho (v : Value) (W : World) : (Instr.typeAssert (.iface 150 v) 72 275 true).run Tryz.prog W = .ok (.tuple #[.agg #[.nilIface, .nilIface], .bool false]) W := by kernel_rfl
theorem tas_seq_asm (v : Value) (W : World) : (Instr.typeAssert (.iface 154 v) 72 275 true).run Tryz.prog W = .ok (.tuple #[.agg #[.nilIface, .nilIface], .bool false]) W := by kernel_rfl
theorem tas_ite_skip (v : Value) (W : World) : (Instr.typeAssert (.iface 139 v) 72 277 true).run Tryz.prog W = .ok (.tuple #[.agg #[.int .u8 0, .slice none 0 0, .nilIface, .nilIface], .bool false]) W := by kernel_rfl
theorem tas_ite_asg (v : Value) (W : World) : (Instr.typeAssert (.iface 116 v) 72 277 true).run Tryz.prog W = .ok (.tuple #[.agg #[.int .u8 0, .slice none 0 0, .nilIface, .nilIface], .bool false]) W := by kernel_rfl
theorem tas_ite_ite (v : Value) (W : World) : (Instr.typeAssert (.iface 277 v) 72 277 true).run Tryz.prog W = .ok (.tuple #[v, .bool true]) W := by kernel_rfl
theorem tas_ite_whl (v : Value) (W : World) : (Instr.typeAssert (.iface 156 v) 72 277 true).run Tryz.prog W = .ok (.tuple #[.agg #[.int .u8 0, .slice none 0 0, .nilIface, .nilIface], .bool false]) W := by kernel_rfl
theorem tas_ite_cho (v : Value) (W : World) : (Instr.typeAssert (.iface 150 v) 72 277 true).run Tryz.prog W = .ok (.tuple #[.agg #[.int .u8 0, .slice none 0 0, .nilIface, .nilIface], .bool false]) W := by kernel_rfl
theorem tas_ite_asm (v : Value) (W : World) : (Instr.typeAssert (.iface 154 v) 72 277 true).run Tryz.prog W = .ok (.tuple #[.agg #[.int .u8 0, .slice none 0 0, .nilIface, .nilIface], .bool false]) W := by kernel_rfl
theorem tas_whl_skip (v : Value) (W : World) : (Instr.typeAssert (.iface 139 v) 72 156 true).run Tryz.prog W = .ok (.tuple #[.agg #[.int .u8 0, .slice none 0 0, .nilIface], .bool false]) W := by kernel_rfl
theorem tas_whl_asg (v : Value) (W : World) : (Instr.typeAssert (.iface 116 v) 72 156 true).run Tryz.prog W = .ok (.tuple #[.agg #[.int .u8 0, .slice none 0 0, .nilIface], .bool false]) W := by kernel_rfl
theorem tas_whl_whl (v : Value) (W : World) : (Instr.typeAssert (.iface 156 v) 72 156 true).run Tryz.prog W = .ok (.tuple #[v, .bool true]) W := by kernel_rfl
theorem tas_whl_asm (v : Value) (W : World) : (Instr.typeAssert (.iface 154 v) 72 156 true).run Tryz.prog W = .ok (.tuple #[.agg #[.int .u8 0, .slice none 0 0, .nilIface], .bool false]) W := by kernel_rfl
theorem tas_cho_skip (v : Value) (W : World) : (Instr.typeAssert (.iface 139 v) 72 150 true).run Tryz.prog W = .ok (.tuple #[.agg #[.nilIface, .nilIface], .bool false]) W := by kernel_rfl
theorem tas_cho_asg (v : Value) (W : World) : (Instr.typeAssert (.iface 116 v) 72 150 true).run Tryz.prog W = .ok (.tuple #[.agg #[.nilIface, .nilIface], .bool false]) W := by kernel_rfl
theorem tas_cho_whl (v : Value) (W : World) : (Instr.typeAssert (.iface 156 v) 72 150 true).run Tryz.prog W = .ok (.tuple #[.agg #[.nilIface, .nilIface], .bool false]) W := by kernel_rfl
theorem tas_cho_cho (v : Value) (W : World) : (Instr.typeAssert (.iface 150 v) 72 150 true).run Tryz.prog W = .ok (.tuple #[v, .bool true]) W := by kernel_rfl
theorem tas_cho_asm (v : Value) (W : World) : (Instr.typeAssert (.iface 154 v) 72 150 true).run Tryz.prog W = .ok (.tuple #[.agg #[.nilIface, .nilIface], .bool false]) W := by kernel_rfl
end Go.Proofs.YtgkoljphndgoeaaGreatDoor
