/-
  (impl.term).text: the bytes from which a term was read.
-/
import Derived.Test.YtpdepihggpfmiabDoorRead
import Derived.Test.YtpdepihggpfmiabDoorBytes
import Derived.Test.YtpdepihggpfmiabDoorBlk
namespace Go.Proofs.YtpdepihggpfmiabDoor
open Go.RowKit

theorem RepF.at {w : World} {B : Nat} : ∀ (m : Nat) {f : Fo} {b o : Nat}, RepF w B f b o → RepF w B (f.drop m) b (o + m * 2) := by
  intro m
  induction m with
  | zero => exact fun h => h
  | succ m ih =>
    intro f b o h
    cases f with
    | nil => exact trivial
    | nd c k r =>
      have := ih h.2
      rw [show o + (m + 1) * 2 = o + 2 + m * 2 by omega]
      exact this
theorem Fo.at {f : Fo} {m : Nat} (h : m < f.len) : ∃ c k r, f.drop m = .nd c k r ∧ f.drop (m + 1) = r ∧ (f.take (m + 1)).ser = (f.take m).ser ++ (Fo.nd c k .nil).ser := by
  induction m generalizing f with
  | zero =>
    cases f with
    | nil => simp [Fo.len] at h
    | nd c k r => exact ⟨c, k, r, rfl, rfl, by simp [Fo.take, Fo.ser]⟩
  | succ m ih =>
    cases f with
    | nil => simp [Fo.len] at h
    | nd c k r =>
      obtain ⟨c', k', r', h1, h2, h3⟩ := ih (f := r) (by simp [Fo.len] at h; omega)
      refine ⟨c', k', r', h1, h2, ?_⟩
      simp only [Fo.take, Fo.ser] at h3 ⊢
      rw [h3]; simp
theorem FOk.at {wide : Bool} {f : Fo} {ks : List UInt8} (h : FOk wide f ks) : ∀ (m : Nat) {c : UInt8} {k r : Fo}, f.drop m = .nd c k r → ∃ k0, FOk wide (.nd c k .nil) [k0] := by
  intro m
  induction m generalizing f ks with
  | zero =>
    rintro c k r e
    simp only [Fo.drop] at e
    subst e
    obtain ⟨k0, ks', l, rfl, h1, h2, h3⟩ := h
    exact ⟨k0, k0, [], l, rfl, h1, h2, rfl⟩
  | succ m ih =>
    intro c k r e
    cases f with
    | nil => simp [Fo.drop] at e
    | nd c' k' r' =>
      obtain ⟨k0, ks', l, rfl, h1, h2, h3⟩ := h
      exact ih h3 e
theorem Fo.take_len {f : Fo} : f.take f.len = f := by
  induction f with
  | nil => rfl
  | nd c k r _ ih => simp [Fo.len, Fo.take, ih]

theorem enc_all : ∀ n : Nat, n < 128 → Utf8.encode (wrap32 (n : Int)) = bs [UInt8.ofNat n] := by decide +kernel
theorem enc_of {c : UInt8} (h : c.toNat < 128) : Utf8.encode (wrap32 (c.toNat : Int)) = bs [c] := by
  rw [enc_all _ h]; simp

set_option maxRecDepth 100000 in
set_option maxHeartbeats 4000000 in
theorem text_of : ∀ (n : Nat) (c : UInt8) (kids : Fo) (k : UInt8) (B : Nat) (w : World) (ya : Option Addr) (ym : Nat), (Fo.nd c kids .nil).ser.length ≤ n → n ≤ 1000 → FOk false (.nd c kids .nil) [k] → RepN w B c kids (.int .u8 c.toNat) (.slice ya kids.len ym) →
    Calls Tryd.prog 55 #[.agg #[.int .u8 c.toNat, .slice ya kids.len ym]] w fun e w' => e = .returned (.string (bs (Fo.nd c kids .nil).ser)) ∧ Below w.heap.size w w' := by
  intro n
  induction n with
  | zero => intro c kids k B w ya ym hn; simp [Fo.ser] at hn
  | succ n ih =>
    intro c kids k B w ya ym hn hn2 hok hr
    obtain ⟨k', ks', l, hk', hg, hkids, _⟩ := id hok
    have HE := Lib.hid (enc_of (gopk_ascii hg))
    clear hk' hg
    have hsz : (Fo.nd c kids .nil).ser.length ≤ 1000 := by omega
    have HR := Lib.hid hr
    have HI := Lib.hid ih
    have HOK := Lib.hid hkids
    have hlk := FOk.len hkids
    have hll := fo_len_le hkids
    have hlb : kids.len ≤ 1000 := by simp [Fo.ser] at hsz; omega
    clear hr hok ih hkids hlk hll
    go_enter Tryd.func55, Tryd.ntmps55
    go_wp2_with fail
    have hB := (Below.refl w.heap.size w).alloc (Nat.le_refl _) (.cells #[.int .u8 c.toNat, .slice ya kids.len ym] 47)
    generalize w.alloc (.cells #[.int .u8 c.toNat, .slice ya kids.len ym] 47) = W0 at *
    have HB0 := Lib.hid hB
    clear hB
    generalize hE : Utf8.encode (wrap32 (c.toNat : Int)) = E at *
    clear hE
    go_loopw [3, 13] (fun t i wr => ∃ m : Nat, m ≤ kids.len ∧ i = .int .i64 m ∧ t = .string (bs (c :: (kids.take m).ser)) ∧ Hid (Below w.heap.size w wr)) (fun _ i _ => kids.len - (intOf i).toNat)
    case atStart => exact ⟨0, Nat.zero_le _, rfl, by rw [HE.out]; rfl, HB0⟩
    case round =>
      obtain ⟨m, hm, rfl, rfl, HB⟩ := hrel
      by_cases hlt : m < kids.len
      · obtain ⟨c1, k1, r1, h1, h2, h3⟩ := Fo.at hlt
        obtain ⟨h4, a, n', h5, _, h6⟩ := HR.out
        cases h5
        rcases h6 with h6 | ⟨kb, rfl, hkb, hrf⟩
        · rw [h6] at hlt; simp [Fo.len] at hlt
        have hat := RepF.at m hrf
        rw [h1] at hat
        obtain ⟨⟨x, y, hx, hy, hrn⟩, _⟩ := hat
        obtain ⟨ya1, ym1, rfl, rfl⟩ := RepN.forms hrn
        rw [Nat.zero_add] at hx hy
        have hx1 := ckeep HB.out hx
        have hy1 := ckeep HB.out hy
        obtain ⟨k0, hk0⟩ := FOk.at HOK.out m h1
        have hlen : (kids.take m).ser.length + (Fo.nd c1 k1 .nil).ser.length + (kids.drop (m + 1)).ser.length = kids.ser.length := by
          have := congrArg List.length (Fo.take_drop (m + 1) kids)
          rw [h3] at this
          simp only [List.length_append] at this
          omega
        have hn3 : kids.ser.length ≤ n := by simp [Fo.ser] at hn; omega
        have hcall : Hid (∀ w2, Below w.heap.size w w2 → Calls Tryd.prog 55 #[.agg #[.int .u8 c1.toNat, .slice ya1 k1.len ym1]] w2 fun e w' => e = .returned (.string (bs (Fo.nd c1 k1 .nil).ser)) ∧ Below w2.heap.size w2 w') :=
          fun w2 hb => HI.out c1 k1 k0 B w2 ya1 ym1 (by omega) (by omega) hk0 (RepN.below hb hrn)
        have hs1 : (bs (c :: (kids.take m).ser)).size ≤ 1001 := by rw [bs_size]; simp; omega
        have hs2 : (bs (Fo.nd c1 k1 .nil).ser).size ≤ 1001 := by rw [bs_size]; omega
        have hcat : Hid (bs (c :: (kids.take m).ser) ++ bs (Fo.nd c1 k1 .nil).ser = bs (c :: (kids.take (m + 1)).ser)) := by
          show _ ++ _ = _
          rw [bs_append, h3]; simp
        have hmi : (0 : Int) ≤ (m : Int) := by omega
        have hmi2 : (m : Int) < (kids.len : Int) := by omega
        clear hx hy h1 h2 h3 h4 hrf hrn hk0 hlen
        generalize bs (c :: (kids.take m).ser) = S1 at *
        generalize bs (Fo.nd c1 k1 .nil).ser = S2 at *
        have f0 : ¬ (9223372036854775807 < S1.size + S2.size) := by omega
        go_wp2_with fail
        refine (hcall.out _ (HB.out.alloc HB.out.size _)).mono ?_
        rintro e w3 ⟨rfl, hb⟩
        have HB3 := Lib.hid ((HB.out.alloc HB.out.size (.cells #[.int .u8 c1.toNat, .slice ya1 k1.len ym1] 47)).trans (hb.mono (by have := HB.out.size; simp; omega)))
        clear hb hx1 hy1
        go_wp2_with fail
        go_roundw
        case rel => exact ⟨m + 1, by omega, by go_num, by rw [hcat.out], HB3⟩
        case measure => simp [intOf]; omega
      · go_wp2_with fail
        go_ret
        exact ⟨by rw [show m = kids.len by omega, Fo.take_len]; simp [Fo.ser], HB.out⟩

theorem text_node (c : UInt8) (kids : Fo) (k : UInt8) (B : Nat) (w : World) (ya : Option Addr) (ym : Nat) (hn : (Fo.nd c kids .nil).ser.length ≤ 1000) (hok : FOk false (.nd c kids .nil) [k]) (hr : RepN w B c kids (.int .u8 c.toNat) (.slice ya kids.len ym)) :
    Calls Tryd.prog 55 #[.agg #[.int .u8 c.toNat, .slice ya kids.len ym]] w fun e w' => e = .returned (.string (bs (Fo.nd c kids .nil).ser)) ∧ Below w.heap.size w w' :=
  text_of _ c kids k B w ya ym (Nat.le_refl _) hn hok hr

theorem emb_nd (t : Tm) : ∃ kids, ∀ r, emb t r = .nd t.head kids r := by
  cases t with
  | leaf c => exact ⟨.nil, fun r => rfl⟩
  | un c a => exact ⟨emb a .nil, fun r => rfl⟩
  | bin c a b => exact ⟨emb a (emb b .nil), fun r => rfl⟩
/-- The values x and y are the two cells of an expression or a test. -/
def RepH (w : World) (B : Nat) (t : Tm) (x y : Value) : Prop := ∃ kids, (∀ r, emb t r = .nd t.head kids r) ∧ RepN w B t.head kids x y
theorem RepH.rep {w : World} {B : Nat} {t : Tm} {x y : Value} (h : RepH w B t x y) : RepT w B t x y := by
  obtain ⟨kids, e, hr⟩ := h
  exact repT_ofN (e .nil).symm hr
theorem RepH.forms {w : World} {B : Nat} {t : Tm} {x y : Value} (h : RepH w B t x y) : ∃ (a : Option Addr) (n m : Nat), x = .int .u8 t.head.toNat ∧ y = .slice a n m := by
  obtain ⟨kids, e, hr⟩ := h
  obtain ⟨a, m, h1, h2⟩ := RepN.forms hr
  exact ⟨a, _, m, h1, h2⟩
theorem RepH.below {w w' : World} {B : Nat} {t : Tm} {x y : Value} (h : RepH w B t x y) (hb : Below w.heap.size w w') : RepH w' B t x y := by
  obtain ⟨kids, e, hr⟩ := h
  exact ⟨kids, e, hr.below hb⟩
theorem RepH.of {w : World} {B : Nat} {t : Tm} {r : Fo} {b o : Nat} (h : RepF w B (emb t r) b o) : (∃ (a : Option Addr) (n m : Nat), w.cell? ⟨b, o, none⟩ = some (.int .u8 t.head.toNat) ∧ w.cell? ⟨b, o + 1, none⟩ = some (.slice a n m) ∧ RepH w B t (.int .u8 t.head.toNat) (.slice a n m)) ∧ RepF w B r b (o + 2) := by
  obtain ⟨kids, e⟩ := emb_nd t
  rw [e] at h
  obtain ⟨⟨x, y, h1, h2, h3⟩, h4⟩ := h
  obtain ⟨a, m, rfl, rfl⟩ := RepN.forms (show RepN w B t.head kids x y from h3)
  exact ⟨⟨a, _, m, h1, h2, kids, e, h3⟩, h4⟩
/-- The text of an expression or a test. -/
theorem text_tm (t : Tm) (k : Bool) (B : Nat) (w : World) (xc : Int) (ya : Option Addr) (yn ym : Nat) (hn : t.ser.length ≤ 1000) (hok : Ok false k t) (hr : RepH w B t (.int .u8 xc) (.slice ya yn ym)) :
    Calls Tryd.prog 55 #[.agg #[.int .u8 xc, .slice ya yn ym]] w fun e w' => e = .returned (.string (bs t.ser)) ∧ Below w.heap.size w w' := by
  obtain ⟨kids, e, h⟩ := hr
  obtain ⟨a, m, h1, h2⟩ := h.forms
  have hs : (Fo.nd t.head kids .nil).ser = t.ser := by rw [← e, emb_ser]; simp [Fo.ser]
  cases h1; cases h2
  rw [← hs]
  exact text_node t.head kids (kc k) B w ya ym (by rw [hs]; exact hn) (by rw [← e]; exact emb_ok hok rfl) h
end Go.Proofs.YtpdepihggpfmiabDoor
