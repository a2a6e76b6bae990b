/-
  The reader's other functions: l14Open, of, num.
-/
import Derived.Test.YtgkoljphndgoeaaPick
namespace Go.Proofs.Ytgkoljphndgoeaa
open Go.RowKit

/-- A slice of bytes that came in. -/
def IsRow (w : World) (a : Option Addr) (len cap : Nat) (zs : List Int) : Prop :=
  (a = none ∧ len = 0 ∧ cap = 0 ∧ zs = []) ∨
  ∃ x, a = some x ∧ len ≤ cap ∧ cap ≤ maxLen ∧ zs.length = cap ∧ (∀ i, i < zs.length → w.cell? (x.add i) = some (.int .u8 (zs.getD i 0))) ∧ ∀ n ∈ zs, (Lit.int .u8 n).wf = true

theorem row_bytes {w : World} {x : Addr} {len cap : Nat} {zs : List Int} (hl : len ≤ cap) (hz : zs.length = cap) (hc : ∀ i, i < zs.length → w.cell? (x.add i) = some (.int .u8 (zs.getD i 0))) (hw : ∀ n ∈ zs, (Lit.int .u8 n).wf = true) (h0 : 0 < len) :
    x.spot = none ∧ x.block < w.heap.size ∧ ∀ i, i < len → ∃ c : UInt8, w.cell? ⟨x.block, x.off + i, none⟩ = some (.int .u8 c.toNat) := by
  obtain ⟨b, o, sp⟩ := x
  have hsp : sp = none := by simpa [Addr.add] using World.cell?_spot (hc 0 (by omega))
  subst hsp
  have e : ∀ i, (⟨b, o, none⟩ : Addr).add i = ⟨b, o + i, none⟩ := fun i => by by_cases h : i = 0 <;> simp [Addr.add, h]
  refine ⟨rfl, ?_, fun i hi => ?_⟩
  · have := hc 0 (by omega)
    rw [e] at this
    exact World.block_lt_of_cell? w ⟨b, o + 0, none⟩ this
  · have h1 := hc i (by omega)
    rw [e] at h1
    have h2 := hw (zs.getD i 0) (by rw [List.getD_eq_getElem?_getD, List.getElem?_eq_getElem (by omega)]; exact List.getElem_mem _)
    generalize zs.getD i 0 = z at h1 h2
    have hz : 0 ≤ z ∧ z < 256 := by
      simp [Lit.wf, IntKind.min, IntKind.max, IntKind.signed, IntKind.bits] at h2
      omega
    refine ⟨UInt8.ofNat z.toNat, ?_⟩
    rw [h1, UInt8.toNat_ofNat_of_lt' (by show _ < 256; omega)]
    congr 2
    omega

set_option maxHeartbeats 1000000 in
theorem open_small (sp : Option Addr) (n m : Nat) (w : World) (hn : n ≤ 2000)
    (hc : n = 0 ∨ ∃ b o, sp = some ⟨b, o, none⟩ ∧ b < w.heap.size ∧ ∀ i, i < n → ∃ c : UInt8, w.cell? ⟨b, o + i, none⟩ = some (.int .u8 c.toNat)) :
    Calls Try.prog 29 #[.slice sp n m] w fun e w' => e = .returned (.pointer (some ⟨w.heap.size, 0, none⟩)) ∧ Rd w.heap.size 0 w' ∧ Below w.heap.size w w' := by
  have HR : Hid (Rd w.heap.size 0 (w.alloc (.cells #[.slice sp n m, .int .i64 0] 66))) := by
    have t := Blk.new w #[.slice sp n m, .int .i64 0] 66
    refine ⟨sp, n, m, t.cell 0, t.cell 1, t.free 0, t.free 1, hn, ?_⟩
    rcases hc with h0 | ⟨b, o, e, hb, hc⟩
    · exact .inl h0
    · exact .inr ⟨b, o, e, hb, fun i hi => by obtain ⟨c, hc⟩ := hc i hi; exact ⟨c, ckeep ((Below.refl _ _).alloc (Nat.le_refl _) _) hc⟩⟩
  have hn2 : ¬ (2000 : Int) < n := by omega
  clear hc
  go_enter Try.func29, Try.ntmps29
  go_wp2_with fail
  go_ret
  exact ⟨rfl, HR.out, (Below.refl _ _).alloc (Nat.le_refl _) _⟩
set_option maxHeartbeats 1000000 in
theorem open_large (b o n m : Nat) (w : World) (hn : 2000 < n) (hm : n ≤ m) (hm2 : m ≤ maxLen) (hb : b < w.heap.size) (hc : ∀ i, i < n → ∃ c : UInt8, w.cell? ⟨b, o + i, none⟩ = some (.int .u8 c.toNat)) :
    Calls Try.prog 29 #[.slice (some ⟨b, o, none⟩) n m] w fun e w' => e = .returned (.pointer (some ⟨w.heap.size, 0, none⟩)) ∧ Rd w.heap.size 0 w' ∧ Below w.heap.size w w' := by
  unfold maxLen at hm2
  have HR : Hid (Rd w.heap.size 0 (w.alloc (.cells #[.slice (some ⟨b, o, none⟩) 2000 m, .int .i64 0] 66))) := by
    have t := Blk.new w #[.slice (some ⟨b, o, none⟩) 2000 m, .int .i64 0] 66
    refine ⟨_, 2000, m, t.cell 0, t.cell 1, t.free 0, t.free 1, Nat.le_refl _, .inr ⟨b, o, rfl, hb, fun i hi => ?_⟩⟩
    obtain ⟨c, hc⟩ := hc i (by omega)
    exact ⟨c, ckeep ((Below.refl _ _).alloc (Nat.le_refl _) _) hc⟩
  have hn2 : (2000 : Int) < n := by omega
  have hm3 : ¬ (m : Int) < 2000 := by omega
  clear hc
  go_enter Try.func29, Try.ntmps29
  go_wp2_with fail
  go_ret
  exact ⟨rfl, HR.out, (Below.refl _ _).alloc (Nat.le_refl _) _⟩
/-- A reader of the bytes that came in. -/
theorem open_any {a : Option Addr} {len cap : Nat} {zs : List Int} {w : World} (h : IsRow w a len cap zs) :
    Calls Try.prog 29 #[.slice a len cap] w fun e w' => e = .returned (.pointer (some ⟨w.heap.size, 0, none⟩)) ∧ Rd w.heap.size 0 w' ∧ Below w.heap.size w w' := by
  rcases h with ⟨rfl, rfl, rfl, rfl⟩ | ⟨x, rfl, hl, hm, hz, hc, hw⟩
  · exact open_small none 0 0 w (by omega) (.inl rfl)
  · by_cases h0 : len = 0
    · exact open_small _ len cap w (by omega) (.inl h0)
    · obtain ⟨h1, h2, h3⟩ := row_bytes hl hz hc hw (by omega)
      obtain ⟨b, o, sp⟩ := x
      obtain rfl : sp = none := h1
      by_cases hn : len ≤ 2000
      · exact open_small _ len cap w hn (.inr ⟨b, o, rfl, h2, h3⟩)
      · exact open_large b o len cap w (by omega) hl hm h2 h3

set_option maxHeartbeats 1000000 in
/-- of returns one of the list. -/
theorem of_any {a p L : Nat} (n m : Nat) {cs : Array Value} {T : TypeId} (Q : ByteArray → Prop) {w : World} (hr : Rd a p w) (hp : p ≤ 1000000) (hL : Blk w L cs T) (hne : L ≠ a) (hn : 0 < n) (hn2 : n ≤ 1000000)
    (hQ : ∀ i, i < n → ∃ s, cs[i]? = some (.string s) ∧ Q s) :
    Calls Try.prog 47 #[.pointer (some ⟨a, 0, none⟩), .slice (some ⟨L, 0, none⟩) n m] w fun e w' => ∃ s, Q s ∧ e = .returned (.string s) ∧ Rd a (p + 1) w' ∧ Kp a w w' := by
  have C := Lib.hid (pick_any (n : Int) hr hp (by omega) (by omega))
  have HQ := Lib.hid hQ
  have HL := Lib.hid hL
  clear hQ hL hr
  go_enter Try.func47, Try.ntmps47
  go_wp2_with fail
  refine C.out.mono ?_
  rintro e w1 ⟨k, k0, k1, rfl, hr, hk⟩
  obtain ⟨i, rfl⟩ := Int.eq_ofNat_of_zero_le k0
  have hi : i < n := by omega
  obtain ⟨s, hs, hq⟩ := HQ.out i hi
  have hc := ((HL.out.kp hk hne).cell i).trans hs
  have HR := Lib.hid hr
  have HK := Lib.hid hk
  have HQ2 := Lib.hid hq
  clear hr hk hs hq
  go_wp2_with fail
  go_ret
  exact ⟨s, HQ2.out, rfl, HR.out, HK.out⟩

end Go.Proofs.Ytgkoljphndgoeaa
