/-
  Slices of bytes that a call makes and fills by index: made, stored into, turned into a string.
-/
import Derived.Test.YtgkoljphndgoeaaBlk
import Derived.Test.YtgkoljphndgoeaaBytes
import Derived.Test.YtgkoljphndgoeaaSetP
import Derived.Laws.MakeOwn
import Derived.Laws.Cells
import Derived.Laws.BytesString
namespace Go.Proofs.Ytgkoljphndgoeaa
open Go.RowKit

def bv (c : UInt8) : Value := .int .u8 c.toNat
def u8s (l : List UInt8) : Array Value := (l.map bv).toArray
/-- Block b holds the bytes of l. -/
def BBlk (w : World) (b : Nat) (l : List UInt8) : Prop := Blk w b (u8s l) 5
theorem BBlk.kept {w w' : World} {b : Nat} {l : List UInt8} (h : BBlk w b l) (hb : Below w.heap.size w w') : BBlk w' b l := Blk.kept h hb
theorem BBlk.lt {w : World} {b : Nat} {l : List UInt8} (h : BBlk w b l) : b < w.heap.size := Blk.lt h
theorem BBlk.get {w : World} {b : Nat} {l : List UInt8} (h : BBlk w b l) (i : Nat) (hi : i < l.length) : w.cell? ⟨b, i, none⟩ = some (.int .u8 (l[i].toNat : Int)) := by
  rw [Blk.cell h i]; simp [u8s, bv, hi]
theorem BBlk.free {w : World} {b : Nat} {l : List UInt8} (h : BBlk w b l) (i : Nat) : w.frozen? ⟨b, i, none⟩ = false := Blk.free h i
theorem BBlk.set {w : World} {b : Nat} {l : List UInt8} (h : BBlk w b l) (i : Nat) (c : UInt8) : BBlk (w.setCell ⟨b, i, none⟩ (.int .u8 c.toNat)) b (l.set i c) := by
  have := Blk.set h i (.int .u8 c.toNat)
  unfold BBlk
  rw [show u8s (l.set i c) = (u8s l).setIfInBounds i (.int .u8 c.toNat) by unfold u8s; simp [bv, List.map_set]]
  exact this
theorem BBlk.some {w : World} {b : Nat} {l : List UInt8} (h : BBlk w b l) (i : Nat) (hi : i < l.length) : ∃ v, w.cell? ⟨b, i, none⟩ = Option.some (.int .u8 v) := ⟨_, h.get i hi⟩
theorem BBlk.set2 {w : World} {b : Nat} {l : List UInt8} (h : BBlk w b l) (i : Nat) (c d : UInt8) : BBlk ((w.setCell ⟨b, i, none⟩ (.int .u8 c.toNat)).setCell ⟨b, i, none⟩ (.int .u8 d.toNat)) b (l.set i d) := by
  have := (h.set i c).set i d
  rwa [List.set_set] at this
theorem u8info : (Try.prog.info? 5).map (fun i => (i.zero, i.size, i.bytes)) = some (some (.int .u8 0), 1, 1) := by kernel_rfl
theorem mkBytes (n : Nat) (hn : n ≤ 1000000) (w : World) : (Instr.makeSlice 24 (.int .i64 n) (.int .i64 n)).run Try.prog w = .ok (.slice (some ⟨w.heap.size, 0, none⟩) n n) (w.alloc (.cells (u8s (zs n)) 5)) := by
  obtain ⟨i0, hi, hz0, hz1, hz2⟩ := info_parts u8info
  have h := run_make (P := Try.prog) w 24 5 i0 (.int .u8 0) Try.underlying24 hi hz0 .i64 .i64 n n (by omega) (by omega) (by rw [hz2]; omega) (by omega)
  rw [h, hz1]
  have e : madeCells (Value.int .u8 0).cells ((n : Int).toNat * 1) = u8s (zs n) := by
    rw [Int.toNat_natCast, Nat.mul_one]
    apply Array.ext
    · simp [madeCells, u8s, zs]
    · intro i h1 h2
      simp [madeCells, u8s, zs, bv, Value.cells, Nat.mod_one]
  rw [e, Int.toNat_natCast]
theorem BBlk.made (n : Nat) (w : World) : BBlk (w.alloc (.cells (u8s (zs n)) 5)) w.heap.size (zs n) := Blk.new w _ _
theorem fold_push (ns : List UInt8) (s : ByteArray) : (ns.map (fun c : UInt8 => (c.toNat : Int))).foldl (fun r n => r.push (UInt8.ofNat n.toNat)) s = s ++ bs ns := by
  induction ns generalizing s with
  | nil => simp [bs]; apply ByteArray.ext; simp
  | cons c ns ih =>
    rw [List.map_cons, List.foldl_cons, ih]
    apply ByteArray.ext
    simp [bs]
/-- The bytes of a whole block as a string. -/
theorem toStr {w : World} {b : Nat} {l : List UInt8} (h : BBlk w b l) (n c : Nat) (hn : n = l.length) : (convert 24 9 (.slice (some ⟨b, 0, none⟩) n c)).run Try.prog w = .ok (.string (bs l)) w := by
  subst hn
  rw [run_convert_bytes_string _ _ _ 5 _ _ _ Try.underlying24 Try.underlying5 Try.underlying9]
  rw [run_bytesToString _ _ l.length c (l.map (fun c : UInt8 => (c.toNat : Int)))]
  · rw [fold_push]
    congr 2
  · have h2 := run_loadCells_list (w := w) (P := Try.prog) ⟨b, 0, none⟩ (l.map bv) (fun j v hj => by
      rw [List.getElem?_map] at hj
      have hlt : j < l.length := by
        rcases Nat.lt_or_ge j l.length with h | h
        · exact h
        · rw [List.getElem?_eq_none h] at hj; cases hj
      rw [List.getElem?_eq_getElem hlt] at hj
      simp at hj
      subst hj
      have e : (⟨b, 0, none⟩ : Addr).add j = ⟨b, j, none⟩ := by
        by_cases h0 : j = 0 <;> simp [Addr.add, h0]
      rw [e]
      exact h.get j hlt)
    simp at h2
    rw [h2]
    simp [bv, List.map_map, Function.comp_def]
end Go.Proofs.Ytgkoljphndgoeaa
