/-
  Slices of bytes that a call makes and fills by index: made, stored into, turned into a string.
-/
import Derived.Test.YtbicokobbpmgnaaDoorBlk
import Derived.Test.YtbicokobbpmgnaaDoorBytes
import Derived.Test.YtbicokobbpmgnaaDoorSetP
import Derived.Laws.MakeOwn
import Derived.Laws.Cells
import Derived.Laws.BytesString
namespace Go.Proofs.YtbicokobbpmgnaaDoor
open Go.RowKit

def bv (c : UInt8) : Value := .int .u8 c.toNat
def u8s (l : List UInt8) : Array Value := (l.map bv).toArray
/-- Block b holds the bytes of l. -/
def BBlk (w : World) (b : Nat) (l : List UInt8) : Prop := Blk w b (u8s l) 5
theorem BBlk.kept {w w' : World} {b : Nat} {l : List UInt8} (h : BBlk w b l) (hb : Below w.heap.size w w') : BBlk w' b l := Blk.kept h hb
theorem BBlk.lt {w : World} {b : Nat} {l : List UInt8} (h : BBlk w b l) : b < w.heap.size := Blk.lt h
theorem BBlk.get {w : World} {b : Nat} {l : List UInt8} (h : BBlk w b l) (i : Nat) (hi : i < l.length) : w.cell? ⟨b, i, none⟩ = some (.int .u8 (l[i].toNat : Int)) := by
  rw [Blk.cell h i]; simp [u8s, bv, hi]
theorem BBlk.free {w : World} {b : Nat} {l : List UInt8} (h : BBlk w b l) (i : Nat) : w.frozen? ⟨b, i, none⟩ = false := Blk.free h i
theorem BBlk.set {w : World} {b : Nat} {l : List UInt8} (h : BBlk w b l) (i : Nat) (c : UInt8) : BBlk (w.setCell ⟨b, i, none⟩ (.int .u8 c.toNat)) b (l.set i c) := by
  have := Blk.set h i (.int .u8 c.toNat)
  unfold BBlk
  rw [show u8s (l.set i c) = (u8s l).setIfInBounds i (.int .u8 c.toNat) by unfold u8s; simp [bv, List.map_set]]
  exact this
theorem BBlk.some {w : World} {b : Nat} {l : List UInt8} (h : BBlk w b l) (i : Nat) (hi : i < l.length) : ∃ v, w.cell? ⟨b, i, none⟩ = Option.some (.int .u8 v) := ⟨_, h.get i hi⟩
theorem BBlk.set2 {w : World} {b : Nat} {l : List UInt8} (h : BBlk w b l) (i : Nat) (c d : UInt8) : BBlk ((w.setCell ⟨b, i, none⟩ (.int .u8 c.toNat)).setCell ⟨b, i, none⟩ (.int .u8 d.toNat)) b (l.set i d) := by
  have := (h.set i c).set i d
  rwa [List.set_set] at this
theorem u8info : (Tryd.prog.info? 5).map (fun i => (i.zero, i.size, i.bytes)) = some (some (.int .u8 0), 1, 1) := by kernel_rfl
theorem BBlk.made (n : Nat) (w : World) : BBlk (w.alloc (.cells (u8s (zs n)) 5)) w.heap.size (zs n) := Blk.new w _ _
theorem fold_push (ns : List UInt8) (s : ByteArray) : (ns.map (fun c : UInt8 => (c.toNat : Int))).foldl (fun r n => r.push (UInt8.ofNat n.toNat)) s = s ++ bs ns := by
  induction ns generalizing s with
  | nil => simp [bs]; apply ByteArray.ext; simp
  | cons c ns ih =>
    rw [List.map_cons, List.foldl_cons, ih]
    apply ByteArray.ext
    simp [bs]
end Go.Proofs.YtbicokobbpmgnaaDoor
