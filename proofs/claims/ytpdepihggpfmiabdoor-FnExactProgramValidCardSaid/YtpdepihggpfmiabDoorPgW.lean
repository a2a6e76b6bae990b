/-
  Words on the trees of programs: letter, head, parts, all statements, depth. Nothing of the program stands here.
-/
import Derived.Test.YtpdepihggpfmiabDoorGPure
namespace Go.Proofs.YtpdepihggpfmiabDoor

namespace Pg
def letter : Pg → UInt8
  | .skip => 115
  | .asg _ _ => 97
  | .seq _ _ => 59
  | .ite _ _ _ => 63
  | .whl _ _ => 64
  | .cho _ _ => 47
  | .asm _ => 126
def kids : Pg → Fo
  | .skip => .nil
  | .asg v e => .nd v .nil (emb e .nil)
  | .seq a b => a.fo (b.fo .nil)
  | .ite t a b => emb t (a.fo (b.fo .nil))
  | .whl t a => emb t (a.fo .nil)
  | .cho a b => a.fo (b.fo .nil)
  | .asm t => emb t .nil
theorem fo_eq (p : Pg) (r : Fo) : p.fo r = .nd p.letter p.kids r := by cases p <;> rfl
theorem len_fo (p : Pg) (r : Fo) : (p.fo r).len = r.len + 1 := by rw [fo_eq]; rfl
end Pg
namespace Pg
def pks : Pg → List Pg
  | .skip => []
  | .asg _ _ => []
  | .seq a b => [a, b]
  | .ite _ a b => [a, b]
  | .whl _ a => [a]
  | .cho a b => [a, b]
  | .asm _ => []
def hd : Pg → List UInt8
  | .skip => []
  | .asg v e => v :: e.ser
  | .seq _ _ => []
  | .ite t _ _ => t.ser
  | .whl t _ => t.ser
  | .cho _ _ => []
  | .asm t => t.ser
theorem ser_eq (p : Pg) : p.ser = p.letter :: (p.hd ++ p.pks.flatMap Pg.ser) := by cases p <;> simp [Pg.ser, Pg.letter, Pg.hd, Pg.pks]
end Pg

def Pg.dep : Pg → Nat
  | .skip => 1
  | .asg _ _ => 1
  | .seq a b => max a.dep b.dep + 1
  | .ite _ a b => max a.dep b.dep + 1
  | .whl _ a => a.dep + 1
  | .cho a b => max a.dep b.dep + 1
  | .asm _ => 1
theorem Pg.dep_pos (p : Pg) : 1 ≤ p.dep := by cases p <;> simp [Pg.dep]
theorem Pg.dep_le (p : Pg) : p.dep ≤ p.ser.length := by
  induction p <;> simp [Pg.dep, Pg.ser] <;> omega

def Pg.all : Pg → List Pg
  | .skip => [.skip]
  | .asg v e => [.asg v e]
  | .seq a b => .seq a b :: (a.all ++ b.all)
  | .ite t a b => .ite t a b :: (a.all ++ b.all)
  | .whl t a => .whl t a :: a.all
  | .cho a b => .cho a b :: (a.all ++ b.all)
  | .asm t => [.asm t]
theorem Pg.all_pos (p : Pg) : 0 < p.all.length := by cases p <;> simp [Pg.all]
theorem Pg.all_le (p : Pg) : p.all.length ≤ p.ser.length := by
  induction p <;> simp [Pg.all, Pg.ser] <;> omega

def IsP (s : ByteArray) : Prop := PValid false s.data.toList ∧ s.size ≤ 200
def cntB (c : UInt8) (l : List UInt8) : Nat := l.countP (· == c)
end Go.Proofs.YtpdepihggpfmiabDoor
