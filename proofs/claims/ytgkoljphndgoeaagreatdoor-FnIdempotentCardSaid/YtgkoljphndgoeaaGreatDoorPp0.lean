import Derived.Test.YtgkoljphndgoeaaGreatDoorTopP2
namespace Go.Proofs.YtgkoljphndgoeaaGreatDoor
open Go.RowKit Tm Go.Great
def P4 (w : World) (R T : Nat → Nat → Bool) (L K : Nat → Bool) (T' : Nat → Nat → Bool) (L' K' : Nat → Bool) (A : Nat → Nat → Bool) (b0 b1 b2 b3 : Nat) : Prop :=
 Blk w b0 (relC .i64 R) 83 ∧ Blk w b1 (allC T L K) 85 ∧ Blk w b2 (allC T' L' K') 85 ∧ Blk w b3 (relC .i64 A) 83 ∧ b0 ≠ b1 ∧ b0 ≠ b2 ∧ b0 ≠ b3
theorem P4.kept {w w' : World} {R T : Nat → Nat → Bool} {L K : Nat → Bool} {T' : Nat → Nat → Bool} {L' K' : Nat → Bool} {A : Nat → Nat → Bool} {b0 b1 b2 b3 : Nat} (h : P4 w R T L K T' L' K' A b0 b1 b2 b3) (hb : Below w.heap.size w w') : P4 w' R T L K T' L' K' A b0 b1 b2 b3 :=
 ⟨h.1.kept hb, h.2.1.kept hb, h.2.2.1.kept hb, h.2.2.2.1.kept hb, h.2.2.2.2⟩
theorem P4.put {w : World} {R R' T : Nat → Nat → Bool} {L K : Nat → Bool} {T' : Nat → Nat → Bool} {L' K' : Nat → Bool} {A : Nat → Nat → Bool} {b0 b1 b2 b3 : Nat} (h : P4 w R T L K T' L' K' A b0 b1 b2 b3) (k : Nat) (v : Value) (h0 : Blk (w.setCell ⟨b0, k, none⟩ v) b0 (relC .i64 R') 83) : P4 (w.setCell ⟨b0, k, none⟩ v) R' T L K T' L' K' A b0 b1 b2 b3 :=
 ⟨h0, h.2.1.setOther (fun e => h.2.2.2.2.1 e.symm) _, h.2.2.1.setOther (fun e => h.2.2.2.2.2.1 e.symm) _, h.2.2.2.1.setOther (fun e => h.2.2.2.2.2.2 e.symm) _, h.2.2.2.2⟩
end Go.Proofs.YtgkoljphndgoeaaGreatDoor
