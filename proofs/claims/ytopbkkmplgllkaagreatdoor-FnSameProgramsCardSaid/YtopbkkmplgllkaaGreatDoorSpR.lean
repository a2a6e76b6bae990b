/-
  SizeOf, DepthOf, HeadOf, LoopCount, IsPlain and JoinPrograms of the model.
-/
import Derived.Test.YtopbkkmplgllkaaGreatDoorSpQ
import Derived.Test.YtopbkkmplgllkaaGreatDoorPln
namespace Go.Proofs.YtopbkkmplgllkaaGreatDoor
open Go.RowKit Tm

theorem text_eq {s : ByteArray} {p : Pg} (h : s.data.toList = p.ser) : s = bs p.ser := by
  apply ByteArray.ext
  apply Array.ext'
  exact h.trans (bs_list _).symm



end Go.Proofs.YtopbkkmplgllkaaGreatDoor
