/-
  Small words on texts.
-/
import Derived.Test.YtdlahmfnnfjhiaaDoorBase
namespace Go.Proofs.YtdlahmfnnfjhiaaDoor
open Go.RowKit

def bs (l : List UInt8) : ByteArray := ⟨l.toArray⟩
theorem bs_append (a b : List UInt8) : bs a ++ bs b = bs (a ++ b) := by
  apply ByteArray.ext; simp [bs]
theorem bs_size (l : List UInt8) : (bs l).size = l.length := by simp [bs, ByteArray.size]
theorem extract_one (s : ByteArray) (a : Nat) (h : a < s.size) : s.extract a (a + 1) = bs [s[a]] := by
  apply ByteArray.ext
  have h2 : a < s.data.size := h
  apply Array.ext'
  simp only [ByteArray.data_extract, bs, Array.toList_extract]
  rw [List.extract_eq_take_drop]
  have : s.data.toList.drop a = s[a] :: s.data.toList.drop (a + 1) := by rw [List.drop_eq_getElem_cons (by simpa using h2)]; rfl
  simp [this]
end Go.Proofs.YtdlahmfnnfjhiaaDoor
