/-
  Small words on texts.
-/
import Derived.Test.YtpdepihggpfmiabDoorBase
namespace Go.Proofs.YtpdepihggpfmiabDoor
open Go.RowKit

def bs (l : List UInt8) : ByteArray := ⟨l.toArray⟩
theorem bs_append (a b : List UInt8) : bs a ++ bs b = bs (a ++ b) := by
  apply ByteArray.ext; simp [bs]
theorem bs_size (l : List UInt8) : (bs l).size = l.length := by simp [bs, ByteArray.size]
theorem extract_one (s : ByteArray) (a : Nat) (h : a < s.size) : s.extract a (a + 1) = bs [s[a]] := by
  apply ByteArray.ext
  have h2 : a < s.data.size := h
  apply Array.ext'
  simp only [ByteArray.data_extract, bs, Array.toList_extract]
  rw [List.extract_eq_take_drop]
  have : s.data.toList.drop a = s[a] :: s.data.toList.drop (a + 1) := by rw [List.drop_eq_getElem_cons (by simpa using h2)]; rfl
  simp [this]
theorem bytes_eq (a b : ByteArray) : (a.toList == b.toList) = decide (a = b) := by
  rw [Bool.eq_iff_iff, beq_iff_eq, decide_eq_true_eq, ByteArray.toList_eq, ByteArray.toList_eq]
  exact ⟨fun h => ByteArray.ext (Array.toList_inj.1 h), fun h => by rw [h]⟩
theorem bytes_t {a b : ByteArray} (h : (a.toList == b.toList) = true) : a = b := by rw [bytes_eq] at h; simpa using h
theorem bytes_f {a b : ByteArray} (h : (a.toList == b.toList) = false) : a ≠ b := by rw [bytes_eq] at h; simpa using h
end Go.Proofs.YtpdepihggpfmiabDoor
