/-
  impl.Sealed and impl.Unsealed by contracts: a text of at most 20000 bytes with the four bytes of its sum behind it, and true; of a text that is one the text without them, and true; else the empty text and false.
-/
import Derived.Test.YtfciamcjfhjaaakDoorSum
import Derived.Test.YtfciamcjfhjaaakDoorClone
import Derived.Laws.Concat
import Derived.Deep.RegionHeld3
namespace Go.Proofs.YtfciamcjfhjaaakDoor
open Go.RowKit

theorem seal_bytes (s : ByteArray) : s ++ ⟨(fourL (sumL 4294967295 s.data.toList)).toArray⟩ = (⟨(sealL s.data.toList).toArray⟩ : ByteArray) := by
  apply ByteArray.ext
  simp [sealL]

/-- what Unsealed answers -/
def unOut (s : ByteArray) : Value := if isSealed s.data.toList = true then .tuple #[.string (s.extract 0 (s.size - 4)), .bool true] else .tuple #[.string ⟨#[]⟩, .bool false]

theorem tolist_eq (t : ByteArray) : t.toList = t.data.toList := ByteArray.toList_eq t

theorem list_len (s : ByteArray) : s.data.toList.length = s.size := by rw [Array.length_toList]; rfl

theorem seal_cut (s : ByteArray) (n : Nat) (hn : s.size = n + 4) : (s.extract 0 n).data.toList = s.data.toList.take n ∧ (s.extract n s.size).data.toList = s.data.toList.drop n := by
  constructor
  · simp [ByteArray.data_extract]
  · simp [ByteArray.data_extract, hn]; rw [List.take_of_length_le]; rw [List.length_drop, list_len]; omega

end Go.Proofs.YtfciamcjfhjaaakDoor
