/-
  impl.Sealed and impl.Unsealed by contracts: a text of at most 20000 bytes with the four bytes of its sum behind it, and true; of a text that is one the text without them, and true; else the empty text and false.
-/
import Derived.Test.YtacmpggigdlmmaaDoorSum
import Derived.Test.YtacmpggigdlmmaaDoorClone
import Derived.Laws.Concat
import Derived.Deep.RegionHeld3
namespace Go.Proofs.YtacmpggigdlmmaaDoor
open Go.RowKit

theorem seal_bytes (s : ByteArray) : s ++ ⟨(fourL (sumL 4294967295 s.data.toList)).toArray⟩ = (⟨(sealL s.data.toList).toArray⟩ : ByteArray) := by
  apply ByteArray.ext
  simp [sealL]

/-- what Unsealed answers -/
def unOut (s : ByteArray) : Value := if isSealed s.data.toList = true then .tuple #[.string (s.extract 0 (s.size - 4)), .bool true] else .tuple #[.string ⟨#[]⟩, .bool false]

set_option maxHeartbeats 400000 in
theorem implSealed_yes (s : ByteArray) (h : s.size ≤ 20000) (w : World) (hT : SumTab w) :
    Calls Tryd.prog 79 #[.string s] w fun e w' => e = .returned (.tuple #[.string ⟨(sealL s.data.toList).toArray⟩, .bool true]) ∧ Below w.heap.size w w' := by
  have HT := hide hT
  clear hT
  have hf : (⟨(fourL (sumL 4294967295 s.data.toList)).toArray⟩ : ByteArray).size = 4 := rfl
  go_enter Tryd.func79, Tryd.ntmps79
  go_wp2_with fail
  refine (implSumOf_any s (by omega) _ HT.out).mono ?_
  rintro e w1 ⟨rfl, rfl⟩
  go_wp2_with fail
  refine (text_any (sumL 4294967295 s.data.toList) _).mono ?_
  rintro e w1 ⟨rfl, hb⟩
  go_wp2
  go_ret2
  rw [← seal_bytes]
  exact ⟨rfl, hb⟩

set_option maxHeartbeats 400000 in
theorem implSealed_no (s : ByteArray) (h : 20000 < s.size) (_hs : s.size ≤ 9223372036854775807) (w : World) :
    Calls Tryd.prog 79 #[.string s] w fun e w' => e = .returned (.tuple #[.string ⟨#[]⟩, .bool false]) ∧ w = w' := by
  go_enter Tryd.func79, Tryd.ntmps79
  go_wp2
  go_ret2
  exact ⟨rfl, rfl⟩

theorem tolist_eq (t : ByteArray) : t.toList = t.data.toList := ByteArray.toList_eq t

theorem list_len (s : ByteArray) : s.data.toList.length = s.size := by rw [Array.length_toList]; rfl

theorem seal_cut (s : ByteArray) (n : Nat) (hn : s.size = n + 4) : (s.extract 0 n).data.toList = s.data.toList.take n ∧ (s.extract n s.size).data.toList = s.data.toList.drop n := by
  constructor
  · simp [ByteArray.data_extract]
  · simp [ByteArray.data_extract, hn]; rw [List.take_of_length_le]; rw [List.length_drop, list_len]; omega

end Go.Proofs.YtacmpggigdlmmaaDoor
