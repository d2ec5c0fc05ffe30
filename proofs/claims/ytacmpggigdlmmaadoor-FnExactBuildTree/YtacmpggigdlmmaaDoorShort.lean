/-
  spec.ShortText and impl.ShortText by their contracts: for a text of at most 20000 bytes both give the bytes of its length, then the text, and true; for a longer one the empty text and false.
-/
import Derived.Test.YtacmpggigdlmmaaDoorVar
import Derived.Laws.Concat
namespace Go.Proofs.YtacmpggigdlmmaaDoor
open Go.RowKit

set_option maxHeartbeats 400000 in
theorem implShortText_yes (s : ByteArray) (h : s.size ≤ 20000) (w : World) :
    Calls Tryd.prog 85 #[.string s] w fun e w' => e = .returned (.tuple #[.string (⟨(vtext s.size).toArray⟩ ++ s), .bool true]) ∧ Below w.heap.size w w' := by
  have hlen := (vtext_length s.size).2
  go_enter Tryd.func85, Tryd.ntmps85
  go_wp2_with fail
  refine (implVarText_yes s.size (by omega) (by omega) _).mono ?_
  rintro e w2 ⟨rfl, hb⟩
  rw [Int.toNat_natCast]
  go_wp2
  go_ret2
  exact ⟨rfl, hb⟩

set_option maxHeartbeats 400000 in
theorem implShortText_no (s : ByteArray) (h : 20000 < s.size) (hs : s.size ≤ 9223372036854775807) (w : World) :
    Calls Tryd.prog 85 #[.string s] w fun e w' => e = .returned (.tuple #[.string ⟨#[]⟩, .bool false]) ∧ w' = w := by
  go_enter Tryd.func85, Tryd.ntmps85
  go_wp2
  go_ret2
  exact ⟨rfl, rfl⟩
end Go.Proofs.YtacmpggigdlmmaaDoor
