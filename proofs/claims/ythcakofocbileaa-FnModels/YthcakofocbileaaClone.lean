/-
  strings.Clone by its contract: the same bytes; nothing that was there is turned.
-/
import Derived.Test.YthcakofocbileaaProg
import Derived.Test.YthcakofocbileaaPlain1
import Derived.Test.YthcakofocbileaaShelfClone
import Derived.WalkKit
namespace Go.Proofs.Ythcakofocbileaa
open Go.RowKit

set_option maxHeartbeats 400000 in
theorem clone_any (s : ByteArray) (hs : s.size ≤ 140737488351232) (w : World) :
    Calls Try.prog 41 #[.string s] w fun e w' => e = .returned (.string s) ∧ Below w.heap.size w w' := by
  go_enter Try.func41, Try.ntmps41
  go_wp2_with fail
  refine (Try.stringslite_Clone s _ (by omega)).mono ?_
  rintro e w1 ⟨rfl, hb⟩
  go_wp2
  go_ret
  exact ⟨rfl, hb⟩
end Go.Proofs.Ythcakofocbileaa
