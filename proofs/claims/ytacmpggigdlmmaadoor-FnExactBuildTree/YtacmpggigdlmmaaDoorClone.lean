/-
  strings.Clone by its contract: the same bytes; nothing that was there is turned.
-/
import Derived.Test.YtacmpggigdlmmaaDoorProg
import Derived.Test.YtacmpggigdlmmaaDoorPlain1
import Derived.Test.YtacmpggigdlmmaaDoorShelfClone
import Derived.WalkKit
namespace Go.Proofs.YtacmpggigdlmmaaDoor
open Go.RowKit

set_option maxHeartbeats 400000 in
theorem clone_any (s : ByteArray) (hs : s.size ≤ 140737488351232) (w : World) :
    Calls Tryd.prog 64 #[.string s] w fun e w' => e = .returned (.string s) ∧ Below w.heap.size w w' := by
  go_enter Tryd.func64, Tryd.ntmps64
  go_wp2_with fail
  refine (Tryd.stringslite_Clone s _ (by omega)).mono ?_
  rintro e w1 ⟨rfl, hb⟩
  go_wp2
  go_ret
  exact ⟨rfl, hb⟩
end Go.Proofs.YtacmpggigdlmmaaDoor
