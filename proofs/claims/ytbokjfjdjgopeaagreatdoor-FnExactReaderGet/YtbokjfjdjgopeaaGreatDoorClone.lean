/-
  strings.Clone by its contract: the same bytes; nothing that was there is turned.
-/
import Derived.Test.YtbokjfjdjgopeaaGreatDoorProg
import Derived.Test.YtbokjfjdjgopeaaGreatDoorPlain1
import Derived.Test.YtbokjfjdjgopeaaGreatDoorShelfClone
import Derived.WalkKit
namespace Go.Proofs.YtbokjfjdjgopeaaGreatDoor
open Go.RowKit

set_option maxHeartbeats 400000 in
theorem clone_any (s : ByteArray) (hs : s.size ≤ 140737488351232) (w : World) :
    Calls Tryz.prog 75 #[.string s] w fun e w' => e = .returned (.string s) ∧ Below w.heap.size w w' := by
  go_enter Tryz.func75, Tryz.ntmps75
  go_wp2_with fail
  refine (Tryz.stringslite_Clone s _ (by omega)).mono ?_
  rintro e w1 ⟨rfl, hb⟩
  go_wp2
  go_ret
  exact ⟨rfl, hb⟩
end Go.Proofs.YtbokjfjdjgopeaaGreatDoor
