/-
  The exact laws of the sums by contracts: each returns true where the table of sixteen holds what its initialiser lays.
-/
import Derived.Test.YtfciamcjfhjaaakDoorSumS
namespace Go.Proofs.YtfciamcjfhjaaakDoor
open Go.RowKit

set_option maxHeartbeats 400000 in
theorem lawSumMore (c : Nat) (hc : c < 4294967296) (a0 : ByteArray) (w0 : a0.size ≤ maxLen) (w : World) (hT : SumTab w) :
    Calls Tryd.prog 5 #[.int .u32 (c : Int), .string a0] w fun e w' => e = .returned (.bool true) ∧ Below w.heap.size w w' := by
  unfold maxLen at w0
  have HT := hide hT
  clear hT
  by_cases hL : 1048576 < a0.size
  · go_enter Tryd.func5, Tryd.ntmps5
    go_wp2_with fail
    go_ret
    exact ⟨rfl, Below.refl _ _⟩
  · go_enter Tryd.func5, Tryd.ntmps5
    go_wp2_with fail
    refine (specSumMore_any c a0 hc (by omega) _).mono ?_
    rintro e w1 ⟨rfl, rfl⟩
    go_wp2_with fail
    refine (implSumMore_any c a0 hc (by omega) _ HT.out).mono ?_
    rintro e w1 ⟨rfl, rfl⟩
    go_wp2
    go_ret
    exact ⟨rfl, Below.refl _ _⟩

theorem unOut_two (s : ByteArray) : ∃ (t : ByteArray) (b : Bool), unOut s = .tuple #[.string t, .bool b] := by
  unfold unOut
  split
  · exact ⟨_, _, rfl⟩
  · exact ⟨_, _, rfl⟩

end Go.Proofs.YtfciamcjfhjaaakDoor
