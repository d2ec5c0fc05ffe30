/-
  The exact laws of the sums by contracts: each returns true where the table of sixteen holds what its initialiser lays.
-/
import Derived.Test.YtfciamcjfhjaaalDoorSumS
namespace Go.Proofs.YtfciamcjfhjaaalDoor
open Go.RowKit

theorem sumTab_below {w w' : World} (h : SumTab w) (hb : Below w.heap.size w w') : SumTab w' := by
  intro i hi
  have hc := h i hi
  have hlt : 0 < w.heap.size := World.block_lt_of_cell? w _ hc
  rw [World.cell?_of_block (hb.block _ hlt)]
  exact hc

set_option maxHeartbeats 400000 in
theorem lawSumOf (a0 : ByteArray) (w0 : a0.size ≤ maxLen) (w : World) (hT : SumTab w) :
    Calls Tryd.prog 3 #[.string a0] w fun e w' => e = .returned (.bool true) ∧ Below w.heap.size w w' := by
  unfold maxLen at w0
  have HT := hide hT
  clear hT
  by_cases hL : 1048576 < a0.size
  · go_enter Tryd.func3, Tryd.ntmps3
    go_wp2_with fail
    go_ret
    exact ⟨rfl, Below.refl _ _⟩
  · go_enter Tryd.func3, Tryd.ntmps3
    go_wp2_with fail
    refine (specSumOf_any a0 (by omega) _).mono ?_
    rintro e w1 ⟨rfl, rfl⟩
    go_wp2_with fail
    refine (implSumOf_any a0 (by omega) _ HT.out).mono ?_
    rintro e w1 ⟨rfl, rfl⟩
    go_wp2
    go_ret
    exact ⟨rfl, Below.refl _ _⟩

set_option maxHeartbeats 400000 in
theorem lawSealed (a0 : ByteArray) (w0 : a0.size ≤ maxLen) (w : World) (hT : SumTab w) :
    Calls Tryd.prog 4 #[.string a0] w fun e w' => e = .returned (.bool true) ∧ Below w.heap.size w w' := by
  unfold maxLen at w0
  have HT := hide hT
  clear hT
  by_cases hL : 1048576 < a0.size
  · go_enter Tryd.func4, Tryd.ntmps4
    go_wp2_with fail
    go_ret
    exact ⟨rfl, Below.refl _ _⟩
  · by_cases h : a0.size ≤ 20000
    · go_enter Tryd.func4, Tryd.ntmps4
      go_wp2_with fail
      refine (specSealed_yes a0 h _).mono ?_
      rintro e w1 ⟨rfl, hb1⟩
      go_wp2_with fail
      refine (implSealed_yes a0 h _ (sumTab_below HT.out hb1)).mono ?_
      rintro e w2 ⟨rfl, hb2⟩
      go_wp2
      go_ret
      exact ⟨rfl, hb1.trans (hb2.mono hb1.size)⟩
    · go_enter Tryd.func4, Tryd.ntmps4
      go_wp2_with fail
      refine (specSealed_no a0 (by omega) (by omega) _).mono ?_
      rintro e w1 ⟨rfl, rfl⟩
      go_wp2_with fail
      refine (implSealed_no a0 (by omega) (by omega) _).mono ?_
      rintro e w2 ⟨rfl, rfl⟩
      go_wp2
      go_ret
      exact ⟨rfl, Below.refl _ _⟩

theorem unOut_two (s : ByteArray) : ∃ (t : ByteArray) (b : Bool), unOut s = .tuple #[.string t, .bool b] := by
  unfold unOut
  split
  · exact ⟨_, _, rfl⟩
  · exact ⟨_, _, rfl⟩

set_option maxHeartbeats 400000 in
theorem lawUnsealed (a0 : ByteArray) (w0 : a0.size ≤ maxLen) (w : World) (hT : SumTab w) :
    Calls Tryd.prog 5 #[.string a0] w fun e w' => e = .returned (.bool true) ∧ Below w.heap.size w w' := by
  unfold maxLen at w0
  have HT := hide hT
  clear hT
  obtain ⟨t, b, ht⟩ := unOut_two a0
  have HO := hide ht
  clear ht
  by_cases hL : 1048576 < a0.size
  · go_enter Tryd.func5, Tryd.ntmps5
    go_wp2_with fail
    go_ret
    exact ⟨rfl, Below.refl _ _⟩
  · go_enter Tryd.func5, Tryd.ntmps5
    go_wp2_with fail
    refine (specUnsealed_any a0 (by omega) _).mono ?_
    rintro e w1 ⟨rfl, hb1⟩
    rw [HO.out]
    go_wp2_with fail
    refine (implUnsealed_any a0 (by omega) _ (sumTab_below HT.out hb1)).mono ?_
    rintro e w2 ⟨rfl, hb2⟩
    rw [HO.out]
    go_wp2
    go_ret
    exact ⟨rfl, hb1.trans (hb2.mono hb1.size)⟩
end Go.Proofs.YtfciamcjfhjaaalDoor
