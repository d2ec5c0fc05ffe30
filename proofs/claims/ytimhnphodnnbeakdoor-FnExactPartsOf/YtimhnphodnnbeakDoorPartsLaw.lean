/-
  laws.FnExactPartsOf returns true at every string, where the library's table of blanks holds what its initialiser lays.
-/
import Derived.Test.YtimhnphodnnbeakDoorPartsImpl
import Derived.Test.YtimhnphodnnbeakDoorMarks
namespace Go.Proofs.YtimhnphodnnbeakDoor
open Go.RowKit

theorem partsOut_len (s : ByteArray) : (partsOut s).1.length ≤ 10 := by
  unfold partsOut
  split
  · rename_i h; exact h.2.2
  · simp

set_option maxHeartbeats 2000000 in
set_option maxRecDepth 100000 in
theorem lawPartsOf (a0 : ByteArray) (w0 : a0.size ≤ maxLen) (w : World) (htab : Lib.TabIs Tryd.prog w "strings.asciiSpace" .u8 Lib.asciiSpaceTab) :
    Calls Tryd.prog 4 #[.string a0] w fun e w' => e = .returned (.bool true) ∧ Below w.heap.size w w' := by
  unfold maxLen at w0
  have HT := hide (Lib.tabBelow_of_tabIs htab)
  clear htab
  by_cases hL : 1048576 < a0.size
  · go_enter Tryd.func4, Tryd.ntmps4
    go_wp2_with fail
    go_ret
    exact ⟨rfl, Below.refl _ _⟩
  · obtain ⟨L, b, hLb⟩ : ∃ L b, partsOut a0 = (L, b) := ⟨_, _, rfl⟩
    have hLn : L.length ≤ 10 := by have := partsOut_len a0; rw [hLb] at this; exact this
    have HS := hide (specPartsOf_any a0 (by omega))
    have HI := hide (implPartsOf_any a0 (by omega))
    rw [hLb] at HS HI
    clear hLb
    go_enter Tryd.func4, Tryd.ntmps4
    go_wp2_with fail
    refine (HS.out _).mono ?_
    rintro e w1 ⟨v0, rfl, own0, hb1⟩
    have HO0 := hide own0
    have HB1 := hide hb1
    clear own0 hb1
    go_wp2_with fail
    refine (HI.out _ (HT.out.on HB1.out).here).mono ?_
    rintro e w2 ⟨v1, rfl, own1, hb2⟩
    have own0 := own_below HO0.out hb2
    have HO1 := hide own1
    have HB2 := hide hb2
    have HO02 := hide own0
    clear own0 own1 hb2
    go_wp2_with fail
    refine (eqStringS_same L (by omega) v1 v0 _ _ _ HO1.out HO02.out).mono ?_
    rintro e w3 ⟨rfl, hb3⟩
    have HO13 := hide (own_below HO1.out hb3)
    have HB3 := hide hb3
    clear hb3
    go_wp2_with fail
    refine (markStringS_any L (by omega) v1 w1.heap.size 1 (by omega) (by omega) _ HO13.out (by have := HB2.out.size; have := HB3.out.size; omega)).mono ?_
    rintro e w4 ⟨rfl, own4, hb4⟩
    have HO14 := hide own4
    have HB4 := hide hb4
    clear own4 hb4
    go_wp2_with fail
    refine (heldStringS_any L.length (by omega) v1 _ 1 (by omega) (by omega) _ HO14.out).mono ?_
    rintro e w5 ⟨rfl, hb5⟩
    have HB5 := hide hb5
    have HB15 : Hid (Below w1.heap.size w1 w5) := hide ((HB2.out.trans (HB3.out.mono HB2.out.size)).trans (HB4.out.trans (hb5.mono (by have := HB2.out.size; have := HB3.out.size; have := HB4.out.size; omega))))
    clear hb5
    go_wp2_with fail
    refine (HI.out _ ((HT.out.on HB1.out).on (HB15.out.mono HB1.out.size)).here).mono ?_
    rintro e w6 ⟨v2, rfl, own6, hb6⟩
    have HB6 := hide hb6
    have HO6 := hide own6
    have HB16 : Hid (Below w1.heap.size w1 w6) := hide (HB15.out.trans (hb6.mono HB15.out.size))
    have HO06 := hide (own_below HO0.out HB16.out)
    clear own6 hb6
    go_wp2_with fail
    refine (eqStringS_same L (by omega) v2 v0 _ _ _ HO6.out HO06.out).mono ?_
    rintro e w7 ⟨rfl, hb7⟩
    have HB7 := hide hb7
    have HO17 := hide (own_below (own_below (own_below HO14.out HB5.out) HB6.out) hb7)
    clear hb7
    go_wp2_with fail
    refine (heldStringS_any L.length (by omega) v1 _ 1 (by omega) (by omega) _ HO17.out).mono ?_
    rintro e w8 ⟨rfl, hb8⟩
    go_wp2_with fail
    go_ret
    exact ⟨rfl, HB1.out.trans ((HB16.out.mono HB1.out.size).trans ((HB7.out.mono (by have := HB1.out.size; have := HB16.out.size; omega)).trans (hb8.mono (by have := HB1.out.size; have := HB16.out.size; have := HB7.out.size; omega))))⟩
end Go.Proofs.YtimhnphodnnbeakDoor
