/-
  laws.FnExactShowPairs by contracts: it returns true at every argument, given the program's contract (made by tools/pairlaw.py).
-/
import Derived.Test.YtmmepgincbngeaaPairLawB
import Derived.Test.YtmmepgincbngeaaSpecShow
namespace Go.Proofs.Ytmmepgincbngeaa
open Go.RowKit

set_option maxHeartbeats 8000000 in
set_option maxRecDepth 100000 in
theorem lawShowPairs (lv : Value) (L : List (ByteArray × ByteArray)) (hl : L.length ≤ maxLen) (hs : ∀ p ∈ L, p.1.size ≤ maxLen ∧ p.2.size ≤ maxLen)
    (hI : L.length ≤ 1048576 → (∀ p ∈ L, p.1.size ≤ 1048576 ∧ p.2.size ≤ 1048576) → ∀ u wx, RowAt wx 2 u L.length (prs L) → Calls Try.prog 7 #[u] wx fun e w' => e = .returned (.string (showP L)) ∧ Below wx.heap.size wx w')
    (w : World) (hr : RowAt w 2 lv L.length (prs L)) :
    Calls Try.prog 3 #[lv] w fun e w' => e = .returned (.bool true) ∧ Below w.heap.size w w' := by
  obtain ⟨a0, ha0⟩ : ∃ a, a = w.heap.size := ⟨_, rfl⟩
  have HB_w : Hid (Below a0 w w) := hide (Below.refl _ _)
  have HS_w := hide (sep_nil a0 w)
  have HZ : Hid (∀ wx, Below a0 w wx → a0 ≤ wx.heap.size) := hide (fun wx h => by rw [ha0] at h ⊢; exact h.size)
  have HSz := hide (fun wx (h : Below a0 w wx) => szPairS_any L hl hs lv 1048576 (Nat.le_refl _) wx (row_below hr (by rw [← ha0]; exact h)))
  have HA := hide ha0
  rw [← ha0]
  by_cases hpk : pBulk L ≤ 1048576
  rotate_left
  · rw [szOut_no (by omega)] at HSz
    clear ha0 hr HA hs hl
    go_enter Try.func3, Try.ntmps3
    go_wp2_with fail
    refine (HSz.out _ HB_w.out).mono ?_
    rintro e w1 ⟨rfl, hb1⟩
    go_wp2_with fail
    go_ret
    exact ⟨rfl, HB_w.out.trans (hb1.mono (HZ.out _ HB_w.out))⟩
  obtain ⟨hl1, hl2'⟩ := pBulk_in hpk
  obtain ⟨r, hrr, hr1⟩ : ∃ r : Nat, szOut 1048576 (pBulk L) = (r : Int) ∧ r ≤ 1048576 := ⟨_, szOut_yes hpk, by omega⟩
  rw [hrr] at HSz
  have HTp := hide (fun wx (h : Below a0 w wx) => toPairS_any L hl1 lv wx (row_below hr (by rw [← ha0]; exact h)))
  have HEx := hide (fun u u' wx h h' => eqPairS_row L L (by omega) (by omega) u u' wx h h')
  rw [decide_eq_true rfl] at HEx
  have HSp := hide (fun u wx h => specShowPairs_any L (by omega) hl2' u wx h)
  have HIm := hide (hI hl1 hl2')
  obtain ⟨ans, hans⟩ : ∃ x, showP L = x := ⟨_, rfl⟩
  rw [hans] at HSp HIm
  obtain ⟨n, hn⟩ : ∃ n, L.length = n := ⟨_, rfl⟩
  rw [hn] at HTp HEx HSp HIm
  have dg : (ans.toList == ans.toList) = true := by simp
  clear ha0 hr hs hl hl1 hl2' hrr hr1 hn hI hpk hans
  go_enter Try.func3, Try.ntmps3
  go_wp2_with fail
  refine (HSz.out _ HB_w.out).mono ?_
  rintro e w1 ⟨rfl, hb⟩
  have HS_w1 := hide (sep_below HS_w.out hb)
  have HB_w1 : Hid (Below a0 w w1) := hide (HB_w.out.trans (hb.mono (HZ.out _ HB_w.out)))
  clear hb
  go_wp2_with fail
  refine (HTp.out _ HB_w1.out).mono ?_
  rintro e w2 ⟨ta_v, rfl, ho, hb⟩
  obtain ⟨ta_x, ta_c, rfl⟩ := own_slice ho
  have hz := HZ.out _ HB_w1.out
  have HS_w2 := hide (sep_add HS_w1.out hb (rowA a0 32 2 (.slice ta_x n ta_c) n (prs L)) (own_down ho hz) (fun j hj => ho.lt j hj) hz)
  have HB_w2 : Hid (Below a0 w w2) := hide (HB_w1.out.trans (hb.mono hz))
  clear hz ho hb
  go_wp2_with fail
  refine (HSp.out _ _ (row_of_own (sep_get HS_w2.out 0 rfl))).mono ?_
  rintro e w3 ⟨rfl, hb⟩
  have HS_w3 := hide (sep_below HS_w2.out hb)
  have HB_w3 : Hid (Below a0 w w3) := hide (HB_w2.out.trans (hb.mono (HZ.out _ HB_w2.out)))
  clear hb
  go_wp2_with fail
  refine (HTp.out _ HB_w3.out).mono ?_
  rintro e w4 ⟨x_v, rfl, ho, hb⟩
  obtain ⟨x_x, x_c, rfl⟩ := own_slice ho
  have hz := HZ.out _ HB_w3.out
  have HS_w4 := hide (sep_add HS_w3.out hb (rowA a0 32 2 (.slice x_x n x_c) n (prs L)) (own_down ho hz) (fun j hj => ho.lt j hj) hz)
  have HB_w4 : Hid (Below a0 w w4) := hide (HB_w3.out.trans (hb.mono hz))
  clear hz ho hb
  go_wp2_with fail
  refine (HIm.out _ _ (row_of_own (sep_get HS_w4.out 0 rfl))).mono ?_
  rintro e w5 ⟨rfl, hb⟩
  have HS_w5 := hide (sep_below HS_w4.out hb)
  have HB_w5 : Hid (Below a0 w w5) := hide (HB_w4.out.trans (hb.mono (HZ.out _ HB_w4.out)))
  clear hb
  go_wp2_with fail
  refine (HTp.out _ HB_w5.out).mono ?_
  rintro e w6 ⟨tc_v, rfl, ho, hb⟩
  obtain ⟨tc_x, tc_c, rfl⟩ := own_slice ho
  have hz := HZ.out _ HB_w5.out
  have HS_w6 := hide (sep_add HS_w5.out hb (rowA a0 32 2 (.slice tc_x n tc_c) n (prs L)) (own_down ho hz) (fun j hj => ho.lt j hj) hz)
  have HB_w6 : Hid (Below a0 w w6) := hide (HB_w5.out.trans (hb.mono hz))
  clear hz ho hb
  go_wp2_with fail
  refine (HEx.out _ _ _ (row_of_own (sep_get HS_w6.out 1 rfl)) (row_of_own (sep_get HS_w6.out 0 rfl))).mono ?_
  rintro e w7 ⟨rfl, hb⟩
  have HS_w7 := hide (sep_below HS_w6.out hb)
  have HB_w7 : Hid (Below a0 w w7) := hide (HB_w6.out.trans (hb.mono (HZ.out _ HB_w6.out)))
  clear hb
  go_wp2_with fail
  go_ret
  exact ⟨rfl, HB_w7.out⟩

end Go.Proofs.Ytmmepgincbngeaa
