/-
  laws.FnExactSamePairs by contracts: it returns true at every argument, given the program's contract (made by tools/pairlaw.py).
-/
import Derived.Test.YtdbpbhemnnffeaaPairLawB
import Derived.Test.YtdbpbhemnnffeaaSpecShow
namespace Go.Proofs.Ytdbpbhemnnffeaa
open Go.RowKit

set_option maxHeartbeats 8000000 in
set_option maxRecDepth 100000 in
theorem lawSamePairs (lv : Value) (L : List (ByteArray × ByteArray)) (hl : L.length ≤ maxLen) (hs : ∀ p ∈ L, p.1.size ≤ maxLen ∧ p.2.size ≤ maxLen) (lv2 : Value) (L2 : List (ByteArray × ByteArray)) (hl2 : L2.length ≤ maxLen) (hs2 : ∀ p ∈ L2, p.1.size ≤ maxLen ∧ p.2.size ≤ maxLen)
    (hI : L.length ≤ 1048576 → (∀ p ∈ L, p.1.size ≤ 1048576 ∧ p.2.size ≤ 1048576) → L2.length ≤ 1048576 → ∀ u u2 wx, RowAt wx 2 u L.length (prs L) → RowAt wx 2 u2 L2.length (prs L2) → Calls Try.prog 7 #[u, u2] wx fun e w' => e = .returned (.bool (decide (L = L2))) ∧ Below wx.heap.size wx w')
    (w : World) (hr : RowAt w 2 lv L.length (prs L)) (hr2 : RowAt w 2 lv2 L2.length (prs L2)) :
    Calls Try.prog 3 #[lv, lv2] w fun e w' => e = .returned (.bool true) ∧ Below w.heap.size w w' := by
  obtain ⟨a0, ha0⟩ : ∃ a, a = w.heap.size := ⟨_, rfl⟩
  have HB_w : Hid (Below a0 w w) := hide (Below.refl _ _)
  have HS_w := hide (sep_nil a0 w)
  have HZ : Hid (∀ wx, Below a0 w wx → a0 ≤ wx.heap.size) := hide (fun wx h => by rw [ha0] at h ⊢; exact h.size)
  have HSz := hide (fun wx (h : Below a0 w wx) => szPairS_any L hl hs lv 1048576 (Nat.le_refl _) wx (row_below hr (by rw [← ha0]; exact h)))
  have HA := hide ha0
  rw [← ha0]
  by_cases hpk : pBulk L ≤ 1048576
  rotate_left
  · rw [szOut_no (by omega)] at HSz
    clear ha0 hr HA hs hl hr2 hs2 hl2
    go_enter Try.func3, Try.ntmps3
    go_wp2_with fail
    refine (HSz.out _ HB_w.out).mono ?_
    rintro e w1 ⟨rfl, hb1⟩
    go_wp2_with fail
    go_ret
    exact ⟨rfl, HB_w.out.trans (hb1.mono (HZ.out _ HB_w.out))⟩
  obtain ⟨hl1, hl2'⟩ := pBulk_in hpk
  obtain ⟨r, hrr, hr1⟩ : ∃ r : Nat, szOut 1048576 (pBulk L) = (r : Int) ∧ r ≤ 1048576 := ⟨_, szOut_yes hpk, by omega⟩
  rw [hrr] at HSz
  have HSz2 := hide (fun wx (h : Below a0 w wx) => szPairS_any L2 hl2 hs2 lv2 r hr1 wx (row_below hr2 (by rw [← ha0]; exact h)))
  by_cases hpk2 : pBulk L2 ≤ r
  rotate_left
  · rw [szOut_no (by omega)] at HSz2
    clear ha0 hr HA hs hl hr2 hs2 hl2 hrr hI
    go_enter Try.func3, Try.ntmps3
    go_wp2_with fail
    refine (HSz.out _ HB_w.out).mono ?_
    rintro e w1 ⟨rfl, hb1⟩
    have HB1 := hide (HB_w.out.trans (hb1.mono (HZ.out _ HB_w.out)))
    clear hb1
    go_wp2_with fail
    refine (HSz2.out _ HB1.out).mono ?_
    rintro e w2 ⟨rfl, hb2⟩
    go_wp2_with fail
    go_ret
    exact ⟨rfl, HB1.out.trans (hb2.mono (HZ.out _ HB1.out))⟩
  obtain ⟨hm1, -⟩ := pBulk_in (L := L2) (by omega)
  obtain ⟨r2, hr2'⟩ : ∃ r2 : Nat, szOut r (pBulk L2) = (r2 : Int) := ⟨_, szOut_yes hpk2⟩
  rw [hr2'] at HSz2
  have HTq := hide (fun wx (h : Below a0 w wx) => toPairS_any L2 hm1 lv2 wx (row_below hr2 (by rw [← ha0]; exact h)))
  have HEq := hide (fun u u' wx h h' => eqPairS_row L2 L2 (by omega) (by omega) u u' wx h h')
  rw [decide_eq_true rfl] at HEq
  have HTp := hide (fun wx (h : Below a0 w wx) => toPairS_any L hl1 lv wx (row_below hr (by rw [← ha0]; exact h)))
  have HEx := hide (fun u u' wx h h' => eqPairS_row L L (by omega) (by omega) u u' wx h h')
  rw [decide_eq_true rfl] at HEx
  have HSp := hide (fun u u2 wx h h2 => specSamePairs_any L L2 (by omega) (by omega) u u2 wx h h2)
  have HIm := hide (hI hl1 hl2' hm1)
  obtain ⟨ans, hans⟩ : ∃ x, decide (L = L2) = x := ⟨_, rfl⟩
  rw [hans] at HSp HIm
  obtain ⟨n, hn⟩ : ∃ n, L.length = n := ⟨_, rfl⟩
  rw [hn] at HTp HEx HSp HIm
  obtain ⟨n2, hn2⟩ : ∃ n, L2.length = n := ⟨_, rfl⟩
  rw [hn2] at HTq HEq HSp HIm
  have dg : (ans != ans) = false := by cases ans <;> rfl
  clear ha0 hr hs hl hl1 hl2' hrr hr1 hn hI hpk hr2 hs2 hl2 hm1 hr2' hpk2 hn2 hans
  go_enter Try.func3, Try.ntmps3
  go_wp2_with fail
  refine (HSz.out _ HB_w.out).mono ?_
  rintro e w1 ⟨rfl, hb⟩
  have HS_w1 := hide (sep_below HS_w.out hb)
  have HB_w1 : Hid (Below a0 w w1) := hide (HB_w.out.trans (hb.mono (HZ.out _ HB_w.out)))
  clear hb
  go_wp2_with fail
  refine (HSz2.out _ HB_w1.out).mono ?_
  rintro e w2 ⟨rfl, hb⟩
  have HS_w2 := hide (sep_below HS_w1.out hb)
  have HB_w2 : Hid (Below a0 w w2) := hide (HB_w1.out.trans (hb.mono (HZ.out _ HB_w1.out)))
  clear hb
  go_wp2_with fail
  refine (HTp.out _ HB_w2.out).mono ?_
  rintro e w3 ⟨ta_v, rfl, ho, hb⟩
  obtain ⟨ta_x, ta_c, rfl⟩ := own_slice ho
  have hz := HZ.out _ HB_w2.out
  have HS_w3 := hide (sep_add HS_w2.out hb (rowA a0 31 2 (.slice ta_x n ta_c) n (prs L)) (own_down ho hz) (fun j hj => ho.lt j hj) hz)
  have HB_w3 : Hid (Below a0 w w3) := hide (HB_w2.out.trans (hb.mono hz))
  clear hz ho hb
  go_wp2_with fail
  refine (HTq.out _ HB_w3.out).mono ?_
  rintro e w4 ⟨tb_v, rfl, ho, hb⟩
  obtain ⟨tb_x, tb_c, rfl⟩ := own_slice ho
  have hz := HZ.out _ HB_w3.out
  have HS_w4 := hide (sep_add HS_w3.out hb (rowA a0 31 2 (.slice tb_x n2 tb_c) n2 (prs L2)) (own_down ho hz) (fun j hj => ho.lt j hj) hz)
  have HB_w4 : Hid (Below a0 w w4) := hide (HB_w3.out.trans (hb.mono hz))
  clear hz ho hb
  go_wp2_with fail
  refine (HSp.out _ _ _ (row_of_own (sep_get HS_w4.out 1 rfl)) (row_of_own (sep_get HS_w4.out 0 rfl))).mono ?_
  rintro e w5 ⟨rfl, hb⟩
  have HS_w5 := hide (sep_below HS_w4.out hb)
  have HB_w5 : Hid (Below a0 w w5) := hide (HB_w4.out.trans (hb.mono (HZ.out _ HB_w4.out)))
  clear hb
  go_wp2_with fail
  refine (HTp.out _ HB_w5.out).mono ?_
  rintro e w6 ⟨x_v, rfl, ho, hb⟩
  obtain ⟨x_x, x_c, rfl⟩ := own_slice ho
  have hz := HZ.out _ HB_w5.out
  have HS_w6 := hide (sep_add HS_w5.out hb (rowA a0 31 2 (.slice x_x n x_c) n (prs L)) (own_down ho hz) (fun j hj => ho.lt j hj) hz)
  have HB_w6 : Hid (Below a0 w w6) := hide (HB_w5.out.trans (hb.mono hz))
  clear hz ho hb
  go_wp2_with fail
  refine (HTq.out _ HB_w6.out).mono ?_
  rintro e w7 ⟨y_v, rfl, ho, hb⟩
  obtain ⟨y_x, y_c, rfl⟩ := own_slice ho
  have hz := HZ.out _ HB_w6.out
  have HS_w7 := hide (sep_add HS_w6.out hb (rowA a0 31 2 (.slice y_x n2 y_c) n2 (prs L2)) (own_down ho hz) (fun j hj => ho.lt j hj) hz)
  have HB_w7 : Hid (Below a0 w w7) := hide (HB_w6.out.trans (hb.mono hz))
  clear hz ho hb
  go_wp2_with fail
  refine (HIm.out _ _ _ (row_of_own (sep_get HS_w7.out 1 rfl)) (row_of_own (sep_get HS_w7.out 0 rfl))).mono ?_
  rintro e w8 ⟨rfl, hb⟩
  have HS_w8 := hide (sep_below HS_w7.out hb)
  have HB_w8 : Hid (Below a0 w w8) := hide (HB_w7.out.trans (hb.mono (HZ.out _ HB_w7.out)))
  clear hb
  go_wp2_with fail
  refine (HTp.out _ HB_w8.out).mono ?_
  rintro e w9 ⟨tc_v, rfl, ho, hb⟩
  obtain ⟨tc_x, tc_c, rfl⟩ := own_slice ho
  have hz := HZ.out _ HB_w8.out
  have HS_w9 := hide (sep_add HS_w8.out hb (rowA a0 31 2 (.slice tc_x n tc_c) n (prs L)) (own_down ho hz) (fun j hj => ho.lt j hj) hz)
  have HB_w9 : Hid (Below a0 w w9) := hide (HB_w8.out.trans (hb.mono hz))
  clear hz ho hb
  go_wp2_with fail
  refine (HEx.out _ _ _ (row_of_own (sep_get HS_w9.out 2 rfl)) (row_of_own (sep_get HS_w9.out 0 rfl))).mono ?_
  rintro e w10 ⟨rfl, hb⟩
  have HS_w10 := hide (sep_below HS_w9.out hb)
  have HB_w10 : Hid (Below a0 w w10) := hide (HB_w9.out.trans (hb.mono (HZ.out _ HB_w9.out)))
  clear hb
  go_wp2_with fail
  refine (HTq.out _ HB_w10.out).mono ?_
  rintro e w11 ⟨td_v, rfl, ho, hb⟩
  obtain ⟨td_x, td_c, rfl⟩ := own_slice ho
  have hz := HZ.out _ HB_w10.out
  have HS_w11 := hide (sep_add HS_w10.out hb (rowA a0 31 2 (.slice td_x n2 td_c) n2 (prs L2)) (own_down ho hz) (fun j hj => ho.lt j hj) hz)
  have HB_w11 : Hid (Below a0 w w11) := hide (HB_w10.out.trans (hb.mono hz))
  clear hz ho hb
  go_wp2_with fail
  refine (HEq.out _ _ _ (row_of_own (sep_get HS_w11.out 2 rfl)) (row_of_own (sep_get HS_w11.out 0 rfl))).mono ?_
  rintro e w12 ⟨rfl, hb⟩
  have HS_w12 := hide (sep_below HS_w11.out hb)
  have HB_w12 : Hid (Below a0 w w12) := hide (HB_w11.out.trans (hb.mono (HZ.out _ HB_w11.out)))
  clear hb
  go_wp2_with fail
  go_ret
  exact ⟨rfl, HB_w12.out⟩

end Go.Proofs.Ytdbpbhemnnffeaa
