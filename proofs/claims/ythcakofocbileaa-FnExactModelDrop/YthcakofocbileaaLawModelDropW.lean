/-
  laws.FnExactModelDrop by contracts: it returns true at every argument, given the program's contract (made by tools/pairlaw.py).
-/
import Derived.Test.YthcakofocbileaaPairTo
import Derived.Test.YthcakofocbileaaPairLawB
namespace Go.Proofs.Ythcakofocbileaa
open Go.RowKit

set_option maxHeartbeats 8000000 in
set_option maxRecDepth 100000 in
theorem lawModelDrop (lv : Value) (L : List (ByteArray × ByteArray)) (hl : L.length ≤ maxLen) (hs : ∀ p ∈ L, p.1.size ≤ maxLen ∧ p.2.size ≤ maxLen) (key : ByteArray) (hkey : key.size ≤ maxLen)
    (hI : L.length ≤ 1048576 → (∀ p ∈ L, p.1.size ≤ 1048576 ∧ p.2.size ≤ 1048576) → key.size ≤ 1048576 → ∀ u wx, RowAt wx 2 u L.length (prs L) → Calls Try.prog 9 #[u, .string key] wx fun e w' => ∃ v', e = .returned v' ∧ w'.ownsRow wx.heap.size 30 2 v' (modelD L key).length (prs (modelD L key)) ∧ Below wx.heap.size wx w')
    (w : World) (hr : RowAt w 2 lv L.length (prs L)) :
    Calls Try.prog 5 #[lv, .string key] w fun e w' => e = .returned (.bool true) ∧ Below w.heap.size w w' := by
  obtain ⟨a0, ha0⟩ : ∃ a, a = w.heap.size := ⟨_, rfl⟩
  have HB_w : Hid (Below a0 w w) := hide (Below.refl _ _)
  have HS_w := hide (sep_nil a0 w)
  have HZ : Hid (∀ wx, Below a0 w wx → a0 ≤ wx.heap.size) := hide (fun wx h => by rw [ha0] at h ⊢; exact h.size)
  have HSz := hide (fun wx (h : Below a0 w wx) => szPairS_any L hl hs lv 1048576 (Nat.le_refl _) wx (row_below hr (by rw [← ha0]; exact h)))
  have HA := hide ha0
  rw [← ha0]
  unfold maxLen at hkey
  by_cases bkey : key.size ≤ 1048576
  rotate_left
  · have hx : (1048576 : Int) < (key.size : Int) := by omega
    clear ha0 hr HSz HS_w HA hs hl
    go_enter Try.func5, Try.ntmps5
    go_wp2
    go_ret
    exact ⟨rfl, HB_w.out⟩
  have nkey : ¬ (1048576 : Int) < (key.size : Int) := by omega
  by_cases hpk : pBulk L ≤ 1048576
  rotate_left
  · rw [szOut_no (by omega)] at HSz
    clear ha0 hr HA hs hl
    go_enter Try.func5, Try.ntmps5
    go_wp2_with fail
    refine (HSz.out _ HB_w.out).mono ?_
    rintro e w1 ⟨rfl, hb1⟩
    go_wp2_with fail
    go_ret
    exact ⟨rfl, HB_w.out.trans (hb1.mono (HZ.out _ HB_w.out))⟩
  obtain ⟨hl1, hl2'⟩ := pBulk_in hpk
  obtain ⟨r, hrr, hr1⟩ : ∃ r : Nat, szOut 1048576 (pBulk L) = (r : Int) ∧ r ≤ 1048576 := ⟨_, szOut_yes hpk, by omega⟩
  rw [hrr] at HSz
  have HTp := hide (fun wx (h : Below a0 w wx) => toPairS_any L hl1 lv wx (row_below hr (by rw [← ha0]; exact h)))
  have HEx := hide (fun u u' wx h h' => eqPairS_row L L (by omega) (by omega) u u' wx h h')
  rw [decide_eq_true rfl] at HEx
  have hmb : (modelD L key).length ≤ 1048577 := by have := modelD_len L key; omega
  have HSp := hide (fun u wx h => specModelDrop_any L (by omega) key u wx h)
  have HIm := hide (hI hl1 hl2' bkey)
  obtain ⟨M, hM⟩ : ∃ M, M = modelD L key := ⟨_, rfl⟩
  rw [← hM] at HSp HIm hmb
  replace HSp : Hid (∀ u wx, RowAt wx 2 u L.length (prs L) → Calls Try.prog 13 #[u, .string key] wx fun e w' => ∃ v', e = .returned v' ∧ w'.ownsRow wx.heap.size 30 2 v' M.length (prs M) ∧ Below wx.heap.size wx w') := HSp
  have HEr := hide (fun u u' wx h h' => eqPairS_row M M (by omega) (by omega) u u' wx h h')
  rw [decide_eq_true rfl] at HEr
  have HMx := hide (fun u B rest wx h hB => markPairS_sepK 1 (by omega) (by omega) u L (by omega) B rest wx h hB)
  have HMr := hide (fun u B rest wx h hB => markPairS_sepK 1 (by omega) (by omega) u M (by omega) B rest wx h hB)
  have HHr := hide (fun u wx h => heldPairS_big M.length (by omega) u 1 (by omega) (by omega) wx h)
  obtain ⟨n, hn⟩ : ∃ n, L.length = n := ⟨_, rfl⟩
  obtain ⟨nm, hnm⟩ : ∃ n, M.length = n := ⟨_, rfl⟩
  rw [hn] at HTp HEx HSp HIm HMx
  rw [hnm] at HSp HIm HEr HMr HHr
  obtain ⟨k1, hk1⟩ : ∃ k1 : Nat, 1 + n * 2 = k1 := ⟨_, rfl⟩
  obtain ⟨kz, hkz⟩ : ∃ kz : Nat, 1 + nm * 2 = kz := ⟨_, rfl⟩
  rw [hk1] at HMx
  rw [hkz] at HMr HHr
  have dn : decide ((k1 : Int) < 0) = false := decide_eq_false (by omega)
  have dz : decide ((kz : Int) < 0) = false := decide_eq_false (by omega)
  have dk : ((kz : Int) != (kz : Int)) = false := by simp
  clear ha0 hr hs hl hl1 hl2' hrr hr1 hmb hM hn hnm hk1 hkz hI hpk
  go_enter Try.func5, Try.ntmps5
  go_wp2_with fail
  refine (HSz.out _ HB_w.out).mono ?_
  rintro e w1 ⟨rfl, hb⟩
  have HS_w1 := hide (sep_below HS_w.out hb)
  have HB_w1 : Hid (Below a0 w w1) := hide (HB_w.out.trans (hb.mono (HZ.out _ HB_w.out)))
  clear hb
  go_wp2_with fail
  refine (HTp.out _ HB_w1.out).mono ?_
  rintro e w2 ⟨ta_v, rfl, ho, hb⟩
  obtain ⟨ta_x, ta_c, rfl⟩ := own_slice ho
  have hz := HZ.out _ HB_w1.out
  have HS_w2 := hide (sep_add HS_w1.out hb (rowA a0 30 2 (.slice ta_x n ta_c) n (prs L)) (own_down ho hz) (fun j hj => ho.lt j hj) hz)
  have HB_w2 : Hid (Below a0 w w2) := hide (HB_w1.out.trans (hb.mono hz))
  clear hz ho hb
  go_wp2_with fail
  refine (HSp.out _ _ (row_of_own (sep_get HS_w2.out 0 rfl))).mono ?_
  rintro e w3 ⟨s_v, rfl, ho, hb⟩
  obtain ⟨s_x, s_c, rfl⟩ := own_slice ho
  have hz := HZ.out _ HB_w2.out
  have HS_w3 := hide (sep_add HS_w2.out hb (rowA a0 30 2 (.slice s_x nm s_c) nm (prs M)) (own_down ho hz) (fun j hj => ho.lt j hj) hz)
  have HB_w3 : Hid (Below a0 w w3) := hide (HB_w2.out.trans (hb.mono hz))
  clear hz ho hb
  go_wp2_with fail
  refine (HTp.out _ HB_w3.out).mono ?_
  rintro e w4 ⟨x_v, rfl, ho, hb⟩
  obtain ⟨x_x, x_c, rfl⟩ := own_slice ho
  have hz := HZ.out _ HB_w3.out
  have HS_w4 := hide (sep_add HS_w3.out hb (rowA a0 30 2 (.slice x_x n x_c) n (prs L)) (own_down ho hz) (fun j hj => ho.lt j hj) hz)
  have HB_w4 : Hid (Below a0 w w4) := hide (HB_w3.out.trans (hb.mono hz))
  clear hz ho hb
  go_wp2_with fail
  refine (HIm.out _ _ (row_of_own (sep_get HS_w4.out 0 rfl))).mono ?_
  rintro e w5 ⟨g_v, rfl, ho, hb⟩
  obtain ⟨g_x, g_c, rfl⟩ := own_slice ho
  have hz := HZ.out _ HB_w4.out
  have HS_w5 := hide (sep_add HS_w4.out hb (rowA a0 30 2 (.slice g_x nm g_c) nm (prs M)) (own_down ho hz) (fun j hj => ho.lt j hj) hz)
  have HB_w5 : Hid (Below a0 w w5) := hide (HB_w4.out.trans (hb.mono hz))
  clear hz ho hb
  go_wp2_with fail
  refine (HEr.out _ _ _ (row_of_own (sep_get HS_w5.out 0 rfl)) (row_of_own (sep_get HS_w5.out 2 rfl))).mono ?_
  rintro e w6 ⟨rfl, hb⟩
  have HS_w6 := hide (sep_below HS_w5.out hb)
  have HB_w6 : Hid (Below a0 w w6) := hide (HB_w5.out.trans (hb.mono (HZ.out _ HB_w5.out)))
  clear hb
  go_wp2_with fail
  refine (HTp.out _ HB_w6.out).mono ?_
  rintro e w7 ⟨tp_v, rfl, ho, hb⟩
  obtain ⟨tp_x, tp_c, rfl⟩ := own_slice ho
  have hz := HZ.out _ HB_w6.out
  have HS_w7 := hide (sep_add HS_w6.out hb (rowA a0 30 2 (.slice tp_x n tp_c) n (prs L)) (own_down ho hz) (fun j hj => ho.lt j hj) hz)
  have HB_w7 : Hid (Below a0 w w7) := hide (HB_w6.out.trans (hb.mono hz))
  clear hz ho hb
  go_wp2_with fail
  refine (HEx.out _ _ _ (row_of_own (sep_get HS_w7.out 2 rfl)) (row_of_own (sep_get HS_w7.out 0 rfl))).mono ?_
  rintro e w8 ⟨rfl, hb⟩
  have HS_w8 := hide (sep_below HS_w7.out hb)
  have HB_w8 : Hid (Below a0 w w8) := hide (HB_w7.out.trans (hb.mono (HZ.out _ HB_w7.out)))
  clear hb
  have HSp := hide (sep_pick (pre := [_, _, _, _, _]) (rest := []) HS_w8.out [2, 0, 1, 3, 4] (by decide) [_, _, _, _, _] rfl)
  clear HS_w8
  have HS_w8 := HSp
  clear HSp
  go_wp2_with fail
  refine (HMx.out _ _ _ _ HS_w8.out (HZ.out _ HB_w8.out)).mono ?_
  rintro e w9 ⟨rfl, hs, hb⟩
  have HS_w9 := hide (sep_del hs)
  have HB_w9 := hide (HB_w8.out.trans hb)
  clear hs hb
  go_wp2_with fail
  refine (HEr.out _ _ _ (row_of_own (sep_get HS_w9.out 1 rfl)) (row_of_own (sep_get HS_w9.out 2 rfl))).mono ?_
  rintro e w10 ⟨rfl, hb⟩
  have HS_w10 := hide (sep_below HS_w9.out hb)
  have HB_w10 : Hid (Below a0 w w10) := hide (HB_w9.out.trans (hb.mono (HZ.out _ HB_w9.out)))
  clear hb
  have HSp := hide (sep_pick (pre := [_, _, _, _]) (rest := []) HS_w10.out [1, 0, 2, 3] (by decide) [_, _, _, _] rfl)
  clear HS_w10
  have HS_w10 := HSp
  clear HSp
  go_wp2_with fail
  refine (HMr.out _ _ _ _ HS_w10.out (HZ.out _ HB_w10.out)).mono ?_
  rintro e w11 ⟨rfl, hs, hb⟩
  have HS_w11 := hide (hs)
  have HB_w11 := hide (HB_w10.out.trans hb)
  clear hs hb
  go_wp2_with fail
  refine (HHr.out _ _ (row_of_own (sep_get HS_w11.out 0 rfl))).mono ?_
  rintro e w12 ⟨rfl, hb⟩
  have HS_w12 := hide (sep_below HS_w11.out hb)
  have HB_w12 : Hid (Below a0 w w12) := hide (HB_w11.out.trans (hb.mono (HZ.out _ HB_w11.out)))
  clear hb
  go_wp2_with fail
  refine (HTp.out _ HB_w12.out).mono ?_
  rintro e w13 ⟨td_v, rfl, ho, hb⟩
  obtain ⟨td_x, td_c, rfl⟩ := own_slice ho
  have hz := HZ.out _ HB_w12.out
  have HS_w13 := hide (sep_add HS_w12.out hb (rowA a0 30 2 (.slice td_x n td_c) n (prs L)) (own_down ho hz) (fun j hj => ho.lt j hj) hz)
  have HB_w13 : Hid (Below a0 w w13) := hide (HB_w12.out.trans (hb.mono hz))
  clear hz ho hb
  go_wp2_with fail
  refine (HIm.out _ _ (row_of_own (sep_get HS_w13.out 0 rfl))).mono ?_
  rintro e w14 ⟨h_v, rfl, ho, hb⟩
  obtain ⟨h_x, h_c, rfl⟩ := own_slice ho
  have hz := HZ.out _ HB_w13.out
  have HS_w14 := hide (sep_add HS_w13.out hb (rowA a0 30 2 (.slice h_x nm h_c) nm (prs M)) (own_down ho hz) (fun j hj => ho.lt j hj) hz)
  have HB_w14 : Hid (Below a0 w w14) := hide (HB_w13.out.trans (hb.mono hz))
  clear hz ho hb
  go_wp2_with fail
  refine (HEr.out _ _ _ (row_of_own (sep_get HS_w14.out 0 rfl)) (row_of_own (sep_get HS_w14.out 4 rfl))).mono ?_
  rintro e w15 ⟨rfl, hb⟩
  have HS_w15 := hide (sep_below HS_w14.out hb)
  have HB_w15 : Hid (Below a0 w w15) := hide (HB_w14.out.trans (hb.mono (HZ.out _ HB_w14.out)))
  clear hb
  go_wp2_with fail
  refine (HHr.out _ _ (row_of_own (sep_get HS_w15.out 2 rfl))).mono ?_
  rintro e w16 ⟨rfl, hb⟩
  have HS_w16 := hide (sep_below HS_w15.out hb)
  have HB_w16 : Hid (Below a0 w w16) := hide (HB_w15.out.trans (hb.mono (HZ.out _ HB_w15.out)))
  clear hb
  go_wp2_with fail
  go_ret
  exact ⟨rfl, HB_w16.out⟩

end Go.Proofs.Ythcakofocbileaa
