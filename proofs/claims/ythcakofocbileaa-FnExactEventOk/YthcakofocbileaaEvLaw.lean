/-
  toEvent and eqEvent of the laws, and laws.FnExactEventOk by contracts: it returns true at every event, given the program's contract.
-/
import Derived.Test.YthcakofocbileaaEvRow
import Derived.Test.YthcakofocbileaaSepCells
import Derived.Test.YthcakofocbileaaTwoWays
import Derived.Test.YthcakofocbileaaStepCall
import Derived.Deep.Cut
namespace Go.Proofs.Ythcakofocbileaa
open Go.RowKit

theorem Try.sizeEvI : (Try.prog.info? 39).map (·.size) = some 7 := by kernel_rfl

theorem Try.sizeEvL : (Try.prog.info? 36).map (·.size) = some 7 := by kernel_rfl

set_option maxHeartbeats 2000000 in
set_option maxRecDepth 100000 in
theorem toEvent_any (v : Value) (e : Evt) (hl : e.left.length ≤ 1048576) (w : World) (hd : EvAt w v e) :
    Calls Try.prog 16 #[v] w fun x w' => ∃ v', x = .returned v' ∧ EvAt w' v' e ∧ Below w.heap.size w w' := by
  obtain ⟨a, cap, rfl, hr⟩ := hd
  obtain ⟨kind, id, key, val, stage, lft, torn⟩ := e
  dsimp only at hl hr ⊢
  have HTo := hide (fun wx (hb : Below w.heap.size w wx) => toBoolS_any lft hl (.slice a lft.length cap) wx (row_below hr hb))
  obtain ⟨n, hn⟩ : ∃ n, lft.length = n := ⟨_, rfl⟩
  have HN := hide hn
  rw [hn] at HTo ⊢
  clear hr hn hl
  obtain ⟨a0, ha0⟩ : ∃ a0, a0 = w.heap.size := ⟨_, rfl⟩
  have hs3 := sep_new (sep_new (sep_new (sep_nil w.heap.size w) (Obj.cells #[.int .i64 kind, .int .i64 id, .string key, .string val, .int .i64 stage, .slice a n cap, .int .i64 torn] 36) (Nat.le_refl _)) (Obj.cells #[.int .i64 0, .int .i64 0, .string ⟨#[]⟩, .string ⟨#[]⟩, .int .i64 0, .slice none 0 0, .int .i64 0] 39) (by simp)) (Obj.cells #[.int .i64 kind, .int .i64 id, .string key, .string val, .int .i64 stage, .slice none 0 0, .int .i64 0] 39) (by simp; omega)
  simp only [World.size_alloc] at hs3
  obtain ⟨w3, hw3⟩ : ∃ w3, w3 = ((w.alloc (Obj.cells #[.int .i64 kind, .int .i64 id, .string key, .string val, .int .i64 stage, .slice a n cap, .int .i64 torn] 36)).alloc (Obj.cells #[.int .i64 0, .int .i64 0, .string ⟨#[]⟩, .string ⟨#[]⟩, .int .i64 0, .slice none 0 0, .int .i64 0] 39)).alloc (Obj.cells #[.int .i64 kind, .int .i64 id, .string key, .string val, .int .i64 stage, .slice none 0 0, .int .i64 0] 39) := ⟨_, rfl⟩
  have HB3 : Hid (Below w.heap.size w w3) := hide (by rw [hw3]; exact (((Below.refl w.heap.size w).alloc (Nat.le_refl _) _).alloc (by simp) _).alloc (by simp; omega) _)
  rw [← hw3, ← ha0] at hs3
  have HS3 := hide hs3
  have HE := hide (⟨hw3, ha0⟩ : _ ∧ _)
  clear hs3 hw3 ha0
  go_enter Try.func16, Try.ntmps16
  go_upto_region 7 with fail
  obtain ⟨hw3, ha0⟩ := HE.out
  rw [← hw3, ← ha0]
  have HA := hide ha0
  clear hw3 ha0 HE
  have c5 := (cell_at (sep_get HS3.out 2 rfl : w3.heap[a0]? = some (Obj.cells #[.int .i64 kind, .int .i64 id, .string key, .string val, .int .i64 stage, .slice a n cap, .int .i64 torn] 36)) 5).1
  go_wp2_with fail
  refine (HTo.out _ HB3.out).mono ?_
  rintro e w4 ⟨v4, rfl, ho, hb⟩
  obtain ⟨x, c, rfl⟩ := own_slice ho
  have hz : w.heap.size ≤ w3.heap.size := HB3.out.size
  have hs4 := sep_below HS3.out hb
  have HB4 : Hid (Below w.heap.size w w4) := hide (HB3.out.trans (hb.mono hz))
  have ho4 : w4.ownsRow w3.heap.size 4 1 (.slice x n c) n (bools lft) := ho
  have hap : ∀ k, (Value.slice x n c).ownBlock = some k → w3.heap.size ≤ k ∧ k < w4.heap.size := fun k hk => ho4.lt k hk
  have hs5 := sep_add HS3.out hb (rowA w3.heap.size 4 1 (.slice x n c) n (bools lft)) ho4 hap (by rw [HA.out]; exact hz)
  have y5 := (cell_at (sep_get hs5 1 rfl : w4.heap[a0 + 1 + 1]? = some (Obj.cells #[.int .i64 kind, .int .i64 id, .string key, .string val, .int .i64 stage, .slice none 0 0, .int .i64 0] 39)) 5)
  have y6 := (cell_at (sep_get hs5 1 rfl : w4.heap[a0 + 1 + 1]? = some (Obj.cells #[.int .i64 kind, .int .i64 id, .string key, .string val, .int .i64 stage, .slice none 0 0, .int .i64 0] 39)) 6)
  have d6 := (cell_at (sep_get hs5 3 rfl : w4.heap[a0]? = some (Obj.cells #[.int .i64 kind, .int .i64 id, .string key, .string val, .int .i64 stage, .slice a n cap, .int .i64 torn] 36)) 6).1
  have hs6 := sep_store (sep_store hs5 1 rfl 5 (.slice x n c)) 1 rfl 6 (.int .i64 torn)
  obtain ⟨y50, y51⟩ := y5
  obtain ⟨y60, y61⟩ := y6
  have hg1 : w.heap.size ≤ a0 + 1 + 1 := by rw [HA.out]; omega
  have hb6 := (HB4.out.setCell (p := ⟨a0 + 1 + 1, 5, none⟩) hg1 (.slice x n c)).setCell (p := ⟨a0 + 1 + 1, 6, none⟩) hg1 (.int .i64 torn)
  obtain ⟨w6, hw6⟩ : ∃ w6, w6 = (w4.setCell ⟨a0 + 1 + 1, 5, none⟩ (.slice x n c)).setCell ⟨a0 + 1 + 1, 6, none⟩ (.int .i64 torn) := ⟨_, rfl⟩
  rw [← hw6] at hs6 hb6
  have HS6 := hide hs6
  have HB6 := hide hb6
  have hne : a0 ≠ a0 + 1 + 1 := by omega
  clear hs4 hs5 hs6 hb6 hb ho ho4 hap hz hg1
  go_upto_region 9 with fail
  rw [← hw6]
  clear hw6 y50 y51 y60 y61 d6 c5 hne
  have HRg : Hid (w6.rangeAt (a0 + 1 + 1) 0 (#[.int .i64 kind, .int .i64 id, .string key, .string val, .int .i64 stage, .slice x n c, .int .i64 torn] : Array Value).toList) := hide (range_all (sep_get HS6.out 1 rfl : w6.heap[a0 + 1 + 1]? = some (Obj.cells #[.int .i64 kind, .int .i64 id, .string key, .string val, .int .i64 stage, .slice x n c, .int .i64 torn] 39)))
  have HTh : Hid (w6.there (a0 + 1) 0 (#[.int .i64 kind, .int .i64 id, .string key, .string val, .int .i64 stage, .slice x n c, .int .i64 torn] : Array Value).size) := hide (there_of (sep_get HS6.out 2 rfl : w6.heap[a0 + 1]? = some (Obj.cells #[.int .i64 0, .int .i64 0, .string ⟨#[]⟩, .string ⟨#[]⟩, .int .i64 0, .slice none 0 0, .int .i64 0] 39)) 0 7 (show 0 + 7 ≤ 7 by decide))
  obtain ⟨wf, hwf⟩ : ∃ wf, wf = w6.setCells (a0 + 1) 0 (#[.int .i64 kind, .int .i64 id, .string key, .string val, .int .i64 stage, .slice x n c, .int .i64 torn] : Array Value).toList := ⟨_, rfl⟩
  have hsf := sep_cellsAll HS6.out 2 rfl #[.int .i64 kind, .int .i64 id, .string key, .string val, .int .i64 stage, .slice x n c, .int .i64 torn] rfl
  have hbf := below_cells (show w.heap.size ≤ a0 + 1 by rw [HA.out]; omega) (#[.int .i64 kind, .int .i64 id, .string key, .string val, .int .i64 stage, .slice x n c, .int .i64 torn] : Array Value).toList 0 w6 HB6.out
  rw [← hwf] at hsf hbf
  have HSf := hide hsf
  have HBf := hide hbf
  have HWf := hide hwf.symm
  clear hsf hbf hwf
  go_wp2_with (first | ((with_reducible refine wpList_loadL ?_ 39 (.tmp 3) ?_ (a0 + 1 + 1) 0 ?_ #[.int .i64 kind, .int .i64 id, .string key, .string val, .int .i64 stage, .slice x n c, .int .i64 torn] HRg.out _ Try.underlying39 ?_ ?_ ?_); exact rfl; exact rfl; exact rfl; exact rfl; exact Try.sizeEvI) | ((with_reducible refine wpList_storeL ?_ 39 (.tmp 2) (.tmp 26) ?_ (a0 + 1) 0 #[.int .i64 kind, .int .i64 id, .string key, .string val, .int .i64 stage, .slice x n c, .int .i64 torn] ?_ ?_ HTh.out ?_ ?_ HWf.out ?_); exact rfl; exact rfl; exact rfl; exact rfl; exact Try.sizeEvI; exact rfl))
  refine bodyPost_ret (v := .agg #[.int .i64 kind, .int .i64 id, .string key, .string val, .int .i64 stage, .slice x n c, .int .i64 torn]) (results_c Try.results16 rfl (run_agg (range_all (sep_get HSf.out 2 rfl : wf.heap[a0 + 1]? = some (Obj.cells #[.int .i64 kind, .int .i64 id, .string key, .string val, .int .i64 stage, .slice x n c, .int .i64 torn] 39))) Try.underlying39 rfl Try.sizeEvI)) rfl ⟨_, rfl, ?_, HBf.out⟩
  refine ⟨x, c, ?_, ?_⟩
  · rw [HN.out]
  · rw [HN.out]; exact row_of_own (sep_get HSf.out 0 rfl)

set_option maxHeartbeats 2000000 in
set_option maxRecDepth 100000 in
theorem eqEvent_same (v u : Value) (e : Evt) (hl : e.left.length ≤ 1048576) (w : World) (hd : EvAt w v e) (hu : EvAt w u e) :
    Calls Try.prog 18 #[v, u] w fun x w' => x = .returned (.bool true) ∧ Below w.heap.size w w' := by
  obtain ⟨a, cap, rfl, hr⟩ := hd
  obtain ⟨a2, cap2, rfl, hr2⟩ := hu
  obtain ⟨kind, id, key, val, stage, lft, torn⟩ := e
  dsimp only at hl hr hr2 ⊢
  have HEq := hide (fun wx (hb : Below w.heap.size w wx) => eqBoolS_row lft lft (by omega) (by omega) (.slice a lft.length cap) (.slice a2 lft.length cap2) wx (row_below hr hb) (row_below hr2 hb))
  rw [decide_eq_true rfl] at HEq
  obtain ⟨n, hn⟩ : ∃ n, lft.length = n := ⟨_, rfl⟩
  rw [hn] at HEq ⊢
  clear hr hr2 hn hl
  have hs2 := sep_new (sep_new (sep_nil w.heap.size w) (Obj.cells #[.int .i64 kind, .int .i64 id, .string key, .string val, .int .i64 stage, .slice a n cap, .int .i64 torn] 39) (Nat.le_refl _)) (Obj.cells #[.int .i64 kind, .int .i64 id, .string key, .string val, .int .i64 stage, .slice a2 n cap2, .int .i64 torn] 39) (by simp)
  rw [World.size_alloc] at hs2
  obtain ⟨w2, hw2⟩ : ∃ w2, w2 = (w.alloc (Obj.cells #[.int .i64 kind, .int .i64 id, .string key, .string val, .int .i64 stage, .slice a n cap, .int .i64 torn] 39)).alloc (Obj.cells #[.int .i64 kind, .int .i64 id, .string key, .string val, .int .i64 stage, .slice a2 n cap2, .int .i64 torn] 39) := ⟨_, rfl⟩
  have HB2 : Hid (Below w.heap.size w w2) := hide (by rw [hw2]; exact ((Below.refl w.heap.size w).alloc (Nat.le_refl _) _).alloc (by simp) _)
  rw [← hw2] at hs2
  have HS2 := hide hs2
  have HE := hide hw2
  clear hs2 hw2
  go_enter Try.func18, Try.ntmps18
  go_wp2_with fail
  rw [← HE.out]
  clear HE
  refine (HEq.out _ HB2.out).mono ?_
  rintro e w3 ⟨rfl, hb⟩
  have hs3 := sep_below HS2.out hb
  have e6 := (cell_at (sep_get hs3 1 rfl : w3.heap[w.heap.size]? = some (Obj.cells #[.int .i64 kind, .int .i64 id, .string key, .string val, .int .i64 stage, .slice a n cap, .int .i64 torn] 39)) 6).1
  have f6 := (cell_at (sep_get hs3 0 rfl : w3.heap[w.heap.size + 1]? = some (Obj.cells #[.int .i64 kind, .int .i64 id, .string key, .string val, .int .i64 stage, .slice a2 n cap2, .int .i64 torn] 39)) 6).1
  have HB3 : Hid (Below w.heap.size w w3) := hide (HB2.out.trans (hb.mono HB2.out.size))
  clear hs3 hb HS2 HB2
  go_wp2_with fail
  go_ret
  exact ⟨rfl, HB3.out⟩

theorem ev_arr {w : World} {v : Value} {e : Evt} (h : EvAt w v e) : ∃ es : Array Value, v = .agg es ∧ es.size = 7 ∧ es.toList.all (·.oneCell') = true := by
  obtain ⟨a, cap, rfl, -⟩ := h
  exact ⟨_, rfl, rfl, rfl⟩

set_option maxHeartbeats 4000000 in
set_option maxRecDepth 100000 in
theorem lawEventOk (v : Value) (e : Evt) (h1 : e.key.size ≤ maxLen) (h2 : e.val.size ≤ maxLen) (h3 : e.left.length ≤ maxLen)
    (hI : ∀ u wx, EvAt wx u e → Calls Try.prog 17 #[u] wx fun x w' => x = .returned (.bool e.ok) ∧ Below wx.heap.size wx w')
    (w : World) (hd : EvAt w v e) :
    Calls Try.prog 4 #[v] w fun x w' => x = .returned (.bool true) ∧ Below w.heap.size w w' := by
  obtain ⟨bs, rfl, hbs, -⟩ := ev_arr hd
  obtain ⟨a0, ha0⟩ : ∃ a, a = w.heap.size := ⟨_, rfl⟩
  have HSz := hide (fun wx (h : Below a0 w wx) => szEvent_any (.agg bs) e h1 h2 h3 1048576 (Nat.le_refl _) wx (ev_below hd (by rw [← ha0]; exact h)))
  have hS0 := sep_new (sep_nil w.heap.size w) (Obj.cells bs 36) (Nat.le_refl _)
  obtain ⟨w0, hw0⟩ : ∃ w0, w0 = w.alloc (Obj.cells bs 36) := ⟨_, rfl⟩
  rw [← hw0, ← ha0] at hS0
  have HS0 := hide hS0
  have HB0 : Hid (Below a0 w w0) := hide (by rw [hw0, ha0]; exact (Below.refl w.heap.size w).alloc (Nat.le_refl _) _)
  have HZ : Hid (∀ wx, Below a0 w wx → a0 ≤ wx.heap.size) := hide (fun wx h => by rw [ha0] at h ⊢; exact h.size)
  have HTr : Hid (∀ wx wy, Below a0 w wx → Below wx.heap.size wx wy → Below a0 w wy) := hide (fun wx wy h h' => h.trans (h'.mono (HZ.out wx h)))
  have Hbz : Hid ((Try.prog.info? 36).map (·.size) = some bs.size) := hide (by rw [hbs]; exact Try.sizeEvL)
  have HRb : Hid (w0.rangeAt a0 0 bs.toList) := hide (range_all (sep_get hS0 0 rfl : w0.heap[a0]? = some (Obj.cells bs 36)))
  have HE := hide (⟨hw0, ha0⟩ : _ ∧ _)
  rw [← ha0]
  by_cases hbk : e.bulk ≤ 1048576
  rotate_left
  · rw [szOut_no (by omega)] at HSz
    clear hw0 ha0 hS0 hbs hd
    go_enter Try.func4, Try.ntmps4
    go_upto_region 1 with fail
    obtain ⟨hw0, ha0⟩ := HE.out
    rw [← hw0, ← ha0]
    clear hw0 ha0
    go_wp2_with ((with_reducible refine wpList_loadL ?_ 36 (.tmp 1) ?_ a0 0 ?_ bs HRb.out _ Try.underlying36 ?_ ?_ ?_); exact rfl; exact rfl; exact rfl; exact rfl; exact Hbz.out)
    refine (HSz.out _ HB0.out).mono ?_
    rintro x w1 ⟨rfl, hb1⟩
    go_wp2_with fail
    go_ret
    exact ⟨rfl, HTr.out _ _ HB0.out hb1⟩
  have hll : e.left.length ≤ 1048576 := by unfold Evt.bulk at hbk; omega
  obtain ⟨r, hrr⟩ : ∃ r : Nat, szOut 1048576 e.bulk = (r : Int) := ⟨_, szOut_yes hbk⟩
  rw [hrr] at HSz
  have HTo := hide (fun wx (h : Below a0 w wx) => toEvent_any (.agg bs) e hll wx (ev_below hd (by rw [← ha0]; exact h)))
  have HSp := hide (fun u wx h => specEventOk_any u e h1 h2 h3 wx h)
  have HIm := hide hI
  have HEq := hide (fun u u' wx h h' => eqEvent_same u u' e hll wx h h')
  obtain ⟨ok, hok⟩ : ∃ b, e.ok = b := ⟨_, rfl⟩
  rw [hok] at HSp HIm
  have dg : (ok != ok) = false := by cases ok <;> rfl
  clear hw0 ha0 hS0 hbs hd hI hok hrr hll hbk h1 h2 h3
  go_enter Try.func4, Try.ntmps4
  go_upto_region 1 with fail
  obtain ⟨hw0, ha0⟩ := HE.out
  rw [← hw0, ← ha0]
  clear hw0 ha0 HE
  go_wp2_with ((with_reducible refine wpList_loadL ?_ 36 (.tmp 1) ?_ a0 0 ?_ bs HRb.out _ Try.underlying36 ?_ ?_ ?_); exact rfl; exact rfl; exact rfl; exact rfl; exact Hbz.out)
  refine (HSz.out _ HB0.out).mono ?_
  rintro x w1 ⟨rfl, hb⟩
  have HS1 := hide (sep_below HS0.out hb)
  have HB1 := hide (HTr.out _ _ HB0.out hb)
  clear HRb hb HS0 HB0
  have HRb : Hid (w1.rangeAt a0 0 bs.toList) := hide (range_all (sep_get HS1.out 0 rfl : w1.heap[a0]? = some (Obj.cells bs 36)))
  go_wp2_with ((with_reducible refine wpList_loadL ?_ 36 (.tmp 1) ?_ a0 0 ?_ bs HRb.out _ Try.underlying36 ?_ ?_ ?_); exact rfl; exact rfl; exact rfl; exact rfl; exact Hbz.out)
  refine (HTo.out _ HB1.out).mono ?_
  rintro x w2 ⟨ta, rfl, hta, hb⟩
  have HTa := hide hta
  have HS2 := hide (sep_below HS1.out hb)
  have HB2 := hide (HTr.out _ _ HB1.out hb)
  clear HRb hb HS1 HB1 hta
  go_wp2_with fail
  refine (HSp.out _ _ HTa.out).mono ?_
  rintro x w3 ⟨rfl, hb⟩
  have HS3 := hide (sep_below HS2.out hb)
  have HB3 := hide (HTr.out _ _ HB2.out hb)
  clear hb HS2 HB2 HTa
  have HRb : Hid (w3.rangeAt a0 0 bs.toList) := hide (range_all (sep_get HS3.out 0 rfl : w3.heap[a0]? = some (Obj.cells bs 36)))
  go_wp2_with ((with_reducible refine wpList_loadL ?_ 36 (.tmp 1) ?_ a0 0 ?_ bs HRb.out _ Try.underlying36 ?_ ?_ ?_); exact rfl; exact rfl; exact rfl; exact rfl; exact Hbz.out)
  refine (HTo.out _ HB3.out).mono ?_
  rintro x w4 ⟨xv, rfl, hxv, hb⟩
  obtain ⟨xs, rfl, hxs, hxo⟩ := ev_arr hxv
  have HS4 := hide (sep_below HS3.out hb)
  have HB4 := hide (HTr.out _ _ HB3.out hb)
  have HXv := hide hxv
  clear HRb hb HS3 HB3 hxv
  have hz := HZ.out _ HB4.out
  have hs := sep_cellsAll (sep_new HS4.out (Obj.cells #[.int .i64 0, .int .i64 0, .string ⟨#[]⟩, .string ⟨#[]⟩, .int .i64 0, .slice none 0 0, .int .i64 0] 39) hz) 0 rfl xs (by rw [hxs]; rfl)
  have hth : Hid ((w4.alloc (Obj.cells #[.int .i64 0, .int .i64 0, .string ⟨#[]⟩, .string ⟨#[]⟩, .int .i64 0, .slice none 0 0, .int .i64 0] 39)).there w4.heap.size 0 xs.size) := hide (by rw [hxs]; exact there_of (heap_alloc_new w4 (Obj.cells #[.int .i64 0, .int .i64 0, .string ⟨#[]⟩, .string ⟨#[]⟩, .int .i64 0, .slice none 0 0, .int .i64 0] 39)) 0 7 (show 0 + 7 ≤ 7 by decide))
  obtain ⟨w5, hw⟩ : ∃ wx, wx = (w4.alloc (Obj.cells #[.int .i64 0, .int .i64 0, .string ⟨#[]⟩, .string ⟨#[]⟩, .int .i64 0, .slice none 0 0, .int .i64 0] 39)).setCells w4.heap.size 0 xs.toList := ⟨_, rfl⟩
  have hb45 : Below w4.heap.size w4 w5 := by rw [hw]; exact below_cells (Nat.le_refl _) _ 0 _ ((Below.refl _ _).alloc (Nat.le_refl _) _)
  have HB5 := hide (HTr.out _ _ HB4.out hb45)
  have HX5 := hide (ev_below HXv.out hb45)
  obtain ⟨g5, hg⟩ : ∃ g, g = w4.heap.size := ⟨_, rfl⟩
  rw [← hw, ← hg] at hs
  have HS5 := hide hs
  have HW := hide hw.symm
  have Hxz : Hid ((Try.prog.info? 39).map (·.size) = some xs.size) := hide (by rw [hxs]; exact Try.sizeEvI)
  have Hxo := hide hxo
  clear hz hs hw hb45 HXv HS4 HB4 hxs hxo
  go_upto_region 7 with ((with_reducible refine wpList_storeL ?_ 39 (.tmp 5) (.tmp 16) ?_ w4.heap.size 0 xs ?_ ?_ hth.out ?_ ?_ HW.out ?_); exact rfl; exact rfl; exact rfl; exact rfl; exact Hxz.out; exact Hxo.out)
  rw [← hg]
  clear hg hth HW
  have HRx : Hid (w5.rangeAt g5 0 xs.toList) := hide (range_all (sep_get HS5.out 0 rfl : w5.heap[g5]? = some (Obj.cells xs 39)))
  go_wp2_with ((with_reducible refine wpList_loadL ?_ 39 (.tmp 5) ?_ g5 0 ?_ xs HRx.out _ Try.underlying39 ?_ ?_ ?_); exact rfl; exact rfl; exact rfl; exact rfl; exact Hxz.out)
  refine (HIm.out _ _ HX5.out).mono ?_
  rintro x w6 ⟨rfl, hb⟩
  have HS6 := hide (sep_below HS5.out hb)
  have HB6 := hide (HTr.out _ _ HB5.out hb)
  have HX6 := hide (ev_below HX5.out hb)
  clear hb HS5 HB5 HX5 HRx
  go_upto_region 10 with fail
  obtain ⟨wd, hwd⟩ : ∃ wd, wd = w6.drew := ⟨_, rfl⟩
  have HSd := hide (sep_drew HS6.out)
  have HBd := hide HB6.out.drew
  have HXd := hide (ev_below HX6.out (Below.refl w6.heap.size w6).drew)
  rw [← hwd] at HSd HBd HXd
  have hSd : (fun wx => wx.heap[g5]? = some (Obj.cells xs 39) ∧ wx.heap[a0]? = some (Obj.cells bs 36)) wd := ⟨sep_get HSd.out 0 rfl, sep_get HSd.out 1 rfl⟩
  refine wp_region_held_drew (S := fun wx => wx.heap[g5]? = some (Obj.cells xs 39) ∧ wx.heap[a0]? = some (Obj.cells bs 36)) (by kernel_rfl) (by rw [← hwd]; exact hSd) (fun _ => ?_)
  rw [← hwd]
  clear hwd
  refine takeW 0 22 (.agg xs) rfl rfl (by kernel_rfl) (by kernel_rfl) (by kernel_rfl) (fun _ _ _ h => h) (yields_loadL (by rfl) 39 (.tmp 5) rfl g5 0 rfl xs _ (fun _ h => range_all h.1) Try.underlying39 rfl Hxz.out) hSd ?_
  simp only [List.setIfInBounds_toArray, List.set_cons_zero, List.set_cons_succ]
  refine takeW 1 23 (.agg bs) rfl rfl (by kernel_rfl) (by kernel_rfl) (by kernel_rfl) (fun _ _ _ h => h) (yields_loadL (by rfl) 36 (.tmp 1) rfl a0 0 rfl bs _ (fun _ h => range_all h.2) Try.underlying36 rfl Hbz.out) hSd ?_
  simp only [List.setIfInBounds_toArray, List.set_cons_zero, List.set_cons_succ]
  refine wpAnyH_ready (rs := [2]) (by kernel_rfl) (by simp) ?_
  refine AllReadyH.cons rfl (fun K hK => ?_) AllReadyH.nil
  refine step_call1 wd ?_ 16 Try.f16 Try.func16 ?_ ?_ (.tmp 23) #[36] ?_ (.agg bs) ?_ _ (HTo.out wd HBd.out) ?_
  · exact rfl
  · decide
  · exact Option.some_ne_none _
  · exact rfl
  · exact rfl
  rintro x w7 ⟨tc, rfl, htc, hb⟩
  refine ⟨_, rfl, ?_⟩
  obtain ⟨ts, rfl, -, -⟩ := ev_arr htc
  have HS7 := hide (sep_below HSd.out hb)
  have HB7 := hide (HTr.out _ _ HBd.out hb)
  have HX7 := hide (ev_below HXd.out hb)
  have HT7 := hide htc
  have hS7 : (fun wx => wx.heap[g5]? = some (Obj.cells xs 39) ∧ wx.heap[a0]? = some (Obj.cells bs 36)) w7 := ⟨sep_get HS7.out 0 rfl, sep_get HS7.out 1 rfl⟩
  refine hK.out (Act.put _ (some 24) _) _ hS7 (fun _ => ?_)
  clear hK K hb htc
  simp only [Act.put, List.setIfInBounds_toArray, List.set_cons_zero, List.set_cons_succ]
  refine wpAnyH_ready (rs := [3]) (by kernel_rfl) (by simp) ?_
  refine AllReadyH.cons rfl (fun K hK => ?_) AllReadyH.nil
  refine step_call2 w7 ?_ 18 Try.f18 Try.func18 ?_ ?_ (.tmp 22) (.tmp 24) #[39, 39] ?_ (.agg xs) (.agg ts) ?_ ?_ _ (HEq.out _ _ w7 HX7.out HT7.out) ?_
  · exact rfl
  · decide
  · exact Option.some_ne_none _
  · exact rfl
  · exact rfl
  · exact rfl
  rintro x w8 ⟨rfl, hb⟩
  refine ⟨_, rfl, ?_⟩
  have HS8 := hide (sep_below HS7.out hb)
  have HB8 := hide (HTr.out _ _ HB7.out hb)
  have hS8 : (fun wx => wx.heap[g5]? = some (Obj.cells xs 39) ∧ wx.heap[a0]? = some (Obj.cells bs 36)) w8 := ⟨sep_get HS8.out 0 rfl, sep_get HS8.out 1 rfl⟩
  refine hK.out (Act.put _ (some 25) _) _ hS8 (fun _ => ?_)
  clear hK K hb
  simp only [Act.put, List.setIfInBounds_toArray, List.set_cons_zero, List.set_cons_succ]
  refine takeW 4 26 ?_ rfl rfl (by kernel_rfl) (by kernel_rfl) (by kernel_rfl) (fun _ _ _ h => h) (Or.inl ⟨by rfl, ?_⟩) hS8 ?_
  rotate_left
  · (intro wx hSw; (try dsimp only at hSw); go_simp; try with_reducible rfl)
  (try simp only [List.setIfInBounds_toArray, List.set_cons_zero, List.set_cons_succ])
  refine wpAnyH_done (by kernel_rfl) ?_ _
  go_wp2_with fail
  go_ret
  exact ⟨rfl, HB8.out⟩

end Go.Proofs.Ythcakofocbileaa
