/-
  Facts and contracts that the law's own text rests on, by their texts' names: LawWrittenX, MetaOpen, DiskOpenN, WorkOpen, StoreOpen, PairOpen, WorldOpen.
-/
import Derived.Deep.Cut
import Derived.Test.YtdbpbhemnnffeaaGreatDoorXw31
import Derived.Test.YtdbpbhemnnffeaaGreatDoorXw9
import Derived.Test.YtdbpbhemnnffeaaGreatDoorXw14
import Derived.ChangeOld
import Derived.Deep.SlicePairs
import Derived.Deep.Strs
import Derived.Lib.SmallJoins
import Derived.Test.YtdbpbhemnnffeaaGreatDoorXw7
import Derived.Test.YtdbpbhemnnffeaaGreatDoorXw8
import Derived.Test.YtdbpbhemnnffeaaGreatDoorXw13
import Derived.Test.YtdbpbhemnnffeaaGreatDoorXw5
namespace Go.Proofs.YtdbpbhemnnffeaaGreatDoor
open Go.RowKit
set_option maxHeartbeats 16000000 in
set_option maxRecDepth 100000 in
theorem lawWritten (v : Value) (s : Wrl) (hf : s.fits) (w : World) (hTb : SumTab w) (hd : WrAt w v s) :
    Calls Tryz.prog 5 #[v] w fun e w' => e = .returned (.bool true) ∧ Below w.heap.size w w' := by
  have HTb := hide hTb
  clear hTb
  have HSz := hide (fun wx h => szWorld_any v s hf 1048576 (Nat.le_refl _) wx h)
  have HSt := hide hd
  obtain ⟨cs, rfl, hn, -⟩ := wr_pt hd
  have HN : Hid ((Tryz.prog.info? 40).map (·.size) = some cs.size) := hide (by rw [hn]; exact Tryz.sizeWorldL)
  clear hf hd hn
  obtain ⟨a0, ha0⟩ : ∃ a, a = w.heap.size := ⟨_, rfl⟩
  have hS0 := sep_new (sep_nil w.heap.size w) (Obj.cells cs 40) (Nat.le_refl _)
  obtain ⟨w0, hw0⟩ : ∃ w0, w0 = w.alloc (Obj.cells cs 40) := ⟨_, rfl⟩
  rw [← hw0, ← ha0] at hS0
  have HS_w0 := hide hS0
  have HB_w0 : Hid (Below w.heap.size w w0) := hide (by rw [hw0]; exact (Below.refl w.heap.size w).alloc (Nat.le_refl _) _)
  have HZ_w0 : Hid (a0 ≤ w0.heap.size) := hide (by rw [hw0, ha0]; simp)
  have HA := hide ha0
  have HR0 : Hid (w0.rangeAt a0 0 cs.toList) := hide (range_all (sep_get HS_w0.out 0 rfl : w0.heap[a0]? = some (Obj.cells cs 40)))
  clear hS0 ha0
  by_cases hbk : s.bulk ≤ 1048576
  rotate_left
  · rw [szOut_no (by omega)] at HSz
    go_enter Tryz.func5, Tryz.ntmps5
    go_upto_region 2 with fail
    rw [← hw0, ← HA.out]
    clear hw0
    go_wp2_with ((with_reducible refine wpList_loadL ?_ 40 (.tmp 1) ?_ a0 0 ?_ cs HR0.out _ Tryz.underlying40 ?_ ?_ ?_); exact rfl; exact rfl; exact rfl; exact rfl; exact HN.out)
    refine (HSz.out _ (wr_below HSt.out HB_w0.out)).mono ?_
    rintro e w1 ⟨rfl, hb1⟩
    go_wp2_with fail
    go_ret
    exact ⟨rfl, HB_w0.out.trans (hb1.mono HB_w0.out.size)⟩
  obtain ⟨r, hr⟩ : ∃ r : Nat, szOut 1048576 s.bulk = (r : Int) := ⟨_, szOut_yes hbk⟩
  rw [hr] at HSz
  have hsm := bulkWr_in hbk
  have HSp := hide (fun X wx hb h => specWritten_any X s hsm wx hb h)
  have HIm := hide (fun X wx t h => implWritten_any X s hsm wx t h)
  have HTo := hide (fun u wx h => toWorld_any u s hsm wx h)
  have HEx := hide (fun u u' wx h h' => eqWorld_same u u' s hsm wx h h')
  obtain ⟨o, ho⟩ : ∃ o, o = if s.s.wr = true ∧ s.s.fl = false then toldB (allI (fun q => rdN (readD s.s.tk.ps s.s.tk.ls q)) s.s.tr) s.nx else true := ⟨_, rfl⟩
  rw [← ho] at HSp HIm
  clear hbk hr hsm ho
  go_enter Tryz.func5, Tryz.ntmps5
  go_upto_region 2 with fail
  rw [← hw0, ← HA.out]
  clear hw0 HR0
  have HRg : Hid (w0.rangeAt a0 0 cs.toList) := hide (range_all (sep_get HS_w0.out 0 rfl : w0.heap[a0]? = some (Obj.cells cs 40)))
  go_wp2_with ((with_reducible refine wpList_loadL ?_ 40 (.tmp 1) ?_ a0 0 ?_ cs HRg.out _ Tryz.underlying40 ?_ ?_ ?_); exact rfl; exact rfl; exact rfl; exact rfl; exact HN.out)
  clear HRg
  refine (HSz.out _ (wr_below HSt.out HB_w0.out)).mono ?_
  rintro e w1 ⟨rfl, hb⟩
  have HS_w1 := hide (sep_below HS_w0.out hb)
  have HB_w1 : Hid (Below w.heap.size w w1) := hide (HB_w0.out.trans (hb.mono HB_w0.out.size))
  have HZ_w1 : Hid (a0 ≤ w1.heap.size) := hide (Nat.le_trans HZ_w0.out hb.size)
  clear hb
  have HRg : Hid (w1.rangeAt a0 0 cs.toList) := hide (range_all (sep_get HS_w1.out 0 rfl : w1.heap[a0]? = some (Obj.cells cs 40)))
  go_wp2_with ((with_reducible refine wpList_loadL ?_ 40 (.tmp 1) ?_ a0 0 ?_ cs HRg.out _ Tryz.underlying40 ?_ ?_ ?_); exact rfl; exact rfl; exact rfl; exact rfl; exact HN.out)
  clear HRg
  refine (HTo.out _ _ (wr_below HSt.out HB_w1.out)).mono ?_
  rintro e w2 ⟨va, rfl, hoa, hb⟩
  obtain ⟨xa, rfl, -, -, hpa, hba⟩ := wr_own hoa
  have HS_w2 := hide (sep_below HS_w1.out hb)
  have HB_w2 : Hid (Below w.heap.size w w2) := hide (HB_w1.out.trans (hb.mono HB_w1.out.size))
  have HZ_w2 : Hid (a0 ≤ w2.heap.size) := hide (Nat.le_trans HZ_w1.out hb.size)
  have HPa := hide hpa
  have HKa := hide hba
  clear hb hoa hpa hba
  go_wp2_with fail
  refine (HSp.out _ _ HKa.out HPa.out).mono ?_
  rintro e w3 ⟨rfl, hb⟩
  have HS_w3 := hide (sep_below HS_w2.out hb)
  have HB_w3 : Hid (Below w.heap.size w w3) := hide (HB_w2.out.trans (hb.mono HB_w2.out.size))
  have HZ_w3 : Hid (a0 ≤ w3.heap.size) := hide (Nat.le_trans HZ_w2.out hb.size)
  clear hb HPa HKa
  have HRg : Hid (w3.rangeAt a0 0 cs.toList) := hide (range_all (sep_get HS_w3.out 0 rfl : w3.heap[a0]? = some (Obj.cells cs 40)))
  go_wp2_with ((with_reducible refine wpList_loadL ?_ 40 (.tmp 1) ?_ a0 0 ?_ cs HRg.out _ Tryz.underlying40 ?_ ?_ ?_); exact rfl; exact rfl; exact rfl; exact rfl; exact HN.out)
  clear HRg
  refine (HTo.out _ _ (wr_below HSt.out HB_w3.out)).mono ?_
  rintro e w4 ⟨vx, rfl, hox, hb⟩
  have hax := wr_of_own hox
  obtain ⟨csx, rfl, hzx, ho1x, hpx, -⟩ := wr_own hox
  have HS_w4 := hide (sep_below HS_w3.out hb)
  have HB_w4 : Hid (Below w.heap.size w w4) := hide (HB_w3.out.trans (hb.mono HB_w3.out.size))
  have HZ_w4 : Hid (a0 ≤ w4.heap.size) := hide (Nat.le_trans HZ_w3.out hb.size)
  have HAx := hide hax
  have HPx := hide hpx
  have HO1x := hide ho1x
  have HNx : Hid ((Tryz.prog.info? 59).map (·.size) = some csx.size) := hide (by rw [hzx]; exact Tryz.sizeWorldI2)
  have HYx := hide hzx
  clear hb hox ho1x hzx hax hpx
  obtain ⟨g5, hg5⟩ : ∃ g, g = w4.heap.size := ⟨_, rfl⟩
  obtain ⟨w5, hw5⟩ : ∃ wx, wx = (w4.alloc (Obj.cells #[.slice none 0 0, .slice none 0 0, .int .i64 0, .int .i64 0, .int .i64 0, .slice none 0 0, .slice none 0 0, .int .i64 0, .int .i64 0, .int .i64 0, .slice none 0 0, .slice none 0 0, .slice none 0 0, .int .i64 0, .slice none 0 0, .slice none 0 0, .slice none 0 0, .int .i64 0, .bool false, .bool false, .slice none 0 0, .slice none 0 0, .slice none 0 0, .slice none 0 0, .slice none 0 0] 59)).setCells w4.heap.size 0 csx.toList := ⟨_, rfl⟩
  have hsv := sep_cellsAll (sep_new HS_w4.out (Obj.cells #[.slice none 0 0, .slice none 0 0, .int .i64 0, .int .i64 0, .int .i64 0, .slice none 0 0, .slice none 0 0, .int .i64 0, .int .i64 0, .int .i64 0, .slice none 0 0, .slice none 0 0, .slice none 0 0, .int .i64 0, .slice none 0 0, .slice none 0 0, .slice none 0 0, .int .i64 0, .bool false, .bool false, .slice none 0 0, .slice none 0 0, .slice none 0 0, .slice none 0 0, .slice none 0 0] 59) HZ_w4.out) 0 rfl csx (by rw [HYx.out]; rfl)
  have hth : Hid ((w4.alloc (Obj.cells #[.slice none 0 0, .slice none 0 0, .int .i64 0, .int .i64 0, .int .i64 0, .slice none 0 0, .slice none 0 0, .int .i64 0, .int .i64 0, .int .i64 0, .slice none 0 0, .slice none 0 0, .slice none 0 0, .int .i64 0, .slice none 0 0, .slice none 0 0, .slice none 0 0, .int .i64 0, .bool false, .bool false, .slice none 0 0, .slice none 0 0, .slice none 0 0, .slice none 0 0, .slice none 0 0] 59)).there w4.heap.size 0 csx.size) := hide (there_of (heap_alloc_new w4 (Obj.cells #[.slice none 0 0, .slice none 0 0, .int .i64 0, .int .i64 0, .int .i64 0, .slice none 0 0, .slice none 0 0, .int .i64 0, .int .i64 0, .int .i64 0, .slice none 0 0, .slice none 0 0, .slice none 0 0, .int .i64 0, .slice none 0 0, .slice none 0 0, .slice none 0 0, .int .i64 0, .bool false, .bool false, .slice none 0 0, .slice none 0 0, .slice none 0 0, .slice none 0 0, .slice none 0 0] 59)) 0 csx.size (by rw [HYx.out]; exact Nat.le_refl 25))
  have HBv : Hid (Below w4.heap.size w4 w5) := hide (by rw [hw5]; exact below_cells (Nat.le_refl _) _ 0 _ ((Below.refl w4.heap.size w4).alloc (Nat.le_refl _) _))
  have HB_w5 : Hid (Below w.heap.size w w5) := hide (HB_w4.out.trans (HBv.out.mono HB_w4.out.size))
  have HZ_w5 : Hid (a0 ≤ w5.heap.size) := hide (Nat.le_trans HZ_w4.out HBv.out.size)
  rw [← hw5, ← hg5] at hsv
  have HS_w5 := hide hsv
  have HW := hide hw5.symm
  clear hsv hw5
  go_upto_region 7 with ((with_reducible refine wpList_storeL ?_ 59 (.tmp 5) (.tmp 16) ?_ w4.heap.size 0 csx ?_ ?_ hth.out ?_ ?_ HW.out ?_); exact rfl; exact rfl; exact rfl; exact rfl; exact HNx.out; exact HO1x.out)
  rw [← hg5]
  clear hg5 hth HW
  have HRg : Hid (w5.rangeAt g5 0 csx.toList) := hide (range_all (sep_get HS_w5.out 0 rfl : w5.heap[g5]? = some (Obj.cells csx 59)))
  go_wp2_with ((with_reducible refine wpList_loadL ?_ 59 (.tmp 5) ?_ g5 0 ?_ csx HRg.out _ Tryz.underlying59 ?_ ?_ ?_); exact rfl; exact rfl; exact rfl; exact rfl; exact HNx.out)
  clear HRg
  have HA5 := hide (wr_below HAx.out HBv.out)
  have HP5 := hide (wrPt_below HPx.out HBv.out)
  clear HAx HPx HBv
  refine (HIm.out _ _ (sumTab_below HTb.out HB_w5.out) HP5.out).mono ?_
  rintro e w6 ⟨rfl, hb⟩
  have dz : (o != o) = false := by simp
  have HS_w6 := hide (sep_below HS_w5.out hb)
  have HB_w6 : Hid (Below w.heap.size w w6) := hide (HB_w5.out.trans (hb.mono HB_w5.out.size))
  have HZ_w6 : Hid (a0 ≤ w6.heap.size) := hide (Nat.le_trans HZ_w5.out hb.size)
  have HA6 := hide (wr_below HA5.out hb)
  clear hb HA5 HP5
  go_wp2_with fail
  have HSw : Hid (∀ wx : World, wx.heap[a0]? = some (Obj.cells cs 40) → wx.heap[g5]? = some (Obj.cells csx 59) → (fun wx => wx.rangeAt a0 0 cs.toList ∧ wx.rangeAt g5 0 csx.toList) wx) := hide (fun wx h1 h2 => ⟨range_all h1, range_all h2⟩)
  obtain ⟨wd, hwd⟩ : ∃ wd, wd = w6.drew := ⟨_, rfl⟩
  have HS_wd := hide (sep_drew HS_w6.out)
  have HB_wd := hide (HB_w6.out).drew
  have HZ_wd : Hid (a0 ≤ w6.drew.heap.size) := HZ_w6
  have HA_wd : Hid (WrAt w6.drew (.agg csx) s) := hide (wr_below HA6.out (Below.refl w6.heap.size w6).drew)
  rw [← hwd] at HS_wd HB_wd HZ_wd HA_wd
  have hHeld := HSw.out wd (sep_get HS_wd.out 1 rfl) (sep_get HS_wd.out 0 rfl)
  refine wp_region_held_drew (S := fun wx => wx.rangeAt a0 0 cs.toList ∧ wx.rangeAt g5 0 csx.toList) (by kernel_rfl) (by rw [← hwd]; exact hHeld) (fun _ => ?_)
  rw [← hwd]
  clear hwd
  refine takeW 0 22 (.agg csx) rfl rfl (by kernel_rfl) (by kernel_rfl) (by kernel_rfl) (fun _ _ _ h => h) (yields_loadL (by rfl) 59 (.tmp 5) rfl g5 0 rfl csx _ (fun _ h => h.2) Tryz.underlying59 rfl HNx.out) hHeld ?_
  simp only [List.setIfInBounds_toArray, List.set_cons_zero, List.set_cons_succ]
  refine takeW 1 23 (.agg cs) rfl rfl (by kernel_rfl) (by kernel_rfl) (by kernel_rfl) (fun _ _ _ h => h) (yields_loadL (by rfl) 40 (.tmp 1) rfl a0 0 rfl cs _ (fun _ h => h.1) Tryz.underlying40 rfl HN.out) hHeld ?_
  simp only [List.setIfInBounds_toArray, List.set_cons_zero, List.set_cons_succ]
  refine wpAnyH_ready (rs := [2]) (by kernel_rfl) (by simp) ?_
  refine AllReadyH.cons rfl (fun K hK => ?_) AllReadyH.nil
  refine step_call1 wd ?_ 8 Tryz.f8 Tryz.func8 ?_ ?_ (.tmp 23) #[40] ?_ (.agg cs) ?_ _ (HTo.out _ wd (wr_below HSt.out HB_wd.out)) ?_
  · exact rfl
  · decide
  · exact Option.some_ne_none _
  · exact rfl
  · exact rfl
  rintro e w7 ⟨vq, rfl, hoq, hb⟩
  refine ⟨_, rfl, ?_⟩
  have HS_w7 := hide (sep_below HS_wd.out hb)
  have HB_w7 : Hid (Below w.heap.size w w7) := hide (HB_wd.out.trans (hb.mono HB_wd.out.size))
  have HZ_w7 : Hid (a0 ≤ w7.heap.size) := hide (Nat.le_trans HZ_wd.out hb.size)
  have HOq := hide (wr_of_own hoq)
  have HA7 := hide (wr_below HA_wd.out hb)
  clear hb hoq
  have hS2 := HSw.out _ (sep_get HS_w7.out 1 rfl) (sep_get HS_w7.out 0 rfl)
  refine hK.out (Act.put _ (some 24) _) _ hS2 (fun _ => ?_)
  clear hK K
  simp only [Act.put, List.setIfInBounds_toArray, List.set_cons_zero, List.set_cons_succ]
  refine wpAnyH_ready (rs := [3]) (by kernel_rfl) (by simp) ?_
  refine AllReadyH.cons rfl (fun K hK => ?_) AllReadyH.nil
  refine step_call2 w7 ?_ 10 Tryz.f10 Tryz.func10 ?_ ?_ (.tmp 22) (.tmp 24) #[59, 59] ?_ (.agg csx) vq ?_ ?_ _ (HEx.out _ _ w7 HA7.out HOq.out) ?_
  · exact rfl
  · decide
  · exact Option.some_ne_none _
  · exact rfl
  · exact rfl
  · exact rfl
  rintro e w8 ⟨rfl, hb⟩
  refine ⟨_, rfl, ?_⟩
  have HS_w8 := hide (sep_below HS_w7.out hb)
  have HB_w8 : Hid (Below w.heap.size w w8) := hide (HB_w7.out.trans (hb.mono HB_w7.out.size))
  have HZ_w8 : Hid (a0 ≤ w8.heap.size) := hide (Nat.le_trans HZ_w7.out hb.size)
  clear hb HOq
  have hS3 := HSw.out _ (sep_get HS_w8.out 1 rfl) (sep_get HS_w8.out 0 rfl)
  refine hK.out (Act.put _ (some 25) _) _ hS3 (fun _ => ?_)
  clear hK K
  simp only [Act.put, List.setIfInBounds_toArray, List.set_cons_zero, List.set_cons_succ]
  refine takeW 4 26 ?_ rfl rfl (by kernel_rfl) (by kernel_rfl) (by kernel_rfl) (fun _ _ _ h => h) (Or.inl ⟨by rfl, ?_⟩) hS3 ?_
  rotate_left
  · (intro wx hSw; (try dsimp only at hSw); go_simp; try with_reducible rfl)
  simp only [List.setIfInBounds_toArray, List.set_cons_zero, List.set_cons_succ]
  refine wpAnyH_done (by kernel_rfl) ?_ _
  clear hS2 hS3 hHeld HSw
  go_wp2_with fail
  go_ret
  exact ⟨rfl, HB_w8.out⟩
open Go.RowKit Go.ChangeShapes Go.WideShapes Go.Deep
theorem row_intsM {H : Type} {enc : TypeId × Value → H} {W : World} {base : Nat} {spare : Nat → Bool} {held : Bool} {fuel : Nat} {v : Value} {x : DataW H × List MemPlace}
    (h : DataW.trod enc Tryz.prog W base spare held fuel 30 [v] = some x) : ∃ cs : List Int, RowAt W 1 v cs.length (ints cs) ∧ cs.length ≤ maxLen := by
  rcases open_ints Tryz.underlying30 Tryz.underlying3 (by kernel_rfl) h with ⟨hcs, -⟩ | ⟨a, len, cap, zs, hcs, -, hl, hm, hz, -, hx, -⟩
  · injection hcs with hcs
    subst hcs
    exact ⟨[], ⟨rfl, none, 0, rfl, Or.inl rfl⟩, by unfold maxLen; simp⟩
  · injection hcs with hcs
    subst hcs
    have hlm : len ≤ zs.length := by rw [hz]; split <;> omega
    have hlen : (zs.take len).length = len := by rw [List.length_take]; omega
    refine ⟨zs.take len, ?_, by omega⟩
    rw [hlen]
    refine ⟨by rw [ints_length, hlen]; simp, some a, cap, rfl, ?_⟩
    by_cases h0 : len = 0
    · exact Or.inl h0
    · obtain ⟨b, off, spot⟩ := a
      have hc := hx 0 (by omega)
      obtain rfl : spot = none := by simpa [Addr.add] using World.cell?_spot hc
      refine Or.inr ⟨b, off, rfl, World.block_lt_of_cell? W _ (by simpa [Addr.add] using hc : W.cell? ⟨b, off, none⟩ = _), fun j hj => ?_⟩
      have hj' : j < len := by omega
      have := hx j (by omega)
      rw [Addr.add_lit] at this
      rw [this, ints_at _ j (by omega)]
      simp [List.getD, show j < zs.length by omega]
theorem row_frees {H : Type} {enc : TypeId × Value → H} {W : World} {base : Nat} {spare : Nat → Bool} {held : Bool} {fuel : Nat} {v : Value} {x : DataW H × List MemPlace}
    (h : DataW.trod enc Tryz.prog W base spare held fuel 26 [v] = some x) : ∃ fs : List (Int × List Int), FreesAt W v fs ∧ fs.length ≤ maxLen ∧ ∀ f ∈ fs, f.2.length ≤ maxLen := by
  rcases open_slice_pairs Tryz.underlying26 Tryz.underlying142 (by kernel_rfl) rfl rfl (by kernel_rfl) (by kernel_rfl) h with ⟨hcs, -⟩ | ⟨a, len, cap, m, n, V0, V1, D0, D1, P0, P1, hcs, -, hl, hm, hmm, -, hx⟩
  · injection hcs with hcs
    subst hcs
    exact ⟨[], ⟨[], rfl, ⟨rfl, none, 0, rfl, Or.inl rfl⟩, fun k p f hp => by simp at hp⟩, by unfold maxLen; simp, fun s hs => by cases hs⟩
  · injection hcs with hcs
    subst hcs
    have hlm : len ≤ m := by rw [hmm]; split <;> omega
    have each : ∀ i, i < m → ∃ q : Int × List Int, V0 i = .int .i64 q.1 ∧ RowAt W 1 (V1 i) q.2.length (ints q.2) ∧ q.2.length ≤ maxLen := fun i hi => by
      obtain ⟨h1, h2, h3, h4⟩ := hx i hi
      obtain ⟨k, e1, e2, -⟩ := DataW.trod_int Tryz.underlying3 h3
      obtain ⟨s, g1, g2⟩ := row_intsM h4
      exact ⟨(k, s), by simpa using e1, g1, g2⟩
    obtain ⟨q, hq⟩ := choose_lt each
    refine ⟨(List.range len).map q, ⟨(List.range len).map (fun i => ((q i).1, V1 i)), by simp, ?_, fun k p f hp hf => ?_⟩, by simp; omega, fun s hs => ?_⟩
    · rw [List.length_map, List.length_range]
      refine ⟨by rw [frs_length]; simp, some a, cap, rfl, ?_⟩
      by_cases h0 : len = 0
      · exact Or.inl h0
      · obtain ⟨b, off, spot⟩ := a
        have hc := (hx 0 (by omega)).1
        obtain rfl : spot = none := by simpa [Addr.add] using World.cell?_spot hc
        refine Or.inr ⟨b, off, rfl, World.block_lt_of_cell? W _ (by simpa [Addr.add] using hc : W.cell? ⟨b, off, none⟩ = _), fun j hj => ?_⟩
        have hi : j / 2 < len := by omega
        obtain ⟨h1, h2, -, -⟩ := hx (j / 2) (by omega)
        rw [Addr.add_lit] at h1 h2
        have hp := frs_at ((List.range len).map (fun i => ((q i).1, V1 i))) (j / 2) ((q (j / 2)).1, V1 (j / 2)) (by simp [hi])
        rcases Nat.mod_two_eq_zero_or_one j with e | e
        · rw [show j = j / 2 * 2 from by omega, hp.1, h1, (hq (j / 2) (by omega)).1]
        · rw [show j = j / 2 * 2 + 1 from by omega, hp.2, h2]
    · have hk : k < len := by have := (List.getElem?_eq_some_iff.1 hp).1; simpa using this
      rw [List.getElem?_map, List.getElem?_range hk] at hp hf
      simp at hp hf
      subst hp hf
      exact ⟨rfl, (hq k (by omega)).2.1⟩
    · obtain ⟨i, hi, rfl⟩ := List.mem_map.1 hs
      exact (hq i (by have := List.mem_range.1 hi; omega)).2.2
open Go.RowKit Go.ChangeShapes Go.WideShapes Go.Deep
theorem row_strs {H : Type} {enc : TypeId × Value → H} {W : World} {base : Nat} {spare : Nat → Bool} {held : Bool} {fuel : Nat} {v : Value} {x : DataW H × List MemPlace}
    (h : DataW.trod enc Tryz.prog W base spare held fuel 22 [v] = some x) : ∃ ps : List ByteArray, RowAt W 1 v ps.length (strs ps) ∧ ps.length ≤ maxLen ∧ ∀ s ∈ ps, s.size ≤ maxLen := by
  rcases open_strs Tryz.underlying22 Tryz.underlying9 (by kernel_rfl) h with ⟨hcs, -⟩ | ⟨a, len, cap, m, Sx, hcs, -, hl, hm, hmm, -, hx⟩
  · injection hcs with hcs
    subst hcs
    exact ⟨[], ⟨rfl, none, 0, rfl, Or.inl rfl⟩, by unfold maxLen; simp, fun s hs => by cases hs⟩
  · injection hcs with hcs
    subst hcs
    have hlm : len ≤ m := by rw [hmm]; split <;> omega
    refine ⟨(List.range len).map Sx, ?_, by simp; omega, fun s hs => ?_⟩
    · rw [List.length_map, List.length_range]
      refine ⟨by rw [strs_length]; simp, some a, cap, rfl, ?_⟩
      by_cases h0 : len = 0
      · exact Or.inl h0
      · obtain ⟨b, off, spot⟩ := a
        have hc := (hx 0 (by omega)).1
        obtain rfl : spot = none := by simpa [Addr.add] using World.cell?_spot hc
        refine Or.inr ⟨b, off, rfl, World.block_lt_of_cell? W _ (by simpa [Addr.add] using hc : W.cell? ⟨b, off, none⟩ = _), fun j hj => ?_⟩
        have hj' : j < len := by omega
        have := (hx j (by omega)).1
        rw [Addr.add_lit] at this
        rw [this, strs_at _ j (by simpa using hj')]
        simp
    · obtain ⟨i, hi, rfl⟩ := List.mem_map.1 hs
      exact (hx i (by have := List.mem_range.1 hi; omega)).2
theorem row_puts {H : Type} {enc : TypeId × Value → H} {W : World} {base : Nat} {spare : Nat → Bool} {held : Bool} {fuel : Nat} {v : Value} {x : DataW H × List MemPlace}
    (h : DataW.trod enc Tryz.prog W base spare held fuel 23 [v] = some x) : ∃ ls : List (Int × ByteArray), RowAt W 2 v ls.length (puts ls) ∧ ls.length ≤ maxLen ∧ ∀ p ∈ ls, p.2.size ≤ maxLen := by
  rcases open_slice_pairs Tryz.underlying23 Tryz.underlying139 (by kernel_rfl) rfl rfl (by kernel_rfl) (by kernel_rfl) h with ⟨hcs, -⟩ | ⟨a, len, cap, m, n, V0, V1, D0, D1, P0, P1, hcs, -, hl, hm, hmm, -, hx⟩
  · injection hcs with hcs
    subst hcs
    exact ⟨[], ⟨rfl, none, 0, rfl, Or.inl rfl⟩, by unfold maxLen; simp, fun s hs => by cases hs⟩
  · injection hcs with hcs
    subst hcs
    have hlm : len ≤ m := by rw [hmm]; split <;> omega
    have each : ∀ i, i < m → ∃ q : Int × ByteArray, V0 i = .int .i64 q.1 ∧ V1 i = .string q.2 ∧ q.2.size ≤ maxLen := fun i hi => by
      obtain ⟨h1, h2, h3, h4⟩ := hx i hi
      obtain ⟨k, e1, e2, -⟩ := DataW.trod_int Tryz.underlying3 h3
      obtain ⟨s, g1, g2, g3⟩ := DataW.trod_string Tryz.underlying9 h4
      exact ⟨(k, s), by simpa using e1, by simpa using g1, g3⟩
    obtain ⟨q, hq⟩ := choose_lt each
    refine ⟨(List.range len).map q, ?_, by simp; omega, fun s hs => ?_⟩
    · rw [List.length_map, List.length_range]
      refine ⟨by rw [puts_length]; simp, some a, cap, rfl, ?_⟩
      by_cases h0 : len = 0
      · exact Or.inl h0
      · obtain ⟨b, off, spot⟩ := a
        have hc := (hx 0 (by omega)).1
        obtain rfl : spot = none := by simpa [Addr.add] using World.cell?_spot hc
        refine Or.inr ⟨b, off, rfl, World.block_lt_of_cell? W _ (by simpa [Addr.add] using hc : W.cell? ⟨b, off, none⟩ = _), fun j hj => ?_⟩
        have hi : j / 2 < len := by omega
        obtain ⟨h1, h2, -, -⟩ := hx (j / 2) (by omega)
        rw [Addr.add_lit] at h1 h2
        have hp := puts_at ((List.range len).map q) (j / 2) (by simpa using hi)
        rcases Nat.mod_two_eq_zero_or_one j with e | e
        · rw [show j = j / 2 * 2 from by omega, hp.1, h1, (hq (j / 2) (by omega)).1]
          simp
        · rw [show j = j / 2 * 2 + 1 from by omega, hp.2, h2, (hq (j / 2) (by omega)).2.1]
          simp
    · obtain ⟨i, hi, rfl⟩ := List.mem_map.1 hs
      exact (hq i (by have := List.mem_range.1 hi; omega)).2.2
open Go.RowKit Go.ChangeShapes Go.WideShapes Go.Deep
theorem row_intsW {H : Type} {enc : TypeId × Value → H} {W : World} {base : Nat} {spare : Nat → Bool} {held : Bool} {fuel : Nat} {v : Value} {x : DataW H × List MemPlace}
    (h : DataW.trod enc Tryz.prog W base spare held fuel 30 [v] = some x) : ∃ cs : List Int, RowAt W 1 v cs.length (ints cs) ∧ cs.length ≤ maxLen ∧ ∃ a cap, v = .slice a cs.length cap ∧ cs.length ≤ cap := by
  rcases open_ints Tryz.underlying30 Tryz.underlying3 (by kernel_rfl) h with ⟨hcs, -⟩ | ⟨a, len, cap, zs, hcs, -, hl, hm, hz, -, hx, -⟩
  · injection hcs with hcs
    subst hcs
    exact ⟨[], ⟨rfl, none, 0, rfl, Or.inl rfl⟩, by unfold maxLen; simp, none, 0, rfl, Nat.le_refl _⟩
  · injection hcs with hcs
    subst hcs
    have hlm : len ≤ zs.length := by rw [hz]; split <;> omega
    have hlen : (zs.take len).length = len := by rw [List.length_take]; omega
    refine ⟨zs.take len, ?_, by omega, some a, cap, by rw [hlen], by omega⟩
    rw [hlen]
    refine ⟨by rw [ints_length, hlen]; simp, some a, cap, rfl, ?_⟩
    by_cases h0 : len = 0
    · exact Or.inl h0
    · obtain ⟨b, off, spot⟩ := a
      have hc := hx 0 (by omega)
      obtain rfl : spot = none := by simpa [Addr.add] using World.cell?_spot hc
      refine Or.inr ⟨b, off, rfl, World.block_lt_of_cell? W _ (by simpa [Addr.add] using hc : W.cell? ⟨b, off, none⟩ = _), fun j hj => ?_⟩
      have hj' : j < len := by omega
      have := hx j (by omega)
      rw [Addr.add_lit] at this
      rw [this, ints_at _ j (by omega)]
      simp [List.getD, show j < zs.length by omega]
open Go.RowKit Go.ChangeShapes Go.WideShapes Go.Deep
theorem Tryz.cellsReader : Tryz.prog.cellsOf 118 = 5 := by kernel_rfl
set_option maxRecDepth 100000 in
theorem row_rds {H : Type} {enc : TypeId × Value → H} {W : World} {base : Nat} {spare : Nat → Bool} {held : Bool} {fuel : Nat} {v : Value} {x : DataW H × List MemPlace}
    (h : DataW.trod enc Tryz.prog W base spare held fuel 29 [v] = some x) : ∃ rs : List (Int × Mt), RdsAt W v rs ∧ fitsR rs ∧ ∀ r ∈ rs, (Lit.int .i64 r.1).wf = true := by
  rcases open_slice Tryz.underlying29 h with ⟨hcs, -⟩ | ⟨a, len, cap, m, n, D, Pl, hcs, -, hl, hm, hmm, -, hx⟩
  · injection hcs with hcs
    subst hcs
    exact ⟨[], ⟨[], rfl, ⟨rfl, none, 0, rfl, Or.inl rfl⟩, fun k r u hr => by simp at hr⟩, ⟨by unfold maxLen; simp, fun r hr => by cases hr⟩, fun r hr => by cases hr⟩
  · injection hcs with hcs
    subst hcs
    have hlm : len ≤ m := by rw [hmm]; split <;> omega
    have each : ∀ i, i < m → ∃ q : (Int × Mt) × Value, (W.cell? (a.add (i * 5)) = some (.int .i64 q.1.1) ∧ W.cell? (a.add (i * 5 + 1)) = some (.int .i64 q.1.2.tx) ∧ W.cell? (a.add (i * 5 + 2)) = some (.int .i64 q.1.2.root) ∧ W.cell? (a.add (i * 5 + 3)) = some (.int .i64 q.1.2.next) ∧ W.cell? (a.add (i * 5 + 4)) = some q.2) ∧ FreesAt W q.2 q.1.2.fs ∧ q.1.2.fs.length ≤ maxLen ∧ (∀ f ∈ q.1.2.fs, f.2.length ≤ maxLen) ∧ (Lit.int .i64 q.1.1).wf = true := fun i hi => by
      obtain ⟨cs', h1, h2⟩ := hx i hi
      rw [Tryz.cellsReader] at h1
      obtain ⟨-, hlen, hcell⟩ := World.cells?_some h1
      obtain ⟨xs, k, -, -, -, hxl, hf⟩ := DataW.trod_struct Tryz.underlying118 h2
      match xs, hxl, cs', hlen with
      | [y0, y1], _, [c0, c1, c2, c3, c4], _ =>
        have g0 := hf 0 _ rfl
        have g1 := hf 1 _ rfl
        replace g0 : DataW.trod enc Tryz.prog W base spare held k 3 [c0] = some y0 := g0
        replace g1 : DataW.trod enc Tryz.prog W base spare held k 28 [c1, c2, c3, c4] = some y1 := g1
        obtain ⟨ys, k2, -, -, -, hyl, hf2⟩ := DataW.trod_struct Tryz.underlying28 g1
        match ys, hyl with
        | [z0, z1, z2, z3], _ =>
          have f0 := hf2 0 _ rfl
          have f1 := hf2 1 _ rfl
          have f2 := hf2 2 _ rfl
          have f3 := hf2 3 _ rfl
          replace f0 : DataW.trod enc Tryz.prog W base spare held k2 3 [c1] = some z0 := f0
          replace f1 : DataW.trod enc Tryz.prog W base spare held k2 3 [c2] = some z1 := f1
          replace f2 : DataW.trod enc Tryz.prog W base spare held k2 3 [c3] = some z2 := f2
          replace f3 : DataW.trod enc Tryz.prog W base spare held k2 26 [c4] = some z3 := f3
          obtain ⟨i0, e0, -, wf0⟩ := DataW.trod_int Tryz.underlying3 g0
          obtain ⟨i1, e1, -⟩ := DataW.trod_int Tryz.underlying3 f0
          obtain ⟨i2, e2, -⟩ := DataW.trod_int Tryz.underlying3 f1
          obtain ⟨i3, e3, -⟩ := DataW.trod_int Tryz.underlying3 f2
          injection e0 with e0
          injection e1 with e1
          injection e2 with e2
          injection e3 with e3
          subst e0 e1 e2 e3
          obtain ⟨fs, r1, r2, r3⟩ := row_frees f3
          have d0 := hcell 0 (by omega)
          have d1 := hcell 1 (by omega)
          have d2 := hcell 2 (by omega)
          have d3 := hcell 3 (by omega)
          have d4 := hcell 4 (by omega)
          rw [add_add] at d0 d1 d2 d3 d4
          exact ⟨((i0, ⟨i1, i2, i3, fs⟩), c4), ⟨by simpa using d0, by simpa using d1, by simpa using d2, by simpa using d3, by simpa using d4⟩, r1, r2, r3, wf0⟩
    haveI : Inhabited ((Int × Mt) × Value) := ⟨((0, ⟨0, 0, 0, []⟩), .int .i64 0)⟩
    obtain ⟨q, hq⟩ := choose_lt each
    refine ⟨(List.range len).map (fun i => (q i).1), ⟨(List.range len).map (fun i => (q i).2), by simp, ?_, fun k r u hr hu => ?_⟩, ⟨by simp; omega, fun r hr => ?_⟩, fun r hr => ?_⟩
    · rw [List.length_map, List.length_range]
      refine ⟨by rw [rds_length _ _ (by simp)]; simp, some a, cap, rfl, ?_⟩
      by_cases h0 : len = 0
      · exact Or.inl h0
      · obtain ⟨b, off, spot⟩ := a
        have hc := (hq 0 (by omega)).1.1
        obtain rfl : spot = none := by simpa [Addr.add] using World.cell?_spot hc
        refine Or.inr ⟨b, off, rfl, World.block_lt_of_cell? W _ (by simpa [Addr.add] using hc : W.cell? ⟨b, off, none⟩ = _), fun j hj => ?_⟩
        obtain ⟨t0, t1, t2, t3, t4⟩ := rds_at ((List.range len).map (fun i => (q i).1)) ((List.range len).map (fun i => (q i).2)) (j / 5) (q (j / 5)).1 (q (j / 5)).2 (by rw [List.getElem?_map, List.getElem?_range (by omega)]; rfl) (by rw [List.getElem?_map, List.getElem?_range (by omega)]; rfl)
        obtain ⟨c0, c1, c2, c3, c4⟩ := (hq (j / 5) (by omega)).1
        rw [Addr.add_lit] at c0 c1 c2 c3 c4
        have h5 : j % 5 = 0 ∨ j % 5 = 1 ∨ j % 5 = 2 ∨ j % 5 = 3 ∨ j % 5 = 4 := by omega
        rcases h5 with e | e | e | e | e
        · rw [show j = j / 5 * 5 from by omega, t0]; exact c0
        · rw [show j = j / 5 * 5 + 1 from by omega, t1]; exact c1
        · rw [show j = j / 5 * 5 + 2 from by omega, t2]; exact c2
        · rw [show j = j / 5 * 5 + 3 from by omega, t3]; exact c3
        · rw [show j = j / 5 * 5 + 4 from by omega, t4]; exact c4
    · rw [List.getElem?_map] at hr hu
      obtain ⟨i, hi, rfl⟩ := Option.map_eq_some_iff.1 hr
      obtain ⟨i', hi', rfl⟩ := Option.map_eq_some_iff.1 hu
      rw [hi] at hi'
      injection hi' with hi'
      subst hi'
      have hik : i < len := by
        have h1 := List.mem_of_getElem? hi
        exact List.mem_range.1 h1
      exact (hq i (by omega)).2.1
    · obtain ⟨i, hi, rfl⟩ := List.mem_map.1 hr
      have hik : i < len := List.mem_range.1 hi
      exact ⟨(hq i (by omega)).2.2.1, (hq i (by omega)).2.2.2.1⟩
    · obtain ⟨i, hi, rfl⟩ := List.mem_map.1 hr
      have hik : i < len := List.mem_range.1 hi
      exact (hq i (by omega)).2.2.2.2
set_option maxRecDepth 100000 in
theorem trod_metaS {H : Type} {enc : TypeId × Value → H} {W : World} {base : Nat} {spare : Nat → Bool} {held : Bool} {k : Nat} {c1 c2 c3 c4 : Value} {y : DataW H × List MemPlace} (h : DataW.trod enc Tryz.prog W base spare held k 28 [c1, c2, c3, c4] = some y) : ∃ m : Mt, c1 = .int .i64 m.tx ∧ c2 = .int .i64 m.root ∧ c3 = .int .i64 m.next ∧ FreesAt W c4 m.fs ∧ m.fs.length ≤ maxLen ∧ ∀ f ∈ m.fs, f.2.length ≤ maxLen := by
  obtain ⟨ys, k2, -, -, -, hyl, hf2⟩ := DataW.trod_struct Tryz.underlying28 h
  match ys, hyl with
  | [z0, z1, z2, z3], _ =>
    have f0 := hf2 0 _ rfl
    have f1 := hf2 1 _ rfl
    have f2 := hf2 2 _ rfl
    have f3 := hf2 3 _ rfl
    replace f0 : DataW.trod enc Tryz.prog W base spare held k2 3 [c1] = some z0 := f0
    replace f1 : DataW.trod enc Tryz.prog W base spare held k2 3 [c2] = some z1 := f1
    replace f2 : DataW.trod enc Tryz.prog W base spare held k2 3 [c3] = some z2 := f2
    replace f3 : DataW.trod enc Tryz.prog W base spare held k2 26 [c4] = some z3 := f3
    obtain ⟨i1, e1, -⟩ := DataW.trod_int Tryz.underlying3 f0
    obtain ⟨i2, e2, -⟩ := DataW.trod_int Tryz.underlying3 f1
    obtain ⟨i3, e3, -⟩ := DataW.trod_int Tryz.underlying3 f2
    injection e1 with e1
    injection e2 with e2
    injection e3 with e3
    obtain ⟨fs, r1, r2, r3⟩ := row_frees f3
    exact ⟨⟨i1, i2, i3, fs⟩, e1, e2, e3, r1, r2, r3⟩
set_option maxRecDepth 100000 in
theorem trod_diskS {H : Type} {enc : TypeId × Value → H} {W : World} {base : Nat} {spare : Nat → Bool} {held : Bool} {k : Nat} {c0 c1 : Value} {y : DataW H × List MemPlace} (h : DataW.trod enc Tryz.prog W base spare held k 25 [c0, c1] = some y) : ∃ ps ls, DiskAt W (.agg #[c0, c1]) ps ls ∧ ps.length ≤ maxLen ∧ (∀ t ∈ ps, t.size ≤ maxLen) ∧ ls.length ≤ maxLen ∧ ∀ p ∈ ls, p.2.size ≤ maxLen := by
  obtain ⟨z0, z1, m, -, -, g0, g1⟩ := trod_struct2 Tryz.underlying25 h
  replace g0 : DataW.trod enc Tryz.prog W base spare held m 22 [c0] = some z0 := g0
  replace g1 : DataW.trod enc Tryz.prog W base spare held m 23 [c1] = some z1 := g1
  obtain ⟨ps, a1, a2, a3⟩ := row_strs g0
  obtain ⟨ls, b1, b2, b3⟩ := row_puts g1
  exact ⟨ps, ls, ⟨c0, c1, rfl, a1, b1⟩, a2, a3, b2, b3⟩
set_option maxRecDepth 100000 in
theorem trod_workS {H : Type} {enc : TypeId × Value → H} {W : World} {base : Nat} {spare : Nat → Bool} {held : Bool} {k : Nat} {c0 c1 c2 c3 c4 c5 : Value} {y : DataW H × List MemPlace} (h : DataW.trod enc Tryz.prog W base spare held k 32 [c0, c1, c2, c3, c4, c5] = some y) : ∃ k : Wk, c2 = .int .i64 k.next ∧ WorkAt W (.agg #[c0, c1, c2, c3, c4, c5]) k ∧ k.fits := by
  obtain ⟨xs, n, -, -, -, hlen, hfs⟩ := DataW.trod_struct Tryz.underlying32 h
  match xs, hlen with
  | [y0, y1, y2, y3, y4], _ =>
    have h0 := hfs 0 _ rfl
    have h1 := hfs 1 _ rfl
    have h2 := hfs 2 _ rfl
    have h3 := hfs 3 _ rfl
    have h4 := hfs 4 _ rfl
    replace h0 : DataW.trod enc Tryz.prog W base spare held n 25 [c0, c1] = some y0 := h0
    replace h1 : DataW.trod enc Tryz.prog W base spare held n 3 [c2] = some y1 := h1
    replace h2 : DataW.trod enc Tryz.prog W base spare held n 30 [c3] = some y2 := h2
    replace h3 : DataW.trod enc Tryz.prog W base spare held n 30 [c4] = some y3 := h3
    replace h4 : DataW.trod enc Tryz.prog W base spare held n 30 [c5] = some y4 := h4
    obtain ⟨ps, ls, d1, a2, a3, b2, b3⟩ := trod_diskS h0
    obtain ⟨nx, e1, -⟩ := DataW.trod_int Tryz.underlying3 h1
    have e1 : c2 = .int .i64 nx := by injection e1 with e1
    subst e1
    obtain ⟨us, u1, u2, u3⟩ := row_intsW h2
    obtain ⟨gs, g1', g2', -⟩ := row_intsW h3
    obtain ⟨fs, f1', f2', -⟩ := row_intsW h4
    exact ⟨⟨ps, ls, nx, us, gs, fs⟩, rfl, ⟨c0, c1, c3, c4, c5, rfl, d1, u1, g1', f1', u3⟩, a2, a3, b2, b3, u2, g2', f2'⟩
open Go.RowKit Go.ChangeShapes Go.WideShapes Go.Deep
theorem row_prs {H : Type} {enc : TypeId × Value → H} {W : World} {base : Nat} {spare : Nat → Bool} {held : Bool} {fuel : Nat} {v : Value} {x : DataW H × List MemPlace}
    (h : DataW.trod enc Tryz.prog W base spare held fuel 37 [v] = some x) : ∃ ls : List (ByteArray × ByteArray), RowAt W 2 v ls.length (prs ls) ∧ ls.length ≤ maxLen ∧ ∀ p ∈ ls, p.1.size ≤ maxLen ∧ p.2.size ≤ maxLen := by
  rcases open_slice_pairs Tryz.underlying37 Tryz.underlying93 (by kernel_rfl) rfl rfl (by kernel_rfl) (by kernel_rfl) h with ⟨hcs, -⟩ | ⟨a, len, cap, m, n, V0, V1, D0, D1, P0, P1, hcs, -, hl, hm, hmm, -, hx⟩
  · injection hcs with hcs
    subst hcs
    exact ⟨[], ⟨rfl, none, 0, rfl, Or.inl rfl⟩, by unfold maxLen; simp, fun s hs => by cases hs⟩
  · injection hcs with hcs
    subst hcs
    have hlm : len ≤ m := by rw [hmm]; split <;> omega
    have each : ∀ i, i < m → ∃ q : ByteArray × ByteArray, V0 i = .string q.1 ∧ V1 i = .string q.2 ∧ q.1.size ≤ maxLen ∧ q.2.size ≤ maxLen := fun i hi => by
      obtain ⟨h1, h2, h3, h4⟩ := hx i hi
      obtain ⟨k, e1, e2, e3⟩ := DataW.trod_string Tryz.underlying9 h3
      obtain ⟨s, g1, g2, g3⟩ := DataW.trod_string Tryz.underlying9 h4
      exact ⟨(k, s), by simpa using e1, by simpa using g1, e3, g3⟩
    obtain ⟨q, hq⟩ := choose_lt each
    refine ⟨(List.range len).map q, ?_, by simp; omega, fun s hs => ?_⟩
    · rw [List.length_map, List.length_range]
      refine ⟨by rw [prs_length]; simp, some a, cap, rfl, ?_⟩
      by_cases h0 : len = 0
      · exact Or.inl h0
      · obtain ⟨b, off, spot⟩ := a
        have hc := (hx 0 (by omega)).1
        obtain rfl : spot = none := by simpa [Addr.add] using World.cell?_spot hc
        refine Or.inr ⟨b, off, rfl, World.block_lt_of_cell? W _ (by simpa [Addr.add] using hc : W.cell? ⟨b, off, none⟩ = _), fun j hj => ?_⟩
        have hi : j / 2 < len := by omega
        obtain ⟨h1, h2, -, -⟩ := hx (j / 2) (by omega)
        rw [Addr.add_lit] at h1 h2
        have hp := prs_at ((List.range len).map q) (j / 2) (by simpa using hi)
        rcases Nat.mod_two_eq_zero_or_one j with e | e
        · rw [show j = j / 2 * 2 from by omega, hp.1, h1, (hq (j / 2) (by omega)).1]
          simp
        · rw [show j = j / 2 * 2 + 1 from by omega, hp.2, h2, (hq (j / 2) (by omega)).2.1]
          simp
    · obtain ⟨i, hi, rfl⟩ := List.mem_map.1 hs
      exact (hq i (by have := List.mem_range.1 hi; omega)).2.2
open Go.RowKit Go.ChangeShapes Go.WideShapes Go.Deep
theorem row_seens {H : Type} {enc : TypeId × Value → H} {W : World} {base : Nat} {spare : Nat → Bool} {held : Bool} {fuel : Nat} {v : Value} {x : DataW H × List MemPlace}
    (h : DataW.trod enc Tryz.prog W base spare held fuel 38 [v] = some x) : ∃ fs : List (Int × List (ByteArray × ByteArray)), SeensAt W v fs ∧ fs.length ≤ maxLen ∧ ∀ f ∈ fs, f.2.length ≤ maxLen ∧ ∀ p ∈ f.2, p.1.size ≤ maxLen ∧ p.2.size ≤ maxLen := by
  rcases open_slice_pairs Tryz.underlying38 Tryz.underlying96 (by kernel_rfl) rfl rfl (by kernel_rfl) (by kernel_rfl) h with ⟨hcs, -⟩ | ⟨a, len, cap, m, n, V0, V1, D0, D1, P0, P1, hcs, -, hl, hm, hmm, -, hx⟩
  · injection hcs with hcs
    subst hcs
    exact ⟨[], ⟨[], rfl, ⟨rfl, none, 0, rfl, Or.inl rfl⟩, fun k p f hp => by simp at hp⟩, by unfold maxLen; simp, fun s hs => by cases hs⟩
  · injection hcs with hcs
    subst hcs
    have hlm : len ≤ m := by rw [hmm]; split <;> omega
    have each : ∀ i, i < m → ∃ q : Int × List (ByteArray × ByteArray), V0 i = .int .i64 q.1 ∧ RowAt W 2 (V1 i) q.2.length (prs q.2) ∧ q.2.length ≤ maxLen ∧ ∀ p ∈ q.2, p.1.size ≤ maxLen ∧ p.2.size ≤ maxLen := fun i hi => by
      obtain ⟨h1, h2, h3, h4⟩ := hx i hi
      obtain ⟨k, e1, e2, -⟩ := DataW.trod_int Tryz.underlying3 h3
      obtain ⟨s, g1, g2⟩ := row_prs h4
      exact ⟨(k, s), by simpa using e1, g1, g2⟩
    obtain ⟨q, hq⟩ := choose_lt each
    refine ⟨(List.range len).map q, ⟨(List.range len).map (fun i => ((q i).1, V1 i)), by simp, ?_, fun k p f hp hf => ?_⟩, by simp; omega, fun s hs => ?_⟩
    · rw [List.length_map, List.length_range]
      refine ⟨by rw [frs_length]; simp, some a, cap, rfl, ?_⟩
      by_cases h0 : len = 0
      · exact Or.inl h0
      · obtain ⟨b, off, spot⟩ := a
        have hc := (hx 0 (by omega)).1
        obtain rfl : spot = none := by simpa [Addr.add] using World.cell?_spot hc
        refine Or.inr ⟨b, off, rfl, World.block_lt_of_cell? W _ (by simpa [Addr.add] using hc : W.cell? ⟨b, off, none⟩ = _), fun j hj => ?_⟩
        have hi : j / 2 < len := by omega
        obtain ⟨h1, h2, -, -⟩ := hx (j / 2) (by omega)
        rw [Addr.add_lit] at h1 h2
        have hp := frs_at ((List.range len).map (fun i => ((q i).1, V1 i))) (j / 2) ((q (j / 2)).1, V1 (j / 2)) (by simp [hi])
        rcases Nat.mod_two_eq_zero_or_one j with e | e
        · rw [show j = j / 2 * 2 from by omega, hp.1, h1, (hq (j / 2) (by omega)).1]
        · rw [show j = j / 2 * 2 + 1 from by omega, hp.2, h2]
    · have hk : k < len := by have := (List.getElem?_eq_some_iff.1 hp).1; simpa using this
      rw [List.getElem?_map, List.getElem?_range hk] at hp hf
      simp at hp hf
      subst hp hf
      exact ⟨rfl, (hq k (by omega)).2.1⟩
    · obtain ⟨i, hi, rfl⟩ := List.mem_map.1 hs
      exact (hq i (by have := List.mem_range.1 hi; omega)).2.2
set_option maxRecDepth 100000 in
theorem trod_storeS {H : Type} {enc : TypeId × Value → H} {W : World} {base : Nat} {spare : Nat → Bool} {held : Bool} {fuel : Nat} {c0 c1 c2 c3 c4 c5 c6 c7 c8 c9 c10 c11 c12 c13 c14 c15 c16 c17 c18 c19 : Value} {y : DataW H × List MemPlace}
    (hf : DataW.trod enc Tryz.prog W base spare held fuel 36 [c0, c1, c2, c3, c4, c5, c6, c7, c8, c9, c10, c11, c12, c13, c14, c15, c16, c17, c18, c19] = some y) : ∃ s : St, StAt W (.agg #[c0, c1, c2, c3, c4, c5, c6, c7, c8, c9, c10, c11, c12, c13, c14, c15, c16, c17, c18, c19]) s ∧ s.fits ∧ ∀ r ∈ s.rs, (Lit.int .i64 r.1).wf = true := by
  obtain ⟨xs, n, -, -, -, hlen, hfs⟩ := DataW.trod_struct Tryz.underlying36 hf
  match xs, hlen with
  | [y0, y1, y2, y3, y4, y5], _ =>
    have h0 := hfs 0 _ rfl
    have h1 := hfs 1 _ rfl
    have h2 := hfs 2 _ rfl
    have h3 := hfs 3 _ rfl
    have h4 := hfs 4 _ rfl
    have h5 := hfs 5 _ rfl
    replace h0 : DataW.trod enc Tryz.prog W base spare held n 25 [c0, c1] = some y0 := h0
    replace h1 : DataW.trod enc Tryz.prog W base spare held n 28 [c2, c3, c4, c5] = some y1 := h1
    replace h2 : DataW.trod enc Tryz.prog W base spare held n 29 [c6] = some y2 := h2
    replace h3 : DataW.trod enc Tryz.prog W base spare held n 34 [c7, c8, c9, c10, c11, c12, c13, c14, c15, c16, c17] = some y3 := h3
    replace h4 : DataW.trod enc Tryz.prog W base spare held n 4 [c18] = some y4 := h4
    replace h5 : DataW.trod enc Tryz.prog W base spare held n 4 [c19] = some y5 := h5
    obtain ⟨zs, n3, -, -, -, hl3, hf3⟩ := DataW.trod_struct Tryz.underlying34 h3
    match zs, hl3 with
    | [z0, z1, z2], _ =>
      have g0 := hf3 0 _ rfl
      have g1 := hf3 1 _ rfl
      have g2 := hf3 2 _ rfl
      replace g0 : DataW.trod enc Tryz.prog W base spare held n3 28 [c7, c8, c9, c10] = some z0 := g0
      replace g1 : DataW.trod enc Tryz.prog W base spare held n3 32 [c11, c12, c13, c14, c15, c16] = some z1 := g1
      replace g2 : DataW.trod enc Tryz.prog W base spare held n3 3 [c17] = some z2 := g2
      obtain ⟨ps, ls, d1, d2, d3, d4, d5⟩ := trod_diskS h0
      obtain ⟨m, rfl, rfl, rfl, m4, m5, m6⟩ := trod_metaS h1
      obtain ⟨rs, r1, r2, r3⟩ := row_rds h2
      obtain ⟨tm, rfl, rfl, rfl, t4, t5, t6⟩ := trod_metaS g0
      obtain ⟨tk, rfl, w1, w2⟩ := trod_workS g1
      obtain ⟨tr, e, -⟩ := DataW.trod_int Tryz.underlying3 g2
      injection e with e
      subst e
      obtain ⟨wr, e4, -⟩ := DataW.trod_bool Tryz.underlying4 h4
      obtain ⟨fl, e5, -⟩ := DataW.trod_bool Tryz.underlying4 h5
      injection e4 with e4
      injection e5 with e5
      subst e4 e5
      exact ⟨⟨ps, ls, m, rs, tm, tk, tr, wr, fl⟩, ⟨c0, c1, c5, c6, c10, c11, c12, c14, c15, c16, rfl, d1, ⟨c5, rfl, m4⟩, r1, ⟨c10, c11, c12, c14, c15, c16, rfl, ⟨c10, rfl, t4⟩, w1⟩⟩, ⟨⟨d2, d3, d4, d5⟩, ⟨m5, m6⟩, r2, ⟨t5, t6⟩, w2⟩, r3⟩
theorem array25 {α : Type} {cs : Array α} (h : cs.size = 25) : ∃ c0 c1 c2 c3 c4 c5 c6 c7 c8 c9 c10 c11 c12 c13 c14 c15 c16 c17 c18 c19 c20 c21 c22 c23 c24, cs = #[c0, c1, c2, c3, c4, c5, c6, c7, c8, c9, c10, c11, c12, c13, c14, c15, c16, c17, c18, c19, c20, c21, c22, c23, c24] := by
  obtain ⟨l⟩ := cs
  match l, h with
  | [c0, c1, c2, c3, c4, c5, c6, c7, c8, c9, c10, c11, c12, c13, c14, c15, c16, c17, c18, c19, c20, c21, c22, c23, c24], _ => exact ⟨c0, c1, c2, c3, c4, c5, c6, c7, c8, c9, c10, c11, c12, c13, c14, c15, c16, c17, c18, c19, c20, c21, c22, c23, c24, rfl⟩
theorem Tryz.cellsWorld : Tryz.prog.cellsOf 40 = 25 := by kernel_rfl
set_option maxRecDepth 100000 in
theorem open_world {H : Type} {enc : TypeId × Value → H} {W : World} {r : Reach} {b0 base : Nat} {spare : Nat → Bool} {held : Bool} {v : Value} {d : DataW H} {p : List MemPlace}
    (hv : Value.okWide Tryz.prog W r b0 40 v) (h : DataW.Trod enc Tryz.prog W base spare held 40 v d p) : ∃ x : Wrl, WrAt W v x ∧ x.fits ∧ ∀ r ∈ x.s.rs, (Lit.int .i64 r.1).wf = true := by
  obtain ⟨cs, rfl, hsz⟩ := okWide_struct Tryz.underlying40 hv
  obtain ⟨c0, c1, c2, c3, c4, c5, c6, c7, c8, c9, c10, c11, c12, c13, c14, c15, c16, c17, c18, c19, c20, c21, c22, c23, c24, rfl⟩ := array25 (hsz.trans Tryz.cellsWorld)
  obtain ⟨fuel, hf⟩ := h
  obtain ⟨xs, n, -, -, -, hlen, hfs⟩ := DataW.trod_struct Tryz.underlying40 hf
  match xs, hlen with
  | [y0, y1, y2, y3, y4, y5], _ =>
    have h0 := hfs 0 _ rfl
    have h1 := hfs 1 _ rfl
    have h2 := hfs 2 _ rfl
    have h3 := hfs 3 _ rfl
    have h4 := hfs 4 _ rfl
    have h5 := hfs 5 _ rfl
    replace h0 : DataW.trod enc Tryz.prog W base spare held n 36 [c0, c1, c2, c3, c4, c5, c6, c7, c8, c9, c10, c11, c12, c13, c14, c15, c16, c17, c18, c19] = some y0 := h0
    replace h1 : DataW.trod enc Tryz.prog W base spare held n 37 [c20] = some y1 := h1
    replace h2 : DataW.trod enc Tryz.prog W base spare held n 37 [c21] = some y2 := h2
    replace h3 : DataW.trod enc Tryz.prog W base spare held n 38 [c22] = some y3 := h3
    replace h4 : DataW.trod enc Tryz.prog W base spare held n 30 [c23] = some y4 := h4
    replace h5 : DataW.trod enc Tryz.prog W base spare held n 22 [c24] = some y5 := h5
    obtain ⟨s, s1, s2, s3⟩ := trod_storeS h0
    obtain ⟨md, m1, m2, m3⟩ := row_prs h1
    obtain ⟨nx, n1, n2, n3⟩ := row_prs h2
    obtain ⟨ss, t1, t2, t3⟩ := row_seens h3
    obtain ⟨cd, q1, q2⟩ := row_intsM h4
    obtain ⟨td, u1, u2, u3⟩ := row_strs h5
    exact ⟨⟨s, md, nx, ss, cd, td⟩, ⟨#[c0, c1, c2, c3, c4, c5, c6, c7, c8, c9, c10, c11, c12, c13, c14, c15, c16, c17, c18, c19], c20, c21, c22, c23, c24, rfl, rfl, s1, m1, n1, t1, q1, u1⟩, ⟨s2, ⟨m2, m3⟩, ⟨n2, n3⟩, ⟨t2, t3⟩, q2, u2, u3⟩, s3⟩
end Go.Proofs.YtdbpbhemnnffeaaGreatDoor
