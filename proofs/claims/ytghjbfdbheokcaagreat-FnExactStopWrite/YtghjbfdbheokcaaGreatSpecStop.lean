/-
  spec.StopWrite by a contract (made by tools/specstop.py).
-/
import Derived.Test.YtghjbfdbheokcaaGreatSpecRest
namespace Go.Proofs.YtghjbfdbheokcaaGreat
open Go.RowKit

/-- a store whose change is stopped -/
def St.stop (s : St) : St := if s.wr = true then s.rest (syncD s.tk.ps s.tk.ls) [] s.m else s

def St.stopC (s : St) : Int := if s.wr = true then 0 else 2

set_option maxHeartbeats 16000000 in
set_option maxRecDepth 100000 in
theorem specStopWrite_any (v : Value) (s : St) (hs : s.small) (w : World) (hd : StAt w v s) :
    Calls Tryz.prog 5 #[v] w fun e w' => ∃ v', e = .returned (.tuple #[v', .int .i64 s.stopC]) ∧ StOwn w' w.heap.size v' s.stop ∧ Below w.heap.size w w' := by
  have HC := hide (fun u wx h => specSCopy_any u s hs wx h)
  have htk := bulkW_in hs.2.2.2.2
  have HSy := hide (fun u wx h => specSyncDisk_any u s.tk.ps s.tk.ls htk.1 htk.2.2.1 wx h)
  have HMc := hide (mcopyS hs.2.1.1 hs.2.1.2)
  have HRe := hide (fun u x1 x2 y1 y2 xf yf lf a0 rest wx hd h hB => specRest_any u s hs x1 x2 y1 y2 (syncD s.tk.ps s.tk.ls) [] xf yf lf s.m a0 rest wx hd h hB)
  have HSt := hide hd
  obtain ⟨vp, vl, vf, vR, vr, up, ul, uu, ug, uf, rfl, -, h2, -, ⟨z1, z2, z3, z4, z5, z6, eu, -, h5⟩⟩ := hd
  simp only [Value.agg.injEq, Array.mk.injEq, List.cons.injEq, and_true] at eu
  obtain ⟨-, -, -, rfl, rfl, rfl, -, rfl, rfl, rfl, -⟩ := eu
  obtain ⟨k1, k2, k3, k4, k5, ek, hdk, -⟩ := h5
  obtain ⟨rfl, rfl, -, rfl, rfl, rfl⟩ := agg6 ek
  have HD := hide hdk
  have HM := hide h2
  clear hs htk h2 hdk ek
  obtain ⟨a0, ha0⟩ : ∃ a, a = w.heap.size := ⟨_, rfl⟩
  have hS0 := sep_new (sep_new (sep_nil w.heap.size w) (Obj.cells #[vp, vl, .int .i64 s.m.tx, .int .i64 s.m.root, .int .i64 s.m.next, vf, vR, .int .i64 s.tm.tx, .int .i64 s.tm.root, .int .i64 s.tm.next, vr, up, ul, .int .i64 s.tk.next, uu, ug, uf, .int .i64 s.tr, .bool s.wr, .bool s.fl] 50) (Nat.le_refl _)) (Obj.cells #[.slice none 0 0, .slice none 0 0, .int .i64 0, .int .i64 0, .int .i64 0, .slice none 0 0, .slice none 0 0, .int .i64 0, .int .i64 0, .int .i64 0, .slice none 0 0, .slice none 0 0, .slice none 0 0, .int .i64 0, .slice none 0 0, .slice none 0 0, .slice none 0 0, .int .i64 0, .bool false, .bool false] 50) (by simp)
  obtain ⟨w0, hw0⟩ : ∃ w0, w0 = (w.alloc (Obj.cells #[vp, vl, .int .i64 s.m.tx, .int .i64 s.m.root, .int .i64 s.m.next, vf, vR, .int .i64 s.tm.tx, .int .i64 s.tm.root, .int .i64 s.tm.next, vr, up, ul, .int .i64 s.tk.next, uu, ug, uf, .int .i64 s.tr, .bool s.wr, .bool s.fl] 50)).alloc (Obj.cells #[.slice none 0 0, .slice none 0 0, .int .i64 0, .int .i64 0, .int .i64 0, .slice none 0 0, .slice none 0 0, .int .i64 0, .int .i64 0, .int .i64 0, .slice none 0 0, .slice none 0 0, .slice none 0 0, .int .i64 0, .slice none 0 0, .slice none 0 0, .slice none 0 0, .int .i64 0, .bool false, .bool false] 50) := ⟨_, rfl⟩
  rw [World.size_alloc, ← hw0, ← ha0] at hS0
  have HS_w0 := hide hS0
  have HB_w0 : Hid (Below w.heap.size w w0) := hide (by rw [hw0]; exact ((Below.refl w.heap.size w).alloc (Nat.le_refl _) _).alloc (by simp) _)
  have HZ_w0 : Hid (a0 ≤ w0.heap.size) := hide (by rw [hw0, ha0]; simp; omega)
  have HA := hide ha0
  have HR0 : Hid (w0.rangeAt a0 0 (#[vp, vl, .int .i64 s.m.tx, .int .i64 s.m.root, .int .i64 s.m.next, vf, vR, .int .i64 s.tm.tx, .int .i64 s.tm.root, .int .i64 s.tm.next, vr, up, ul, .int .i64 s.tk.next, uu, ug, uf, .int .i64 s.tr, .bool s.wr, .bool s.fl] : Array Value).toList) := hide (range_all (sep_get HS_w0.out 1 rfl : w0.heap[a0]? = some (Obj.cells #[vp, vl, .int .i64 s.m.tx, .int .i64 s.m.root, .int .i64 s.m.next, vf, vR, .int .i64 s.tm.tx, .int .i64 s.tm.root, .int .i64 s.tm.next, vr, up, ul, .int .i64 s.tk.next, uu, ug, uf, .int .i64 s.tr, .bool s.wr, .bool s.fl] 50)))
  have x18 : w0.cell? ⟨a0, 18, none⟩ = some (.bool s.wr) := (cell_at (sep_get HS_w0.out 1 rfl : w0.heap[a0]? = some (Obj.cells #[vp, vl, .int .i64 s.m.tx, .int .i64 s.m.root, .int .i64 s.m.next, vf, vR, .int .i64 s.tm.tx, .int .i64 s.tm.root, .int .i64 s.tm.next, vr, up, ul, .int .i64 s.tk.next, uu, ug, uf, .int .i64 s.tr, .bool s.wr, .bool s.fl] 50)) 18).1
  have hga : w.heap.size ≤ a0 + 1 := by omega
  have HGA := hide hga
  clear hS0 ha0 hga
  by_cases hwr : s.wr = true
  · have HE : Hid (s.stop = s.rest (syncD s.tk.ps s.tk.ls) [] s.m ∧ s.stopC = 0) := hide ⟨if_pos hwr, if_pos hwr⟩
    rw [HE.out.1, HE.out.2]
    rw [hwr] at x18
    have HWr := hide hwr
    clear hwr
    go_enter Tryz.func5, Tryz.ntmps5
    go_upto_region 1 with fail
    rw [← hw0, ← HA.out]
    clear hw0
    go_upto_region 3 with fail
    clear x18
    obtain ⟨wd, hwd⟩ : ∃ wd, wd = w0.drew := ⟨_, rfl⟩
    have HS_wd := hide (sep_drew HS_w0.out)
    have HB_wd := hide HB_w0.out.drew
    have HZ_wd : Hid (a0 ≤ w0.drew.heap.size) := HZ_w0
    rw [← hwd] at HS_wd HB_wd HZ_wd
    have hS_wd : (fun wx => wx.heap[a0]? = some (Obj.cells #[vp, vl, .int .i64 s.m.tx, .int .i64 s.m.root, .int .i64 s.m.next, vf, vR, .int .i64 s.tm.tx, .int .i64 s.tm.root, .int .i64 s.tm.next, vr, up, ul, .int .i64 s.tk.next, uu, ug, uf, .int .i64 s.tr, .bool s.wr, .bool s.fl] 50)) wd := sep_get HS_wd.out 1 rfl
    refine wp_region_held_drew (S := fun wx => wx.heap[a0]? = some (Obj.cells #[vp, vl, .int .i64 s.m.tx, .int .i64 s.m.root, .int .i64 s.m.next, vf, vR, .int .i64 s.tm.tx, .int .i64 s.tm.root, .int .i64 s.tm.next, vr, up, ul, .int .i64 s.tk.next, uu, ug, uf, .int .i64 s.tr, .bool s.wr, .bool s.fl] 50)) (by kernel_rfl) (by rw [← hwd]; exact hS_wd) (fun _ => ?_)
    rw [← hwd]
    clear hwd
    refine takeW 0 9 (.agg #[vp, vl, .int .i64 s.m.tx, .int .i64 s.m.root, .int .i64 s.m.next, vf, vR, .int .i64 s.tm.tx, .int .i64 s.tm.root, .int .i64 s.tm.next, vr, up, ul, .int .i64 s.tk.next, uu, ug, uf, .int .i64 s.tr, .bool s.wr, .bool s.fl]) rfl rfl (by kernel_rfl) (by kernel_rfl) (by kernel_rfl) (fun _ _ _ h => h) (yields_loadL (by rfl) 50 (.tmp 1) rfl a0 0 rfl #[vp, vl, .int .i64 s.m.tx, .int .i64 s.m.root, .int .i64 s.m.next, vf, vR, .int .i64 s.tm.tx, .int .i64 s.tm.root, .int .i64 s.tm.next, vr, up, ul, .int .i64 s.tk.next, uu, ug, uf, .int .i64 s.tr, .bool s.wr, .bool s.fl] _ (fun _ h => range_all h) Tryz.underlying50 rfl Tryz.sizeStore) hS_wd ?_
    simp only [List.setIfInBounds_toArray, List.set_cons_zero, List.set_cons_succ]
    refine takeW 1 10 ?_ rfl rfl (by kernel_rfl) (by kernel_rfl) (by kernel_rfl) (fun _ _ _ h => h) (Or.inl ⟨by rfl, ?_⟩) hS_wd ?_
    rotate_left
    · (intro wx hSw; (try dsimp only at hSw); go_simp; try with_reducible rfl)
    (try simp only [List.setIfInBounds_toArray, List.set_cons_zero, List.set_cons_succ])
    refine takeW 2 11 ?_ rfl rfl (by kernel_rfl) (by kernel_rfl) (by kernel_rfl) (fun _ _ _ h => h) (Or.inl ⟨by rfl, ?_⟩) hS_wd ?_
    rotate_left
    · (intro wx hSw; (try dsimp only at hSw); go_simp; try with_reducible rfl)
    (try simp only [List.setIfInBounds_toArray, List.set_cons_zero, List.set_cons_succ])
    refine takeW 3 12 ?_ rfl rfl (by kernel_rfl) (by kernel_rfl) (by kernel_rfl) (fun _ _ _ h => h) (Or.inl ⟨by rfl, ?_⟩) hS_wd ?_
    rotate_left
    · (intro wx hSw; (try dsimp only at hSw); go_simp; try with_reducible rfl)
    (try simp only [List.setIfInBounds_toArray, List.set_cons_zero, List.set_cons_succ])
    refine takeW 4 13 (.agg #[up, ul]) rfl rfl (by kernel_rfl) (by kernel_rfl) (by kernel_rfl) (fun _ _ _ h => h) (yields_loadL (by rfl) 40 (.tmp 12) rfl a0 11 rfl #[up, ul] _ (fun _ h => range_of h 11 2) Tryz.underlying40 rfl Tryz.sizeDiskS) hS_wd ?_
    simp only [List.setIfInBounds_toArray, List.set_cons_zero, List.set_cons_succ]
    refine takeW 6 15 ?_ rfl rfl (by kernel_rfl) (by kernel_rfl) (by kernel_rfl) (fun _ _ _ h => h) (Or.inl ⟨by rfl, ?_⟩) hS_wd ?_
    rotate_left
    · (intro wx hSw; (try dsimp only at hSw); go_simp; try with_reducible rfl)
    (try simp only [List.setIfInBounds_toArray, List.set_cons_zero, List.set_cons_succ])
    refine takeW 7 16 (.agg #[.int .i64 s.m.tx, .int .i64 s.m.root, .int .i64 s.m.next, vf]) rfl rfl (by kernel_rfl) (by kernel_rfl) (by kernel_rfl) (fun _ _ _ h => h) (yields_loadL (by rfl) 43 (.tmp 15) rfl a0 2 rfl #[.int .i64 s.m.tx, .int .i64 s.m.root, .int .i64 s.m.next, vf] _ (fun _ h => range_of h 2 4) Tryz.underlying43 rfl Tryz.sizeMetaS) hS_wd ?_
    simp only [List.setIfInBounds_toArray, List.set_cons_zero, List.set_cons_succ]
    refine wpAnyH_ready (rs := [5]) (by kernel_rfl) (by simp) ?_
    refine AllReadyH.cons rfl (fun K hK => ?_) AllReadyH.nil
    refine step_call1 wd ?_ 17 Tryz.f17 Tryz.func17 ?_ ?_ (.tmp 13) #[40] ?_ (.agg #[up, ul]) ?_ _ (HSy.out _ wd (disk_below HD.out HB_wd.out)) ?_
    · exact rfl
    · decide
    · exact Option.some_ne_none _
    · exact rfl
    · exact rfl
    rintro e w1 ⟨v1, rfl, ho, hb⟩
    refine ⟨_, rfl, ?_⟩
    obtain ⟨d1, e1, d2, e2, rfl⟩ := disk_form ho
    have HS_w1 := hide (sep_add HS_wd.out hb (diskA a0 _ (syncD s.tk.ps s.tk.ls) []) (disk_downQ ho HZ_wd.out) (fun j hj => diskOwn_lt ho j hj) HZ_wd.out)
    have HB_w1 : Hid (Below w.heap.size w w1) := hide (HB_wd.out.trans (hb.mono HB_wd.out.size))
    have HZ_w1 : Hid (a0 ≤ w1.heap.size) := hide (Nat.le_trans HZ_wd.out hb.size)
    have hS_w1 : (fun wx => wx.heap[a0]? = some (Obj.cells #[vp, vl, .int .i64 s.m.tx, .int .i64 s.m.root, .int .i64 s.m.next, vf, vR, .int .i64 s.tm.tx, .int .i64 s.tm.root, .int .i64 s.tm.next, vr, up, ul, .int .i64 s.tk.next, uu, ug, uf, .int .i64 s.tr, .bool s.wr, .bool s.fl] 50)) w1 := sep_get HS_w1.out 2 rfl
    refine hK.out (Act.put _ (some 14) _) _ hS_w1 (fun _ => ?_)
    clear hK K hb
    simp only [Act.put, List.setIfInBounds_toArray, List.set_cons_zero, List.set_cons_succ]
    refine wpAnyH_ready (rs := [8]) (by kernel_rfl) (by simp) ?_
    refine AllReadyH.cons rfl (fun K hK => ?_) AllReadyH.nil
    refine step_call1 w1 ?_ 18 Tryz.f18 Tryz.func18 ?_ ?_ (.tmp 16) #[43] ?_ (.agg #[.int .i64 s.m.tx, .int .i64 s.m.root, .int .i64 s.m.next, vf]) ?_ _ (HMc.out _ w1 (meta_below HM.out HB_w1.out)) ?_
    · exact rfl
    · decide
    · exact Option.some_ne_none _
    · exact rfl
    · exact rfl
    rintro e w2 ⟨v2, rfl, hm, hb⟩
    refine ⟨_, rfl, ?_⟩
    obtain ⟨xr, l1, ev, ho2⟩ := hm
    obtain ⟨p3, q3, rfl⟩ := own_slice ho2.1
    subst ev
    have HS_w2 := hide (sep_swap (sep_add HS_w1.out hb (freesA a0 (.slice p3 s.m.fs.length q3) l1 s.m.fs) (ownF_down ho2 HZ_w1.out) (fun j hj => ownF_lt ho2 j hj) HZ_w1.out))
    have HB_w2 : Hid (Below w.heap.size w w2) := hide (HB_w1.out.trans (hb.mono HB_w1.out.size))
    have HZ_w2 : Hid (a0 ≤ w2.heap.size) := hide (Nat.le_trans HZ_w1.out hb.size)
    have hS_w2 : (fun wx => wx.heap[a0]? = some (Obj.cells #[vp, vl, .int .i64 s.m.tx, .int .i64 s.m.root, .int .i64 s.m.next, vf, vR, .int .i64 s.tm.tx, .int .i64 s.tm.root, .int .i64 s.tm.next, vr, up, ul, .int .i64 s.tk.next, uu, ug, uf, .int .i64 s.tr, .bool s.wr, .bool s.fl] 50)) w2 := sep_get HS_w2.out 3 rfl
    refine hK.out (Act.put _ (some 17) _) _ hS_w2 (fun _ => ?_)
    clear hK K hb
    simp only [Act.put, List.setIfInBounds_toArray, List.set_cons_zero, List.set_cons_succ]
    refine wpAnyH_ready (rs := [9]) (by kernel_rfl) (by simp) ?_
    refine AllReadyH.cons rfl (fun K hK => ?_) AllReadyH.nil
    refine step_call3 w2 ?_ 16 Tryz.f16 Tryz.func16 ?_ ?_ (.tmp 9) (.tmp 14) (.tmp 17) #[50, 40, 43] ?_ (.agg #[vp, vl, .int .i64 s.m.tx, .int .i64 s.m.root, .int .i64 s.m.next, vf, vR, .int .i64 s.tm.tx, .int .i64 s.tm.root, .int .i64 s.tm.next, vr, up, ul, .int .i64 s.tk.next, uu, ug, uf, .int .i64 s.tr, .bool s.wr, .bool s.fl]) (.agg #[.slice d1 (syncD s.tk.ps s.tk.ls).length e1, .slice d2 ([] : List (Int × ByteArray)).length e2]) (.agg #[.int .i64 s.m.tx, .int .i64 s.m.root, .int .i64 s.m.next, .slice p3 s.m.fs.length q3]) ?_ ?_ ?_ _ (HRe.out _ _ _ _ _ _ _ _ a0 _ w2 (st_below HSt.out HB_w2.out) HS_w2.out HZ_w2.out) ?_
    · exact rfl
    · decide
    · exact Option.some_ne_none _
    · exact rfl
    · exact rfl
    · exact rfl
    · exact rfl
    rintro e w3 ⟨v3, L3, rfl, hL3, hs3, hb⟩
    refine ⟨_, rfl, ?_⟩
    obtain ⟨cx, rfl, hzx, hox⟩ := things_arr hL3
    have HS_w3 := hide (hs3)
    have HB_w3 : Hid (Below w.heap.size w w3) := hide (HB_w2.out.trans (hb.mono HB_w2.out.size))
    have HZ_w3 : Hid (a0 ≤ w3.heap.size) := hide (Nat.le_trans HZ_w2.out hb.size)
    have hS_w3 : (fun wx => wx.heap[a0]? = some (Obj.cells #[vp, vl, .int .i64 s.m.tx, .int .i64 s.m.root, .int .i64 s.m.next, vf, vR, .int .i64 s.tm.tx, .int .i64 s.tm.root, .int .i64 s.tm.next, vr, up, ul, .int .i64 s.tk.next, uu, ug, uf, .int .i64 s.tr, .bool s.wr, .bool s.fl] 50)) w3 := sep_get HS_w3.out 2 rfl
    refine hK.out (Act.put _ (some 18) _) _ hS_w3 (fun _ => ?_)
    clear hK K hb
    simp only [Act.put, List.setIfInBounds_toArray, List.set_cons_zero, List.set_cons_succ]
    have HN : Hid ((Tryz.prog.info? 50).map (·.size) = some cx.size) := hide (by rw [hzx]; exact Tryz.sizeStore)
    have hth : w3.there (a0 + 1) 0 cx.size := there_of (sep_get HS_w3.out 1 rfl : w3.heap[a0 + 1]? = some (Obj.cells #[.slice none 0 0, .slice none 0 0, .int .i64 0, .int .i64 0, .int .i64 0, .slice none 0 0, .slice none 0 0, .int .i64 0, .int .i64 0, .int .i64 0, .slice none 0 0, .slice none 0 0, .slice none 0 0, .int .i64 0, .slice none 0 0, .slice none 0 0, .slice none 0 0, .int .i64 0, .bool false, .bool false] 50)) 0 cx.size (by rw [hzx]; exact Nat.le_refl 20)
    obtain ⟨wf, hwf⟩ : ∃ wf, wf = w3.setCells (a0 + 1) 0 cx.toList := ⟨_, rfl⟩
    have hsf := sep_cellsAll HS_w3.out 1 rfl cx (by rw [hzx]; rfl)
    have hbf := below_cells HGA.out cx.toList 0 w3 HB_w3.out
    rw [← hwf] at hsf hbf
    have hS_wf : (fun wx => wx.heap[a0]? = some (Obj.cells #[vp, vl, .int .i64 s.m.tx, .int .i64 s.m.root, .int .i64 s.m.next, vf, vR, .int .i64 s.tm.tx, .int .i64 s.tm.root, .int .i64 s.tm.next, vr, up, ul, .int .i64 s.tk.next, uu, ug, uf, .int .i64 s.tr, .bool s.wr, .bool s.fl] 50)) wf := sep_get hsf 2 rfl
    have HSf := hide hsf
    have HBf := hide hbf
    have HL := hide hL3
    refine wpAnyH_ready (rs := [10]) (by kernel_rfl) (by simp) ?_
    refine AllReadyH.cons rfl (fun K hK => ?_) AllReadyH.nil
    refine step_storeL ?_ 50 (.tmp 2) (.tmp 18) ?_ (a0 + 1) 0 cx ?_ ?_ hth ?_ ?_ hwf.symm ?_
    · exact rfl
    · exact rfl
    · exact rfl
    · exact rfl
    · exact HN.out
    · exact hox
    refine hK.out _ _ hS_wf (fun _ => ?_)
    clear hK K hth hsf hbf hwf
    refine takeW 11 3 ?_ rfl rfl (by kernel_rfl) (by kernel_rfl) (by kernel_rfl) (fun _ _ _ h => h) (Or.inl ⟨by rfl, ?_⟩) hS_wf ?_
    rotate_left
    · (intro wx hSw; (try dsimp only at hSw); go_simp; try with_reducible rfl)
    (try simp only [List.setIfInBounds_toArray, List.set_cons_zero, List.set_cons_succ])
    refine wpAnyH_done (by kernel_rfl) ?_ _
    go_wp2_with fail
    have HRf : Hid (wf.rangeAt (a0 + 1) 0 cx.toList) := hide (range_all (sep_get HSf.out 1 rfl))
    refine bodyPost_ret (v := .tuple #[.agg cx, .int .i64 0]) (results_ct Tryz.results5 rfl rfl (run_agg HRf.out Tryz.underlying50 rfl HN.out)) rfl ⟨_, rfl, ?_, HBf.out⟩
    have h := things_own HL.out (sep_get HSf.out 0 rfl)
    rw [HA.out] at h
    exact h
  · have HE : Hid (s.stop = s ∧ s.stopC = 2) := hide ⟨if_neg hwr, if_neg hwr⟩
    rw [HE.out.1, HE.out.2]
    have hwf : s.wr = false := by simpa using hwr
    rw [hwf] at x18
    clear hwr hwf
    go_enter Tryz.func5, Tryz.ntmps5
    go_upto_region 1 with fail
    rw [← hw0, ← HA.out]
    clear hw0
    go_upto_region 2 with fail
    go_wp2_with ((with_reducible refine wpList_loadL ?_ 50 (.tmp 1) ?_ a0 0 ?_ #[vp, vl, .int .i64 s.m.tx, .int .i64 s.m.root, .int .i64 s.m.next, vf, vR, .int .i64 s.tm.tx, .int .i64 s.tm.root, .int .i64 s.tm.next, vr, up, ul, .int .i64 s.tk.next, uu, ug, uf, .int .i64 s.tr, .bool s.wr, .bool s.fl] HR0.out _ Tryz.underlying50 ?_ ?_ ?_); exact rfl; exact rfl; exact rfl; exact rfl; exact Tryz.sizeStore)
    refine (HC.out _ _ (st_below HSt.out HB_w0.out)).mono ?_
    rintro e w1 ⟨v1, rfl, ho, hb⟩
    obtain ⟨Lx, hLx, hsx⟩ := sep_st HS_w0.out hb ho HZ_w0.out
    obtain ⟨cx, rfl, hzx, hox⟩ := things_arr hLx
    have HS_w1 := hide hsx
    have HB_w1 : Hid (Below w.heap.size w w1) := hide (HB_w0.out.trans (hb.mono HB_w0.out.size))
    have HN : Hid ((Tryz.prog.info? 50).map (·.size) = some cx.size) := hide (by rw [hzx]; exact Tryz.sizeStore)
    have HL := hide hLx
    have HO := hide hox
    obtain ⟨wf, hwf⟩ : ∃ wf, wf = w1.setCells (a0 + 1) 0 cx.toList := ⟨_, rfl⟩
    have HSf := sep_cellsAll HS_w1.out 1 rfl cx (by rw [hzx]; rfl)
    have HBf := below_cells HGA.out cx.toList 0 w1 HB_w1.out
    have HTh : Hid (w1.there (a0 + 1) 0 cx.size) := hide (there_of (sep_get HS_w1.out 1 rfl : w1.heap[a0 + 1]? = some (Obj.cells #[.slice none 0 0, .slice none 0 0, .int .i64 0, .int .i64 0, .int .i64 0, .slice none 0 0, .slice none 0 0, .int .i64 0, .int .i64 0, .int .i64 0, .slice none 0 0, .slice none 0 0, .slice none 0 0, .int .i64 0, .slice none 0 0, .slice none 0 0, .slice none 0 0, .int .i64 0, .bool false, .bool false] 50)) 0 cx.size (by rw [hzx]; exact Nat.le_refl 20))
    rw [← hwf] at HSf HBf
    have HWf := hide hwf.symm
    have HSf := hide HSf
    have HBf := hide HBf
    clear hwf hb ho hLx hsx hox hzx
    go_wp2_with ((with_reducible refine wpList_storeL ?_ 50 (.tmp 2) (.tmp 8) ?_ (a0 + 1) 0 cx ?_ ?_ HTh.out ?_ ?_ HWf.out ?_); exact rfl; exact rfl; exact rfl; exact rfl; exact HN.out; exact HO.out)
    have HRf : Hid (wf.rangeAt (a0 + 1) 0 cx.toList) := hide (range_all (sep_get HSf.out 1 rfl))
    refine bodyPost_ret (v := .tuple #[.agg cx, .int .i64 2]) (results_ct Tryz.results5 rfl rfl (run_agg HRf.out Tryz.underlying50 rfl HN.out)) rfl ⟨_, rfl, ?_, HBf.out⟩
    have h := things_own HL.out (sep_get HSf.out 0 rfl)
    rw [HA.out] at h
    exact h
end Go.Proofs.YtghjbfdbheokcaaGreat
