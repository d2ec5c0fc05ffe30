/-
  impl.copyTxn by a contract, given impl.copyMeta's (made out of tools/spectcopy.py).
-/
import Derived.Test.YtbokjfjdjgopeaaGreatDoorRgF
import Derived.Test.YtbokjfjdjgopeaaGreatDoorWCopyImpl
namespace Go.Proofs.YtbokjfjdjgopeaaGreatDoor
open Go.RowKit

/-- impl.copyMeta's contract, at one meta -/
def MCopyIAt (m : Mt) : Prop := ∀ (u : Value) (wx : World), MetaAt wx u m → Calls Tryz.prog 62 #[u] wx fun e w' => ∃ v', e = .returned v' ∧ MetaOwn w' wx.heap.size v' m ∧ Below wx.heap.size wx w'

set_option maxHeartbeats 16000000 in
set_option maxRecDepth 100000 in
theorem implTCopy_of (v : Value) (m : Mt) (hmc : MCopyIAt m) (k : Wk) (hk : k.small) (root : Int) (w : World) (hd : TxnAt w v m k root) :
    Calls Tryz.prog 64 #[v] w fun e w' => ∃ v', e = .returned v' ∧ TxnOwn w' w.heap.size v' m k root ∧ Below w.heap.size w w' := by
  have HMc := hide hmc
  have HC := hide (fun u wx h => implWCopy_any u k hk wx h)
  obtain ⟨vr, vp, vl, vu, vg, vf, rfl, h1, h2⟩ := hd
  obtain ⟨tx, htx⟩ : ∃ n, n = m.tx := ⟨_, rfl⟩
  obtain ⟨mr, hmr⟩ : ∃ n, n = m.root := ⟨_, rfl⟩
  obtain ⟨mn, hmn⟩ : ∃ n, n = m.next := ⟨_, rfl⟩
  obtain ⟨wn, hwn⟩ : ∃ n, n = k.next := ⟨_, rfl⟩
  rw [← htx, ← hmr, ← hmn] at h1
  rw [← hwn] at h2
  have HL : Hid (m.tx = tx ∧ m.root = mr ∧ m.next = mn ∧ k.next = wn) := hide ⟨htx.symm, hmr.symm, hmn.symm, hwn.symm⟩
  rw [← htx, ← hmr, ← hmn, ← hwn]
  have HM0 := hide h1
  have HW0 := hide h2
  clear h1 h2 htx hmr hmn hwn hk hmc
  obtain ⟨a0, ha0⟩ : ∃ a, a = w.heap.size := ⟨_, rfl⟩
  have hS0 := sep_new (sep_new (sep_nil w.heap.size w) (Obj.cells #[.int .i64 tx, .int .i64 mr, .int .i64 mn, vr, vp, vl, .int .i64 wn, vu, vg, vf, .int .i64 root] 50) (Nat.le_refl _)) (Obj.cells #[.int .i64 0, .int .i64 0, .int .i64 0, .slice none 0 0, .slice none 0 0, .slice none 0 0, .int .i64 0, .slice none 0 0, .slice none 0 0, .slice none 0 0, .int .i64 0] 50) (by simp)
  obtain ⟨w0, hw0⟩ : ∃ w0, w0 = (w.alloc (Obj.cells #[.int .i64 tx, .int .i64 mr, .int .i64 mn, vr, vp, vl, .int .i64 wn, vu, vg, vf, .int .i64 root] 50)).alloc (Obj.cells #[.int .i64 0, .int .i64 0, .int .i64 0, .slice none 0 0, .slice none 0 0, .slice none 0 0, .int .i64 0, .slice none 0 0, .slice none 0 0, .slice none 0 0, .int .i64 0] 50) := ⟨_, rfl⟩
  rw [World.size_alloc, ← hw0, ← ha0] at hS0
  have HB0 : Hid (Below w.heap.size w w0) := hide (by rw [hw0]; exact ((Below.refl w.heap.size w).alloc (Nat.le_refl _) _).alloc (by simp) _)
  have HZ0 : Hid (a0 ≤ w0.heap.size) := hide (by rw [hw0, ha0]; simp; omega)
  have HS0 := hide hS0
  have HA := hide ha0
  have HW := hide hw0
  clear hS0 ha0 hw0
  go_enter Tryz.func64, Tryz.ntmps64
  go_wp2_with fail
  rw [← HW.out, ← HA.out]
  obtain ⟨wd, hwd⟩ : ∃ wd, wd = w0.drew := ⟨_, rfl⟩
  have HSd := hide (sep_drew HS0.out)
  have HBd := hide (HB0.out.drew)
  have HZd : Hid (a0 ≤ w0.drew.heap.size) := HZ0
  rw [← hwd] at HSd HBd HZd
  have HM_wd : Hid (MetaAt wd _ m) := hide (meta_below HM0.out HBd.out)
  have HW_wd : Hid (WorkAt wd _ k) := hide (work_below HW0.out HBd.out)
  have HSw : Hid (∀ wx : World, wx.heap[a0]? = some (Obj.cells #[.int .i64 tx, .int .i64 mr, .int .i64 mn, vr, vp, vl, .int .i64 wn, vu, vg, vf, .int .i64 root] 50) → (fun wx => wx.cell? ⟨a0, 0, none⟩ = some (.int .i64 tx) ∧ wx.cell? ⟨a0, 1, none⟩ = some (.int .i64 mr) ∧ wx.cell? ⟨a0, 2, none⟩ = some (.int .i64 mn) ∧ wx.cell? ⟨a0, 3, none⟩ = some (vr) ∧ wx.cell? ⟨a0, 4, none⟩ = some (vp) ∧ wx.cell? ⟨a0, 5, none⟩ = some (vl) ∧ wx.cell? ⟨a0, 6, none⟩ = some (.int .i64 wn) ∧ wx.cell? ⟨a0, 7, none⟩ = some (vu) ∧ wx.cell? ⟨a0, 8, none⟩ = some (vg) ∧ wx.cell? ⟨a0, 9, none⟩ = some (vf) ∧ wx.cell? ⟨a0, 10, none⟩ = some (.int .i64 root)) wx) := hide (fun wx h => blk11c h)
  have hHeld := HSw.out wd (sep_get HSd.out 1 rfl)
  refine wp_region_held_drew (S := fun wx => wx.cell? ⟨a0, 0, none⟩ = some (.int .i64 tx) ∧ wx.cell? ⟨a0, 1, none⟩ = some (.int .i64 mr) ∧ wx.cell? ⟨a0, 2, none⟩ = some (.int .i64 mn) ∧ wx.cell? ⟨a0, 3, none⟩ = some (vr) ∧ wx.cell? ⟨a0, 4, none⟩ = some (vp) ∧ wx.cell? ⟨a0, 5, none⟩ = some (vl) ∧ wx.cell? ⟨a0, 6, none⟩ = some (.int .i64 wn) ∧ wx.cell? ⟨a0, 7, none⟩ = some (vu) ∧ wx.cell? ⟨a0, 8, none⟩ = some (vg) ∧ wx.cell? ⟨a0, 9, none⟩ = some (vf) ∧ wx.cell? ⟨a0, 10, none⟩ = some (.int .i64 root)) (by kernel_rfl) (by rw [← hwd]; exact hHeld) (fun _ => ?_)
  rw [← hwd]
  clear hwd
  refine takeW 0 3 ?_ rfl rfl (by kernel_rfl) (by kernel_rfl) (by kernel_rfl) (fun _ _ _ h => h) (Or.inl ⟨by rfl, ?_⟩) hHeld ?_
  rotate_left
  · (intro wx hSw; (try dsimp only at hSw); go_simp; try with_reducible rfl)
  simp only [List.setIfInBounds_toArray, List.set_cons_zero, List.set_cons_succ]
  refine takeW 1 4 ?_ rfl rfl (by kernel_rfl) (by kernel_rfl) (by kernel_rfl) (fun _ _ _ h => h) (Or.inl ⟨by rfl, ?_⟩) hHeld ?_
  rotate_left
  · (intro wx hSw; (try dsimp only at hSw); go_simp; try with_reducible rfl)
  simp only [List.setIfInBounds_toArray, List.set_cons_zero, List.set_cons_succ]
  refine takeW 3 6 ?_ rfl rfl (by kernel_rfl) (by kernel_rfl) (by kernel_rfl) (fun _ _ _ h => h) (Or.inl ⟨by rfl, ?_⟩) hHeld ?_
  rotate_left
  · (intro wx hSw; (try dsimp only at hSw); go_simp; try with_reducible rfl)
  simp only [List.setIfInBounds_toArray, List.set_cons_zero, List.set_cons_succ]
  refine takeW 4 7 ?_ rfl rfl (by kernel_rfl) (by kernel_rfl) (by kernel_rfl) (fun _ _ _ h => h) (Or.inl ⟨by rfl, ?_⟩) hHeld ?_
  rotate_left
  · (intro wx hSw; (try dsimp only at hSw); go_simp; try with_reducible rfl)
  simp only [List.setIfInBounds_toArray, List.set_cons_zero, List.set_cons_succ]
  refine takeW 6 9 ?_ rfl rfl (by kernel_rfl) (by kernel_rfl) (by kernel_rfl) (fun _ _ _ h => h) (Or.inl ⟨by rfl, ?_⟩) hHeld ?_
  rotate_left
  · (intro wx hSw; (try dsimp only at hSw); go_simp; try with_reducible rfl)
  simp only [List.setIfInBounds_toArray, List.set_cons_zero, List.set_cons_succ]
  refine takeW 7 10 ?_ rfl rfl (by kernel_rfl) (by kernel_rfl) (by kernel_rfl) (fun _ _ _ h => h) (Or.inl ⟨by rfl, ?_⟩) hHeld ?_
  rotate_left
  · (intro wx hSw; (try dsimp only at hSw); go_simp; try with_reducible rfl)
  simp only [List.setIfInBounds_toArray, List.set_cons_zero, List.set_cons_succ]
  refine wpAnyH_ready (rs := [2]) (by kernel_rfl) (by simp) ?_
  refine AllReadyH.cons rfl (fun K hK => ?_) AllReadyH.nil
  refine step_call1 wd ?_ 62 Tryz.f62 Tryz.func62 ?_ ?_ (.tmp 4) #[45] ?_ (.agg #[.int .i64 tx, .int .i64 mr, .int .i64 mn, vr]) ?_ _ (HMc.out _ wd HM_wd.out) ?_
  · exact rfl
  · decide
  · exact Option.some_ne_none _
  · exact rfl
  · exact rfl
  rintro e w1 ⟨v1, rfl, hm1, hb1⟩
  refine ⟨_, rfl, ?_⟩
  obtain ⟨xr, lr, e1, ho1⟩ := hm1
  obtain ⟨p1, q1, rfl⟩ := own_slice ho1.1
  rw [HL.out.1, HL.out.2.1, HL.out.2.2.1] at e1
  subst e1
  have HS1 := hide (sep_add HSd.out hb1 (freesA a0 (.slice p1 m.fs.length q1) lr m.fs) (ownF_down ho1 HZd.out) (fun j hj => ownF_lt ho1 j hj) HZd.out)
  have HB1 : Hid (Below w.heap.size w w1) := hide (HBd.out.trans (hb1.mono HBd.out.size))
  have HZ1 : Hid (a0 ≤ w1.heap.size) := hide (Nat.le_trans HZd.out hb1.size)
  have hS_w1 := HSw.out w1 (sep_get HS1.out 2 rfl)
  have HM_w1 : Hid (MetaAt w1 _ m) := hide (meta_below HM_wd.out hb1)
  have HW_w1 : Hid (WorkAt w1 _ k) := hide (work_below HW_wd.out hb1)
  refine hK.out (Act.put _ (some 5) _) _ hS_w1 (fun _ => ?_)
  clear hK K hb1 ho1
  simp only [Act.put, List.setIfInBounds_toArray, List.set_cons_zero, List.set_cons_succ]
  refine wpAnyH_ready (rs := [5]) (by kernel_rfl) (by simp) ?_
  refine AllReadyH.cons rfl (fun K hK => ?_) AllReadyH.nil
  refine step_call1 w1 ?_ 89 Tryz.f89 Tryz.func89 ?_ ?_ (.tmp 7) #[48] ?_ (.agg #[vp, vl, .int .i64 wn, vu, vg, vf]) ?_ _ (HC.out _ w1 HW_w1.out) ?_
  · exact rfl
  · decide
  · exact Option.some_ne_none _
  · exact rfl
  · exact rfl
  rintro e w2 ⟨v2, rfl, hw2, hb2⟩
  refine ⟨_, rfl, ?_⟩
  have hn2 := nw_own hw2
  obtain ⟨p2, q2, p3, q3, p4, q4, p5, q5, p6, q6, e2⟩ := nw_form hw2
  rw [HL.out.2.2.2] at e2
  subst e2
  have HS2 := hide (sep_add HS1.out hb2 (workA a0 (.agg #[.slice p2 k.ps.length q2, .slice p3 k.ls.length q3, .int .i64 wn, .slice p4 k.us.length q4, .slice p5 k.gs.length q5, .slice p6 k.fs.length q6]) k) (workOwn_down hn2 HZ1.out) (fun j hj => workOwn_lt hn2 j hj) HZ1.out)
  have HB2 : Hid (Below w.heap.size w w2) := hide (HB1.out.trans (hb2.mono HB1.out.size))
  have HZ2 : Hid (a0 ≤ w2.heap.size) := hide (Nat.le_trans HZ1.out hb2.size)
  have hS_w2 := HSw.out w2 (sep_get HS2.out 3 rfl)
  have HM_w2 : Hid (MetaAt w2 _ m) := hide (meta_below HM_w1.out hb2)
  have HW_w2 : Hid (WorkAt w2 _ k) := hide (work_below HW_w1.out hb2)
  refine hK.out (Act.put _ (some 8) _) _ hS_w2 (fun _ => ?_)
  clear hK K hb2 hn2 hw2
  simp only [Act.put, List.setIfInBounds_toArray, List.set_cons_zero, List.set_cons_succ]
  refine takeW 8 11 ?_ rfl rfl (by kernel_rfl) (by kernel_rfl) (by kernel_rfl) (fun _ _ _ h => h) (Or.inl ⟨by rfl, ?_⟩) hS_w2 ?_
  rotate_left
  · (intro wx hSw; (try dsimp only at hSw); go_simp; try with_reducible rfl)
  simp only [List.setIfInBounds_toArray, List.set_cons_zero, List.set_cons_succ]
  have hs3 := sep_store11 HS2.out 2 rfl (.int .i64 tx) (.int .i64 mr) (.int .i64 mn) (.slice p1 m.fs.length q1) (.slice p2 k.ps.length q2) (.slice p3 k.ls.length q3) (.int .i64 wn) (.slice p4 k.us.length q4) (.slice p5 k.gs.length q5) (.slice p6 k.fs.length q6) (.int .i64 root)
  obtain ⟨y0, y1, y2, y3, y4, y5, y6, y7, y8, y9, y10⟩ := blk11c (sep_get HS2.out 2 rfl : w2.heap[a0 + 1]? = some (Obj.cells #[.int .i64 0, .int .i64 0, .int .i64 0, .slice none 0 0, .slice none 0 0, .slice none 0 0, .int .i64 0, .slice none 0 0, .slice none 0 0, .slice none 0 0, .int .i64 0] 50))
  obtain ⟨z0, z1, z2, z3, z4, z5, z6, z7, z8, z9, z10⟩ := blk11z (sep_get HS2.out 2 rfl : w2.heap[a0 + 1]? = some (Obj.cells #[.int .i64 0, .int .i64 0, .int .i64 0, .slice none 0 0, .slice none 0 0, .slice none 0 0, .int .i64 0, .slice none 0 0, .slice none 0 0, .slice none 0 0, .int .i64 0] 50))
  have hSF := HSw.out _ (sep_get hs3 3 rfl)
  have HS3 := hide hs3
  have HB3 := hide (below_set11 (g := a0 + 1) HB2.out (by have := HA.out; omega) (.int .i64 tx) (.int .i64 mr) (.int .i64 mn) (.slice p1 m.fs.length q1) (.slice p2 k.ps.length q2) (.slice p3 k.ls.length q3) (.int .i64 wn) (.slice p4 k.us.length q4) (.slice p5 k.gs.length q5) (.slice p6 k.fs.length q6) (.int .i64 root))
  clear hs3
  refine wpAnyH_ready (rs := [9]) (by kernel_rfl) (by simp) ?_
  refine AllReadyH.cons rfl (fun K hK => ?_) AllReadyH.nil
  go_simp
  refine hK.out _ _ hSF (fun _ => ?_)
  clear hK K
  refine wpAnyH_done (by kernel_rfl) ?_ _
  clear y0 y1 y2 y3 y4 y5 y6 y7 y8 y9 y10 z0 z1 z2 z3 z4 z5 z6 z7 z8 z9 z10 hSF
  go_wp2_with fail
  obtain ⟨y0, y1, y2, y3, y4, y5, y6, y7, y8, y9, y10⟩ := blk11c (sep_get HS3.out 2 rfl : (set11 w2 (a0 + 1) (.int .i64 tx) (.int .i64 mr) (.int .i64 mn) (.slice p1 m.fs.length q1) (.slice p2 k.ps.length q2) (.slice p3 k.ls.length q3) (.int .i64 wn) (.slice p4 k.us.length q4) (.slice p5 k.gs.length q5) (.slice p6 k.fs.length q6) (.int .i64 root)).heap[a0 + 1]? = some (Obj.cells #[.int .i64 tx, .int .i64 mr, .int .i64 mn, .slice p1 m.fs.length q1, .slice p2 k.ps.length q2, .slice p3 k.ls.length q3, .int .i64 wn, .slice p4 k.us.length q4, .slice p5 k.gs.length q5, .slice p6 k.fs.length q6, .int .i64 root] 50))
  refine bodyPost_ret (v := .agg #[.int .i64 tx, .int .i64 mr, .int .i64 mn, .slice p1 m.fs.length q1, .slice p2 k.ps.length q2, .slice p3 k.ls.length q3, .int .i64 wn, .slice p4 k.us.length q4, .slice p5 k.gs.length q5, .slice p6 k.fs.length q6, .int .i64 root]) (by simp [results, Tryz.results64, go_sem, y0, y1, y2, y3, y4, y5, y6, y7, y8, y9, y10]) rfl ⟨_, rfl, ?_, HB3.out⟩
  refine ⟨lr, p1, q1, p2, q2, p3, q3, p4, q4, p5, q5, p6, q6, by rw [HL.out.1, HL.out.2.1, HL.out.2.2.1, HL.out.2.2.2], ?_⟩
  rw [HL.out.2.2.2]
  have h := sep_pick (pre := [_, _, _, _]) (rest := []) HS3.out [1, 0] (by decide) [_, _] rfl
  rw [HA.out] at h ⊢
  exact h
end Go.Proofs.YtbokjfjdjgopeaaGreatDoor
