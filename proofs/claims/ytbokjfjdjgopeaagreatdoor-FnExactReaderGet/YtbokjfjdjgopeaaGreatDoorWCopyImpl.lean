/-
  impl.copyWork by a contract: the same work, in memory of its own.
-/
import Derived.Test.YtbokjfjdjgopeaaGreatDoorRgC
import Derived.Test.YtbokjfjdjgopeaaGreatDoorImplCopyN
import Derived.Test.YtbokjfjdjgopeaaGreatDoorRgD
namespace Go.Proofs.YtbokjfjdjgopeaaGreatDoor
open Go.RowKit

set_option maxHeartbeats 16000000 in
set_option maxRecDepth 100000 in
theorem implWCopy_any (v : Value) (k : Wk) (hk : k.small) (w : World) (hd : WorkAt w v k) :
    Calls Tryz.prog 89 #[v] w fun e w' => ∃ v', e = .returned v' ∧ WorkNw w' w.heap.size v' k ∧ Below w.heap.size w w' := by
  obtain ⟨s1, s2, s3, s4, s5, s6, s7⟩ := hk
  have HC := hide (fun vp vl wx h => implCopy_any (.agg #[vp, vl]) k.ps k.ls s1 s3 s2 s4 wx h)
  have HS := hide (⟨s1, s3, s5, s6, s7⟩ : k.ps.length ≤ 1048576 ∧ k.ls.length ≤ 1048576 ∧ k.us.length ≤ 2000000 ∧ k.gs.length ≤ 2000000 ∧ k.fs.length ≤ 2000000)
  clear s1 s2 s3 s4 s5 s6 s7
  obtain ⟨vp, vl, vu, vg, vf, rfl, h1, h2, h3, h4, -⟩ := hd
  have HD := hide h1
  have HU := hide h2
  have HG := hide h3
  have HF := hide h4
  clear h1 h2 h3 h4
  obtain ⟨nx, hnx⟩ : ∃ n, n = k.next := ⟨_, rfl⟩
  rw [← hnx]
  have HNx := hide hnx
  clear hnx
  obtain ⟨w0, hw0⟩ : ∃ w0, w0 = (w.alloc (Obj.cells #[vp, vl, .int .i64 nx, vu, vg, vf] 48)).alloc (Obj.cells #[.slice none 0 0, .slice none 0 0, .int .i64 0, .slice none 0 0, .slice none 0 0, .slice none 0 0] 48) := ⟨_, rfl⟩
  have hb0 : Below w.heap.size w w0 := by rw [hw0]; exact ((Below.refl w.heap.size w).alloc (Nat.le_refl _) _).alloc (by simp) _
  obtain ⟨q0, q1, hs0⟩ := two_allocs w (Obj.cells #[vp, vl, .int .i64 nx, vu, vg, vf] 48) (Obj.cells #[.slice none 0 0, .slice none 0 0, .int .i64 0, .slice none 0 0, .slice none 0 0, .slice none 0 0] 48)
  rw [← hw0] at q0 q1 hs0
  obtain ⟨a0, ha0⟩ : ∃ a, a = w.heap.size := ⟨_, rfl⟩
  rw [← ha0] at q0 q1 hs0
  have hcs0 : CS w a0 (Obj.cells #[vp, vl, .int .i64 nx, vu, vg, vf] 48) (Obj.cells #[.slice none 0 0, .slice none 0 0, .int .i64 0, .slice none 0 0, .slice none 0 0, .slice none 0 0] 48) k.ps k.ls w0 (fun y => y < 0) [] [] :=
    ⟨ha0, hb0, q0, q1, fun g hg => absurd hg (by omega), fun r hr => (by cases hr), List.Pairwise.nil, fun v hv => (by cases hv)⟩
  go_enter Tryz.func89, Tryz.ntmps89
  go_wp2_with fail
  rw [← hw0, ← ha0]
  clear ha0 hw0 hs0 hb0 q0 q1
  refine wp_region_held_drew (S := fun wx => wx.cell? ⟨a0, 0, none⟩ = some vp ∧ wx.cell? ⟨a0, 1, none⟩ = some vl ∧ wx.cell? ⟨a0, 2, none⟩ = some (.int .i64 nx) ∧ wx.cell? ⟨a0, 3, none⟩ = some vu ∧ wx.cell? ⟨a0, 4, none⟩ = some vg ∧ wx.cell? ⟨a0, 5, none⟩ = some vf) (by kernel_rfl) (cs_cells (cs_drew hcs0)) (fun hHeld => ?_)
  refine takeW 0 3 ?_ rfl rfl (by kernel_rfl) (by kernel_rfl) (by kernel_rfl) (fun _ _ _ h => h) (Or.inl ⟨by rfl, ?_⟩) hHeld ?_
  rotate_left
  · (intro wx hSw; (try dsimp only at hSw); go_simp; try with_reducible rfl)
  simp only [List.setIfInBounds_toArray, List.set_cons_zero, List.set_cons_succ]
  refine takeW 1 4 ?_ rfl rfl (by kernel_rfl) (by kernel_rfl) (by kernel_rfl) (fun _ _ _ h => h) (Or.inl ⟨by rfl, ?_⟩) hHeld ?_
  rotate_left
  · (intro wx hSw; (try dsimp only at hSw); go_simp; try with_reducible rfl)
  simp only [List.setIfInBounds_toArray, List.set_cons_zero, List.set_cons_succ]
  refine takeW 3 6 ?_ rfl rfl (by kernel_rfl) (by kernel_rfl) (by kernel_rfl) (fun _ _ _ h => h) (Or.inl ⟨by rfl, ?_⟩) hHeld ?_
  rotate_left
  · (intro wx hSw; (try dsimp only at hSw); go_simp; try with_reducible rfl)
  simp only [List.setIfInBounds_toArray, List.set_cons_zero, List.set_cons_succ]
  refine takeW 4 7 ?_ rfl rfl (by kernel_rfl) (by kernel_rfl) (by kernel_rfl) (fun _ _ _ h => h) (Or.inl ⟨by rfl, ?_⟩) hHeld ?_
  rotate_left
  · (intro wx hSw; (try dsimp only at hSw); go_simp; try with_reducible rfl)
  simp only [List.setIfInBounds_toArray, List.set_cons_zero, List.set_cons_succ]
  refine takeW 6 9 ?_ rfl rfl (by kernel_rfl) (by kernel_rfl) (by kernel_rfl) (fun _ _ _ h => h) (Or.inl ⟨by rfl, ?_⟩) hHeld ?_
  rotate_left
  · (intro wx hSw; (try dsimp only at hSw); go_simp; try with_reducible rfl)
  simp only [List.setIfInBounds_toArray, List.set_cons_zero, List.set_cons_succ]
  refine takeW 7 10 ?_ rfl rfl (by kernel_rfl) (by kernel_rfl) (by kernel_rfl) (fun _ _ _ h => h) (Or.inl ⟨by rfl, ?_⟩) hHeld ?_
  rotate_left
  · (intro wx hSw; (try dsimp only at hSw); go_simp; try with_reducible rfl)
  simp only [List.setIfInBounds_toArray, List.set_cons_zero, List.set_cons_succ]
  refine takeW 10 13 ?_ rfl rfl (by kernel_rfl) (by kernel_rfl) (by kernel_rfl) (fun _ _ _ h => h) (Or.inl ⟨by rfl, ?_⟩) hHeld ?_
  rotate_left
  · (intro wx hSw; (try dsimp only at hSw); go_simp; try with_reducible rfl)
  simp only [List.setIfInBounds_toArray, List.set_cons_zero, List.set_cons_succ]
  refine takeW 11 14 ?_ rfl rfl (by kernel_rfl) (by kernel_rfl) (by kernel_rfl) (fun _ _ _ h => h) (Or.inl ⟨by rfl, ?_⟩) hHeld ?_
  rotate_left
  · (intro wx hSw; (try dsimp only at hSw); go_simp; try with_reducible rfl)
  simp only [List.setIfInBounds_toArray, List.set_cons_zero, List.set_cons_succ]
  refine takeW 14 17 ?_ rfl rfl (by kernel_rfl) (by kernel_rfl) (by kernel_rfl) (fun _ _ _ h => h) (Or.inl ⟨by rfl, ?_⟩) hHeld ?_
  rotate_left
  · (intro wx hSw; (try dsimp only at hSw); go_simp; try with_reducible rfl)
  simp only [List.setIfInBounds_toArray, List.set_cons_zero, List.set_cons_succ]
  refine takeW 15 18 ?_ rfl rfl (by kernel_rfl) (by kernel_rfl) (by kernel_rfl) (fun _ _ _ h => h) (Or.inl ⟨by rfl, ?_⟩) hHeld ?_
  rotate_left
  · (intro wx hSw; (try dsimp only at hSw); go_simp; try with_reducible rfl)
  simp only [List.setIfInBounds_toArray, List.set_cons_zero, List.set_cons_succ]
  refine copy_walk (us := k.us) (gs := k.gs) (fs := k.fs) ⟨_, _, _, _, _, _, _, _, _, _, _, _, _, _⟩ HS.out.2.2.1 HS.out.2.2.2.1 HS.out.2.2.2.2 (fun _ _ _ _ h => cs_cells h) 63 Tryz.f63 Tryz.func63 (by decide) (Option.some_ne_none _) #[42] (HC.out vp vl) HD.out HU.out HG.out HF.out rfl rfl rfl rfl rfl rfl rfl rfl rfl rfl rfl rfl rfl rfl rfl rfl rfl rfl rfl rfl rfl rfl rfl rfl rfl rfl rfl rfl (by kernel_rfl) (by kernel_rfl) (by kernel_rfl) (by kernel_rfl) (by kernel_rfl) (by kernel_rfl) (by kernel_rfl) (by kernel_rfl) (by kernel_rfl) (by kernel_rfl) (by kernel_rfl) (by kernel_rfl) (by kernel_rfl) (by kernel_rfl) (by kernel_rfl) (by kernel_rfl) (by kernel_rfl) (by kernel_rfl) (by kernel_rfl) (by kernel_rfl) (by kernel_rfl) (by kernel_rfl) ?_ _ (cs_drew hcs0)
  intro W Em x1 p1 y1 p2 te1 b1 q1 te2 b2 q2 te3 b3 q3 hcs
  have hHeld2 := cs_cells hcs
  refine takeW 17 20 ?_ rfl rfl (by kernel_rfl) (by kernel_rfl) (by kernel_rfl) (fun _ _ _ h => h) (Or.inl ⟨by rfl, ?_⟩) hHeld2 ?_
  rotate_left
  · (intro wx hSw; (try dsimp only at hSw); go_simp; try with_reducible rfl)
  simp only [List.setIfInBounds_toArray, List.set_cons_zero, List.set_cons_succ]
  have hwk := cs_work (k := k) hcs
  rw [← HNx.out] at hwk
  have hret := ret_nw hcs.res hwk (by omega) (by have := hcs.n0e; omega) hcs.low
  obtain ⟨⟨r0, r1, r2, r3, r4, r5⟩, z0, z1, z2, z3, z4, z5⟩ := cs_res hcs
  obtain ⟨f0, f1, f2, f3, f4, f5⟩ := blk6c hret.1
  have HR := hide hret
  have HCs := hide hcs
  clear hret hwk hcs hHeld hcs0
  refine wpAnyH_ready (rs := [18]) (by kernel_rfl) (by simp) ?_
  refine AllReadyH.cons rfl (fun K hK => ?_) AllReadyH.nil
  go_simp
  refine hK.out _ _ (cs_cells6 HCs.out) (fun _ => ?_)
  refine wpAnyH_done (by kernel_rfl) ?_ _
  go_wp2_with fail
  refine bodyPost_ret (v := .agg #[.slice x1 k.ps.length p1, .slice y1 k.ls.length p2, .int .i64 nx, .slice (some ⟨b1, 0, none⟩) k.us.length q1, .slice (some ⟨b2, 0, none⟩) k.gs.length q2, .slice (some ⟨b3, 0, none⟩) k.fs.length q3]) (by simp [results, Tryz.results89, go_sem, f0, f1, f2, f3, f4, f5]) rfl ⟨_, rfl, HR.out.2.1, HR.out.2.2⟩
end Go.Proofs.YtbokjfjdjgopeaaGreatDoor
