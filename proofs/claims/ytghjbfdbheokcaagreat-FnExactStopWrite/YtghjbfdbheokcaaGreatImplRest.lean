/-
  (*impl.hall).rest and (*impl.hall).stop by contracts: the hall's cells behind them (made by tools/implrest.py).
-/
import Derived.Test.YtghjbfdbheokcaaGreatImplSCopy
import Derived.Test.YtghjbfdbheokcaaGreatSwH
import Derived.Test.YtghjbfdbheokcaaGreatSwF
namespace Go.Proofs.YtghjbfdbheokcaaGreat
open Go.RowKit

/-- a struct that is loaded in a region that draws its order -/
theorem step_loadL {P : Program} {ops : Array Oper} {o : Oper} {a : Act} {K : Act → World → Prop} {Q : Exit → Act → World → Prop} {E : Prop} {W : World} (hgd : o.guard = none) (ty : TypeId) (x : Operand) (ho : o.op = .load ty x) (b off : Nat) (hx : a.eval x = .pointer (some ⟨b, off, none⟩)) (cs : Array Value) (hc : W.rangeAt b off cs.toList) (d : TypeDesc) (hu : P.underlying ty = some d) (hd : d.isRow = true) (hi : (P.info? ty).map (·.size) = some cs.size)
    (hK : K (a.put o.dst (.agg cs)) W) : if Region.wanted o (yielded ops a.tmps) = true then Oper.wp P o a W K Q else E := by
  have hw : Region.wanted o (yielded ops a.tmps) = true := by simp [Region.wanted, hgd]
  rw [if_pos hw]
  have hy := yields_loadL (S := fun w => w = W) (ops := ops) hw ty x ho b off hx cs d (fun w e => by rw [e]; exact hc) hu hd hi
  rcases hy with ⟨-, h⟩ | ⟨h, -⟩
  · have h2 := h W rfl
    unfold Oper.wp
    rw [h2]
    exact hK
  · rw [hw] at h
    cases h

set_option maxHeartbeats 8000000 in
set_option maxRecDepth 100000 in
theorem implRest_any (B gh : Nat) (m0 m1 c0 c1 c2 c3 c4 c5 c6 c7 c8 c9 c10 c11 c12 c13 c14 c15 c16 c17 c18 c19 mp d0 d1 u0 u1 u2 u3 : Value) (rest : List Ast) (w : World) (h : Sep B w (cellA gh (Obj.cells #[m0, m1, c0, c1, c2, c3, c4, c5, c6, c7, c8, c9, c10, c11, c12, c13, c14, c15, c16, c17, c18, c19, mp] 80) :: rest)) (hB : B ≤ w.heap.size)
    (ho : d0.oneCell' = true ∧ d1.oneCell' = true ∧ u0.oneCell' = true ∧ u1.oneCell' = true ∧ u2.oneCell' = true ∧ u3.oneCell' = true) :
    Calls Tryz.prog 54 #[.pointer (some ⟨gh, 0, none⟩), .agg #[d0, d1], .agg #[u0, u1, u2, u3]] w fun e w' => e = .returned (.tuple #[]) ∧ Sep B w' (cellA gh (Obj.cells #[m0, m1, d0, d1, u0, u1, u2, u3, c6, .int .i64 0, .int .i64 0, .int .i64 0, .slice none 0 0, .slice none 0 0, .slice none 0 0, .int .i64 0, .slice none 0 0, .slice none 0 0, .slice none 0 0, .int .i64 0, .bool false, .bool false, mp] 80) :: rest) ∧ Below B w w' := by
  have HO := hide ho
  have HGh : Hid (B ≤ gh) := hide (sep_lt h 0 rfl gh rfl).1
  obtain ⟨gd, hgd⟩ : ∃ g, g = w.heap.size := ⟨_, rfl⟩
  obtain ⟨ge, hge⟩ : ∃ g, g = w.heap.size + 1 := ⟨_, rfl⟩
  have hS0 := sep_new (sep_new h (Obj.cells #[d0, d1] 40) hB) (Obj.cells #[u0, u1, u2, u3] 43) (by simp; omega)
  obtain ⟨w0, hw0⟩ : ∃ w0, w0 = (w.alloc (Obj.cells #[d0, d1] 40)).alloc (Obj.cells #[u0, u1, u2, u3] 43) := ⟨_, rfl⟩
  rw [World.size_alloc, ← hw0, ← hge, ← hgd] at hS0
  have HS_w0 := hide hS0
  have HB_w0 : Hid (Below B w w0) := hide (by rw [hw0]; exact ((Below.refl B w).alloc hB _).alloc (by simp; omega) _)
  have HZ_w0 : Hid (B ≤ w0.heap.size) := hide (by rw [hw0]; simp; omega)
  clear hS0 h ho
  go_enter Tryz.func54, Tryz.ntmps54
  go_upto_region 1 with fail
  rw [← hge, ← hgd, ← hw0]
  clear hw0 hge hgd
  obtain ⟨wd, hwd⟩ : ∃ wd, wd = w0.drew := ⟨_, rfl⟩
  have HS_wd := hide (sep_drew HS_w0.out)
  have HB_wd := hide HB_w0.out.drew
  have HZ_wd : Hid (B ≤ w0.drew.heap.size) := HZ_w0
  rw [← hwd] at HS_wd HB_wd HZ_wd
  have hS_wd : (fun wx => wx.heap[gd]? = some (Obj.cells #[d0, d1] 40) ∧ wx.heap[ge]? = some (Obj.cells #[u0, u1, u2, u3] 43)) wd := ⟨sep_get HS_wd.out 1 rfl, sep_get HS_wd.out 0 rfl⟩
  refine wp_region_held_drew (S := fun wx => wx.heap[gd]? = some (Obj.cells #[d0, d1] 40) ∧ wx.heap[ge]? = some (Obj.cells #[u0, u1, u2, u3] 43)) (by kernel_rfl) (by rw [← hwd]; exact hS_wd) (fun _ => ?_)
  rw [← hwd]
  clear hwd
  refine takeW 0 6 ?_ rfl rfl (by kernel_rfl) (by kernel_rfl) (by kernel_rfl) (fun _ _ _ h => h) (Or.inl ⟨by rfl, ?_⟩) hS_wd ?_
  rotate_left
  · (intro wx hSw; (try dsimp only at hSw); go_simp; try with_reducible rfl)
  simp only [List.setIfInBounds_toArray, List.set_cons_zero, List.set_cons_succ]
  refine takeW 1 7 ?_ rfl rfl (by kernel_rfl) (by kernel_rfl) (by kernel_rfl) (fun _ _ _ h => h) (Or.inl ⟨by rfl, ?_⟩) hS_wd ?_
  rotate_left
  · (intro wx hSw; (try dsimp only at hSw); go_simp; try with_reducible rfl)
  simp only [List.setIfInBounds_toArray, List.set_cons_zero, List.set_cons_succ]
  refine takeW 2 8 (.agg #[d0, d1]) rfl rfl (by kernel_rfl) (by kernel_rfl) (by kernel_rfl) (fun _ _ _ h => h) (yields_loadL (by rfl) 40 (.tmp 4) rfl gd 0 rfl #[d0, d1] _ (fun _ h => range_of h.1 0 2) Tryz.underlying40 rfl Tryz.sizeDiskI) hS_wd ?_
  simp only [List.setIfInBounds_toArray, List.set_cons_zero, List.set_cons_succ]
  refine takeW 3 9 (.agg #[u0, u1, u2, u3]) rfl rfl (by kernel_rfl) (by kernel_rfl) (by kernel_rfl) (fun _ _ _ h => h) (yields_loadL (by rfl) 43 (.tmp 5) rfl ge 0 rfl #[u0, u1, u2, u3] _ (fun _ h => range_of h.2 0 4) Tryz.underlying43 rfl Tryz.sizeMetaI) hS_wd ?_
  simp only [List.setIfInBounds_toArray, List.set_cons_zero, List.set_cons_succ]
  refine takeW 4 10 ?_ rfl rfl (by kernel_rfl) (by kernel_rfl) (by kernel_rfl) (fun _ _ _ h => h) (Or.inl ⟨by rfl, ?_⟩) hS_wd ?_
  rotate_left
  · (intro wx hSw; (try dsimp only at hSw); go_simp; try with_reducible rfl)
  simp only [List.setIfInBounds_toArray, List.set_cons_zero, List.set_cons_succ]
  refine takeW 5 11 ?_ rfl rfl (by kernel_rfl) (by kernel_rfl) (by kernel_rfl) (fun _ _ _ h => h) (Or.inl ⟨by rfl, ?_⟩) hS_wd ?_
  rotate_left
  · (intro wx hSw; (try dsimp only at hSw); go_simp; try with_reducible rfl)
  simp only [List.setIfInBounds_toArray, List.set_cons_zero, List.set_cons_succ]
  refine takeW 6 12 ?_ rfl rfl (by kernel_rfl) (by kernel_rfl) (by kernel_rfl) (fun _ _ _ h => h) (Or.inl ⟨by rfl, ?_⟩) hS_wd ?_
  rotate_left
  · (intro wx hSw; (try dsimp only at hSw); go_simp; try with_reducible rfl)
  simp only [List.setIfInBounds_toArray, List.set_cons_zero, List.set_cons_succ]
  refine wpAnyH_ready (rs := [7]) (by kernel_rfl) (by simp) ?_
  refine AllReadyH.cons rfl (fun K hK => ?_) AllReadyH.nil
  obtain ⟨w1, hN⟩ : ∃ wx, wx = wd.setCells gh 2 (#[d0, d1] : Array Value).toList := ⟨_, rfl⟩
  have hsN : Sep B w1 (cellA ge (Obj.cells #[u0, u1, u2, u3] 43) :: cellA gd (Obj.cells #[d0, d1] 40) :: cellA gh (Obj.cells #[m0, m1, d0, d1, c2, c3, c4, c5, c6, c7, c8, c9, c10, c11, c12, c13, c14, c15, c16, c17, c18, c19, mp] 80) :: rest) := by rw [hN]; exact sep_cellsTo HS_wd.out 2 rfl 2 (#[d0, d1] : Array Value).toList #[m0, m1, d0, d1, c2, c3, c4, c5, c6, c7, c8, c9, c10, c11, c12, c13, c14, c15, c16, c17, c18, c19, mp] (by kernel_rfl)
  have hbN : Below B w w1 := by rw [hN]; exact below_cells HGh.out _ 2 wd HB_wd.out
  have hzN : B ≤ w1.heap.size := by rw [hN, size_cells]; exact HZ_wd.out
  have hS_w1 : (fun wx => wx.heap[gd]? = some (Obj.cells #[d0, d1] 40) ∧ wx.heap[ge]? = some (Obj.cells #[u0, u1, u2, u3] 43)) w1 := ⟨sep_get hsN 1 rfl, sep_get hsN 0 rfl⟩
  have hth : wd.there gh 2 (#[d0, d1] : Array Value).size := there_of (sep_get HS_wd.out 2 rfl : wd.heap[gh]? = some (Obj.cells #[m0, m1, c0, c1, c2, c3, c4, c5, c6, c7, c8, c9, c10, c11, c12, c13, c14, c15, c16, c17, c18, c19, mp] 80)) 2 2 (show 2 + 2 ≤ 23 by decide)
  refine step_storeL ?_ 40 (.tmp 12) (.tmp 8) ?_ gh 2 #[d0, d1] ?_ ?_ hth ?_ ?_ hN.symm ?_
  · exact rfl
  · exact rfl
  · exact rfl
  · exact rfl
  · exact Tryz.sizeDiskI
  · show (d0.oneCell' && (d1.oneCell' && true)) = true; rw [HO.out.1, HO.out.2.1]; rfl
  have HS_w1 := hide hsN
  have HB_w1 := hide hbN
  have HZ_w1 := hide hzN
  clear hth hsN hbN hzN hN
  refine hK.out (Act.put _ none _) _ hS_w1 (fun _ => ?_)
  clear hK K
  simp only [Act.put]
  refine takeW 8 13 ?_ rfl rfl (by kernel_rfl) (by kernel_rfl) (by kernel_rfl) (fun _ _ _ h => h) (Or.inl ⟨by rfl, ?_⟩) hS_w1 ?_
  rotate_left
  · (intro wx hSw; (try dsimp only at hSw); go_simp; try with_reducible rfl)
  simp only [List.setIfInBounds_toArray, List.set_cons_zero, List.set_cons_succ]
  refine takeW 9 14 ?_ rfl rfl (by kernel_rfl) (by kernel_rfl) (by kernel_rfl) (fun _ _ _ h => h) (Or.inl ⟨by rfl, ?_⟩) hS_w1 ?_
  rotate_left
  · (intro wx hSw; (try dsimp only at hSw); go_simp; try with_reducible rfl)
  simp only [List.setIfInBounds_toArray, List.set_cons_zero, List.set_cons_succ]
  refine takeW 10 15 ?_ rfl rfl (by kernel_rfl) (by kernel_rfl) (by kernel_rfl) (fun _ _ _ h => h) (Or.inl ⟨by rfl, ?_⟩) hS_w1 ?_
  rotate_left
  · (intro wx hSw; (try dsimp only at hSw); go_simp; try with_reducible rfl)
  simp only [List.setIfInBounds_toArray, List.set_cons_zero, List.set_cons_succ]
  refine wpAnyH_ready (rs := [11]) (by kernel_rfl) (by simp) ?_
  refine AllReadyH.cons rfl (fun K hK => ?_) AllReadyH.nil
  obtain ⟨w2, hN⟩ : ∃ wx, wx = w1.setCells gh 4 (#[u0, u1, u2, u3] : Array Value).toList := ⟨_, rfl⟩
  have hsN : Sep B w2 (cellA ge (Obj.cells #[u0, u1, u2, u3] 43) :: cellA gd (Obj.cells #[d0, d1] 40) :: cellA gh (Obj.cells #[m0, m1, d0, d1, u0, u1, u2, u3, c6, c7, c8, c9, c10, c11, c12, c13, c14, c15, c16, c17, c18, c19, mp] 80) :: rest) := by rw [hN]; exact sep_cellsTo HS_w1.out 2 rfl 4 (#[u0, u1, u2, u3] : Array Value).toList #[m0, m1, d0, d1, u0, u1, u2, u3, c6, c7, c8, c9, c10, c11, c12, c13, c14, c15, c16, c17, c18, c19, mp] (by kernel_rfl)
  have hbN : Below B w w2 := by rw [hN]; exact below_cells HGh.out _ 4 w1 HB_w1.out
  have hzN : B ≤ w2.heap.size := by rw [hN, size_cells]; exact HZ_w1.out
  have hS_w2 : (fun wx => wx.heap[gd]? = some (Obj.cells #[d0, d1] 40) ∧ wx.heap[ge]? = some (Obj.cells #[u0, u1, u2, u3] 43)) w2 := ⟨sep_get hsN 1 rfl, sep_get hsN 0 rfl⟩
  have hth : w1.there gh 4 (#[u0, u1, u2, u3] : Array Value).size := there_of (sep_get HS_w1.out 2 rfl : w1.heap[gh]? = some (Obj.cells #[m0, m1, d0, d1, c2, c3, c4, c5, c6, c7, c8, c9, c10, c11, c12, c13, c14, c15, c16, c17, c18, c19, mp] 80)) 4 4 (show 4 + 4 ≤ 23 by decide)
  refine step_storeL ?_ 43 (.tmp 15) (.tmp 9) ?_ gh 4 #[u0, u1, u2, u3] ?_ ?_ hth ?_ ?_ hN.symm ?_
  · exact rfl
  · exact rfl
  · exact rfl
  · exact rfl
  · exact Tryz.sizeMetaI
  · show (u0.oneCell' && (u1.oneCell' && (u2.oneCell' && (u3.oneCell' && true)))) = true; rw [HO.out.2.2.1, HO.out.2.2.2.1, HO.out.2.2.2.2.1, HO.out.2.2.2.2.2]; rfl
  have HS_w2 := hide hsN
  have HB_w2 := hide hbN
  have HZ_w2 := hide hzN
  clear hth hsN hbN hzN hN
  refine hK.out (Act.put _ none _) _ hS_w2 (fun _ => ?_)
  clear hK K
  simp only [Act.put]
  refine wpAnyH_done (by kernel_rfl) ?_ _
  clear hS_wd hS_w1 hS_w2
  obtain ⟨w3, hN⟩ : ∃ wx, wx = w2.setCells gh 9 (#[.int .i64 0, .int .i64 0, .int .i64 0, .slice none 0 0, .slice none 0 0, .slice none 0 0, .int .i64 0, .slice none 0 0, .slice none 0 0, .slice none 0 0, .int .i64 0] : Array Value).toList := ⟨_, rfl⟩
  have HS_w3 : Hid (Sep B w3 (cellA ge (Obj.cells #[u0, u1, u2, u3] 43) :: cellA gd (Obj.cells #[d0, d1] 40) :: cellA gh (Obj.cells #[m0, m1, d0, d1, u0, u1, u2, u3, c6, .int .i64 0, .int .i64 0, .int .i64 0, .slice none 0 0, .slice none 0 0, .slice none 0 0, .int .i64 0, .slice none 0 0, .slice none 0 0, .slice none 0 0, .int .i64 0, c18, c19, mp] 80) :: rest)) := hide (by rw [hN]; exact sep_cellsTo HS_w2.out 2 rfl 9 (#[.int .i64 0, .int .i64 0, .int .i64 0, .slice none 0 0, .slice none 0 0, .slice none 0 0, .int .i64 0, .slice none 0 0, .slice none 0 0, .slice none 0 0, .int .i64 0] : Array Value).toList #[m0, m1, d0, d1, u0, u1, u2, u3, c6, .int .i64 0, .int .i64 0, .int .i64 0, .slice none 0 0, .slice none 0 0, .slice none 0 0, .int .i64 0, .slice none 0 0, .slice none 0 0, .slice none 0 0, .int .i64 0, c18, c19, mp] (by kernel_rfl))
  have HB_w3 : Hid (Below B w w3) := hide (by rw [hN]; exact below_cells HGh.out _ 9 w2 HB_w2.out)
  have HTh : Hid (w2.there gh 9 (#[.int .i64 0, .int .i64 0, .int .i64 0, .slice none 0 0, .slice none 0 0, .slice none 0 0, .int .i64 0, .slice none 0 0, .slice none 0 0, .slice none 0 0, .int .i64 0] : Array Value).size) := hide (there_of (sep_get HS_w2.out 2 rfl : w2.heap[gh]? = some (Obj.cells #[m0, m1, d0, d1, u0, u1, u2, u3, c6, c7, c8, c9, c10, c11, c12, c13, c14, c15, c16, c17, c18, c19, mp] 80)) 9 11 (show 9 + 11 ≤ 23 by decide))
  have HW3 := hide hN.symm
  clear hN
  have x20 : w3.cell? ⟨gh, 20, none⟩ = some c18 := (cell_at (sep_get HS_w3.out 2 rfl : w3.heap[gh]? = some (Obj.cells #[m0, m1, d0, d1, u0, u1, u2, u3, c6, .int .i64 0, .int .i64 0, .int .i64 0, .slice none 0 0, .slice none 0 0, .slice none 0 0, .int .i64 0, .slice none 0 0, .slice none 0 0, .slice none 0 0, .int .i64 0, c18, c19, mp] 80)) 20).1
  have x21 : w3.cell? ⟨gh, 21, none⟩ = some c19 := (cell_at (sep_get HS_w3.out 2 rfl : w3.heap[gh]? = some (Obj.cells #[m0, m1, d0, d1, u0, u1, u2, u3, c6, .int .i64 0, .int .i64 0, .int .i64 0, .slice none 0 0, .slice none 0 0, .slice none 0 0, .int .i64 0, .slice none 0 0, .slice none 0 0, .slice none 0 0, .int .i64 0, c18, c19, mp] 80)) 21).1
  have z20 : w3.frozen? ⟨gh, 20, none⟩ = false := (cell_at (sep_get HS_w3.out 2 rfl : w3.heap[gh]? = some (Obj.cells #[m0, m1, d0, d1, u0, u1, u2, u3, c6, .int .i64 0, .int .i64 0, .int .i64 0, .slice none 0 0, .slice none 0 0, .slice none 0 0, .int .i64 0, .slice none 0 0, .slice none 0 0, .slice none 0 0, .int .i64 0, c18, c19, mp] 80)) 20).2
  have z21 : w3.frozen? ⟨gh, 21, none⟩ = false := (cell_at (sep_get HS_w3.out 2 rfl : w3.heap[gh]? = some (Obj.cells #[m0, m1, d0, d1, u0, u1, u2, u3, c6, .int .i64 0, .int .i64 0, .int .i64 0, .slice none 0 0, .slice none 0 0, .slice none 0 0, .int .i64 0, .slice none 0 0, .slice none 0 0, .slice none 0 0, .int .i64 0, c18, c19, mp] 80)) 21).2
  go_wp2_with ((with_reducible refine wpList_storeL ?_ 48 (.tmp 22) (.tmp 19) ?_ gh 9 #[.int .i64 0, .int .i64 0, .int .i64 0, .slice none 0 0, .slice none 0 0, .slice none 0 0, .int .i64 0, .slice none 0 0, .slice none 0 0, .slice none 0 0, .int .i64 0] ?_ ?_ HTh.out ?_ ?_ HW3.out ?_); exact rfl; exact rfl; exact rfl; exact rfl; exact Tryz.sizeTxnI; exact rfl)
  have hs4 := sep_store HS_w3.out 2 rfl 20 (.bool false)
  have hs5 : Sep B ((w3.setCell ⟨gh, 20, none⟩ (.bool false)).setCell ⟨gh, 21, none⟩ (.bool false)) (cellA ge (Obj.cells #[u0, u1, u2, u3] 43) :: cellA gd (Obj.cells #[d0, d1] 40) :: cellA gh (Obj.cells #[m0, m1, d0, d1, u0, u1, u2, u3, c6, .int .i64 0, .int .i64 0, .int .i64 0, .slice none 0 0, .slice none 0 0, .slice none 0 0, .int .i64 0, .slice none 0 0, .slice none 0 0, .slice none 0 0, .int .i64 0, .bool false, .bool false, mp] 80) :: rest) := sep_store hs4 2 rfl 21 (.bool false)
  have hb5 := (HB_w3.out.setCell (p := ⟨gh, 20, none⟩) HGh.out (.bool false)).setCell (p := ⟨gh, 21, none⟩) HGh.out (.bool false)
  first | go_end0 | refine bodyPost_ret (results_none rfl _ _ _) rfl ?_
  exact ⟨rfl, sep_del (sep_del hs5), hb5⟩

set_option maxHeartbeats 8000000 in
set_option maxRecDepth 100000 in
theorem implStop_any (B gh : Nat) (m0 m1 c0 c1 c2 c3 c4 c5 c6 c7 c8 c9 c10 c13 c14 c15 c16 c17 c18 c19 mp : Value) (x6 x7 : Option Addr) (n6 y6 n7 y7 : Nat) (ps : List ByteArray) (ls : List (Int × ByteArray)) (hp : ps.length ≤ 1048576) (hl : ls.length ≤ 1048576) (hps : ∀ s ∈ ps, s.size ≤ 1048576) (hls : ∀ p ∈ ls, p.2.size ≤ 1048576) (rest : List Ast) (w : World) (h : Sep B w (cellA gh (Obj.cells #[m0, m1, c0, c1, c2, c3, c4, c5, c6, c7, c8, c9, c10, .slice x6 n6 y6, .slice x7 n7 y7, c13, c14, c15, c16, c17, c18, c19, mp] 80) :: rest)) (hB : B ≤ w.heap.size)
    (ho : c2.oneCell' = true ∧ c3.oneCell' = true ∧ c4.oneCell' = true ∧ c5.oneCell' = true) (hd : DiskAt w (.agg #[.slice x6 n6 y6, .slice x7 n7 y7]) ps ls) :
    Calls Tryz.prog 25 #[.pointer (some ⟨gh, 0, none⟩)] w fun e w' => ∃ p1 q1 p2 q2, e = .returned (.tuple #[]) ∧ Sep B w' (diskA B (.agg #[.slice p1 (syncD ps ls).length q1, .slice p2 0 q2]) (syncD ps ls) [] :: cellA gh (Obj.cells #[m0, m1, .slice p1 (syncD ps ls).length q1, .slice p2 0 q2, c2, c3, c4, c5, c6, .int .i64 0, .int .i64 0, .int .i64 0, .slice none 0 0, .slice none 0 0, .slice none 0 0, .int .i64 0, .slice none 0 0, .slice none 0 0, .slice none 0 0, .int .i64 0, .bool false, .bool false, mp] 80) :: rest) ∧ Below B w w' := by
  have HO := hide ho
  have HD := hide hd
  have HSy := hide (fun wx h => implSyncDisk_any (.agg #[.slice x6 n6 y6, .slice x7 n7 y7]) ps ls hp hl hps hls wx h)
  clear ho hd hp hl hps hls
  go_enter Tryz.func25, Tryz.ntmps25
  obtain ⟨wd, hwd⟩ : ∃ wd, wd = w.drew := ⟨_, rfl⟩
  have HS_wd := hide (sep_drew h)
  have HB_wd : Hid (Below w.heap.size w w.drew) := hide (Below.refl w.heap.size w).drew
  rw [← hwd] at HS_wd HB_wd
  refine wp_region_held_drew (S := fun _ => True) (by kernel_rfl) trivial (fun _ => ?_)
  rw [← hwd]
  clear hwd h
  refine takeW 0 2 ?_ rfl rfl (by kernel_rfl) (by kernel_rfl) (by kernel_rfl) (fun _ _ _ h => h) (Or.inl ⟨by rfl, ?_⟩) trivial ?_
  rotate_left
  · (intro wx hSw; (try dsimp only at hSw); go_simp; try with_reducible rfl)
  simp only [List.setIfInBounds_toArray, List.set_cons_zero, List.set_cons_succ]
  refine takeW 1 3 ?_ rfl rfl (by kernel_rfl) (by kernel_rfl) (by kernel_rfl) (fun _ _ _ h => h) (Or.inl ⟨by rfl, ?_⟩) trivial ?_
  rotate_left
  · (intro wx hSw; (try dsimp only at hSw); go_simp; try with_reducible rfl)
  simp only [List.setIfInBounds_toArray, List.set_cons_zero, List.set_cons_succ]
  refine takeW 2 4 ?_ rfl rfl (by kernel_rfl) (by kernel_rfl) (by kernel_rfl) (fun _ _ _ h => h) (Or.inl ⟨by rfl, ?_⟩) trivial ?_
  rotate_left
  · (intro wx hSw; (try dsimp only at hSw); go_simp; try with_reducible rfl)
  simp only [List.setIfInBounds_toArray, List.set_cons_zero, List.set_cons_succ]
  refine takeW 3 5 ?_ rfl rfl (by kernel_rfl) (by kernel_rfl) (by kernel_rfl) (fun _ _ _ h => h) (Or.inl ⟨by rfl, ?_⟩) trivial ?_
  rotate_left
  · (intro wx hSw; (try dsimp only at hSw); go_simp; try with_reducible rfl)
  simp only [List.setIfInBounds_toArray, List.set_cons_zero, List.set_cons_succ]
  refine takeW 4 6 ?_ rfl rfl (by kernel_rfl) (by kernel_rfl) (by kernel_rfl) (fun _ _ _ h => h) (Or.inl ⟨by rfl, ?_⟩) trivial ?_
  rotate_left
  · (intro wx hSw; (try dsimp only at hSw); go_simp; try with_reducible rfl)
  simp only [List.setIfInBounds_toArray, List.set_cons_zero, List.set_cons_succ]
  refine takeW 5 7 ?_ rfl rfl (by kernel_rfl) (by kernel_rfl) (by kernel_rfl) (fun _ _ _ h => h) (Or.inl ⟨by rfl, ?_⟩) trivial ?_
  rotate_left
  · (intro wx hSw; (try dsimp only at hSw); go_simp; try with_reducible rfl)
  simp only [List.setIfInBounds_toArray, List.set_cons_zero, List.set_cons_succ]
  refine takeW 6 8 ?_ rfl rfl (by kernel_rfl) (by kernel_rfl) (by kernel_rfl) (fun _ _ _ h => h) (Or.inl ⟨by rfl, ?_⟩) trivial ?_
  rotate_left
  · (intro wx hSw; (try dsimp only at hSw); go_simp; try with_reducible rfl)
  simp only [List.setIfInBounds_toArray, List.set_cons_zero, List.set_cons_succ]
  refine takeW 9 11 ?_ rfl rfl (by kernel_rfl) (by kernel_rfl) (by kernel_rfl) (fun _ _ _ h => h) (Or.inl ⟨by rfl, ?_⟩) trivial ?_
  rotate_left
  · (intro wx hSw; (try dsimp only at hSw); go_simp; try with_reducible rfl)
  simp only [List.setIfInBounds_toArray, List.set_cons_zero, List.set_cons_succ]
  refine takeW 10 12 ?_ rfl rfl (by kernel_rfl) (by kernel_rfl) (by kernel_rfl) (fun _ _ _ h => h) (Or.inl ⟨by rfl, ?_⟩) trivial ?_
  rotate_left
  · (intro wx hSw; (try dsimp only at hSw); go_simp; try with_reducible rfl)
  simp only [List.setIfInBounds_toArray, List.set_cons_zero, List.set_cons_succ]
  refine takeW 11 13 ?_ rfl rfl (by kernel_rfl) (by kernel_rfl) (by kernel_rfl) (fun _ _ _ h => h) (Or.inl ⟨by rfl, ?_⟩) trivial ?_
  rotate_left
  · (intro wx hSw; (try dsimp only at hSw); go_simp; try with_reducible rfl)
  simp only [List.setIfInBounds_toArray, List.set_cons_zero, List.set_cons_succ]
  refine takeW 12 14 ?_ rfl rfl (by kernel_rfl) (by kernel_rfl) (by kernel_rfl) (fun _ _ _ h => h) (Or.inl ⟨by rfl, ?_⟩) trivial ?_
  rotate_left
  · (intro wx hSw; (try dsimp only at hSw); go_simp; try with_reducible rfl)
  simp only [List.setIfInBounds_toArray, List.set_cons_zero, List.set_cons_succ]
  have HZd : Hid (B ≤ wd.heap.size) := hide (Nat.le_trans hB HB_wd.out.size)
  refine wpAnyH_ready (rs := [7, 13]) (by kernel_rfl) (by simp) ?_
  refine ready2 rfl rfl ?_
  apply branchJ (fun (p1 : Option Addr) (q1 : Nat) (p2 : Option Addr) (q2 : Nat) (W : World) => Sep B W (diskA B (.agg #[.slice p1 (syncD ps ls).length q1, .slice p2 0 q2]) (syncD ps ls) [] :: cellA gh (Obj.cells #[m0, m1, c0, c1, c2, c3, c4, c5, c6, c7, c8, c9, c10, .slice x6 n6 y6, .slice x7 n7 y7, c13, c14, c15, c16, c17, c18, c19, mp] 80) :: rest) ∧ Below w.heap.size w W)
  · intro hG K hK
    refine step_loadL ?_ 40 (.tmp 8) ?_ gh 13 ?_ #[.slice x6 n6 y6, .slice x7 n7 y7] (range_of (sep_get HS_wd.out 0 rfl : wd.heap[gh]? = some (Obj.cells #[m0, m1, c0, c1, c2, c3, c4, c5, c6, c7, c8, c9, c10, .slice x6 n6 y6, .slice x7 n7 y7, c13, c14, c15, c16, c17, c18, c19, mp] 80)) 13 2) _ Tryz.underlying40 ?_ ?_ ?_
    · exact rfl
    · exact rfl
    · exact rfl
    · exact rfl
    · exact Tryz.sizeDiskI
    refine hK.out (Act.put _ (some 9) _) _ trivial (fun _ => ?_)
    clear hK K
    simp only [Act.put, List.setIfInBounds_toArray, List.set_cons_zero, List.set_cons_succ]
    refine wpAnyH_ready (rs := [8, 13]) (by kernel_rfl) (by simp) ?_
    refine ready2 rfl rfl ⟨?_, ?_⟩
    · intro K hK
      refine step_call1 wd ?_ 55 Tryz.f55 Tryz.func55 ?_ ?_ (.tmp 9) #[40] ?_ (.agg #[.slice x6 n6 y6, .slice x7 n7 y7]) ?_ _ (HSy.out wd (disk_below HD.out HB_wd.out)) ?_
      · exact rfl
      · decide
      · exact Option.some_ne_none _
      · exact rfl
      · exact rfl
      rintro e w1 ⟨v1, rfl, ho, hb⟩
      refine ⟨_, rfl, ?_⟩
      obtain ⟨p1, q1, p2, q2, rfl⟩ := disk_form ho
      have HS_w1 := hide (sep_add HS_wd.out hb (diskA B _ (syncD ps ls) []) (disk_downQ ho HZd.out) (fun j hj => diskOwn_lt ho j hj) HZd.out)
      have HB_w1 : Hid (Below w.heap.size w w1) := hide (HB_wd.out.trans (hb.mono HB_wd.out.size))
      refine hK.out (Act.put _ (some 10) _) _ trivial (fun _ => ?_)
      clear hK K hb ho
      simp only [Act.put, List.setIfInBounds_toArray, List.set_cons_zero, List.set_cons_succ]
      refine wpAnyH_ready (rs := [13]) (by kernel_rfl) (by simp) ?_
      refine AllReadyH.cons rfl (fun K hK => ?_) AllReadyH.nil
      refine step_loadL ?_ 43 (.tmp 14) ?_ gh 4 ?_ #[c2, c3, c4, c5] (range_of (sep_get HS_w1.out 1 rfl : w1.heap[gh]? = some (Obj.cells #[m0, m1, c0, c1, c2, c3, c4, c5, c6, c7, c8, c9, c10, .slice x6 n6 y6, .slice x7 n7 y7, c13, c14, c15, c16, c17, c18, c19, mp] 80)) 4 4) _ Tryz.underlying43 ?_ ?_ ?_
      · exact rfl
      · exact rfl
      · exact rfl
      · exact rfl
      · exact Tryz.sizeMetaI
      refine hK.out (Act.put _ (some 15) _) _ trivial (fun _ => ?_)
      clear hK K
      simp only [Act.put, List.setIfInBounds_toArray, List.set_cons_zero, List.set_cons_succ]
      exact hG p1 q1 p2 q2 w1 ⟨HS_w1.out, HB_w1.out⟩
    · intro K hK
      refine step_loadL ?_ 43 (.tmp 14) ?_ gh 4 ?_ #[c2, c3, c4, c5] (range_of (sep_get HS_wd.out 0 rfl : wd.heap[gh]? = some (Obj.cells #[m0, m1, c0, c1, c2, c3, c4, c5, c6, c7, c8, c9, c10, .slice x6 n6 y6, .slice x7 n7 y7, c13, c14, c15, c16, c17, c18, c19, mp] 80)) 4 4) _ Tryz.underlying43 ?_ ?_ ?_
      · exact rfl
      · exact rfl
      · exact rfl
      · exact rfl
      · exact Tryz.sizeMetaI
      refine hK.out (Act.put _ (some 15) _) _ trivial (fun _ => ?_)
      clear hK K
      simp only [Act.put, List.setIfInBounds_toArray, List.set_cons_zero, List.set_cons_succ]
      refine wpAnyH_ready (rs := [8]) (by kernel_rfl) (by simp) ?_
      refine AllReadyH.cons rfl (fun K hK => ?_) AllReadyH.nil
      refine step_call1 wd ?_ 55 Tryz.f55 Tryz.func55 ?_ ?_ (.tmp 9) #[40] ?_ (.agg #[.slice x6 n6 y6, .slice x7 n7 y7]) ?_ _ (HSy.out wd (disk_below HD.out HB_wd.out)) ?_
      · exact rfl
      · decide
      · exact Option.some_ne_none _
      · exact rfl
      · exact rfl
      rintro e w1 ⟨v1, rfl, ho, hb⟩
      refine ⟨_, rfl, ?_⟩
      obtain ⟨p1, q1, p2, q2, rfl⟩ := disk_form ho
      have HS_w1 := hide (sep_add HS_wd.out hb (diskA B _ (syncD ps ls) []) (disk_downQ ho HZd.out) (fun j hj => diskOwn_lt ho j hj) HZd.out)
      have HB_w1 : Hid (Below w.heap.size w w1) := hide (HB_wd.out.trans (hb.mono HB_wd.out.size))
      refine hK.out (Act.put _ (some 10) _) _ trivial (fun _ => ?_)
      clear hK K hb ho
      simp only [Act.put, List.setIfInBounds_toArray, List.set_cons_zero, List.set_cons_succ]
      exact hG p1 q1 p2 q2 w1 ⟨HS_w1.out, HB_w1.out⟩
  · intro hG K hK
    refine step_loadL ?_ 43 (.tmp 14) ?_ gh 4 ?_ #[c2, c3, c4, c5] (range_of (sep_get HS_wd.out 0 rfl : wd.heap[gh]? = some (Obj.cells #[m0, m1, c0, c1, c2, c3, c4, c5, c6, c7, c8, c9, c10, .slice x6 n6 y6, .slice x7 n7 y7, c13, c14, c15, c16, c17, c18, c19, mp] 80)) 4 4) _ Tryz.underlying43 ?_ ?_ ?_
    · exact rfl
    · exact rfl
    · exact rfl
    · exact rfl
    · exact Tryz.sizeMetaI
    refine hK.out (Act.put _ (some 15) _) _ trivial (fun _ => ?_)
    clear hK K
    simp only [Act.put, List.setIfInBounds_toArray, List.set_cons_zero, List.set_cons_succ]
    refine wpAnyH_ready (rs := [7]) (by kernel_rfl) (by simp) ?_
    refine AllReadyH.cons rfl (fun K hK => ?_) AllReadyH.nil
    refine step_loadL ?_ 40 (.tmp 8) ?_ gh 13 ?_ #[.slice x6 n6 y6, .slice x7 n7 y7] (range_of (sep_get HS_wd.out 0 rfl : wd.heap[gh]? = some (Obj.cells #[m0, m1, c0, c1, c2, c3, c4, c5, c6, c7, c8, c9, c10, .slice x6 n6 y6, .slice x7 n7 y7, c13, c14, c15, c16, c17, c18, c19, mp] 80)) 13 2) _ Tryz.underlying40 ?_ ?_ ?_
    · exact rfl
    · exact rfl
    · exact rfl
    · exact rfl
    · exact Tryz.sizeDiskI
    refine hK.out (Act.put _ (some 9) _) _ trivial (fun _ => ?_)
    clear hK K
    simp only [Act.put, List.setIfInBounds_toArray, List.set_cons_zero, List.set_cons_succ]
    refine wpAnyH_ready (rs := [8]) (by kernel_rfl) (by simp) ?_
    refine AllReadyH.cons rfl (fun K hK => ?_) AllReadyH.nil
    refine step_call1 wd ?_ 55 Tryz.f55 Tryz.func55 ?_ ?_ (.tmp 9) #[40] ?_ (.agg #[.slice x6 n6 y6, .slice x7 n7 y7]) ?_ _ (HSy.out wd (disk_below HD.out HB_wd.out)) ?_
    · exact rfl
    · decide
    · exact Option.some_ne_none _
    · exact rfl
    · exact rfl
    rintro e w1 ⟨v1, rfl, ho, hb⟩
    refine ⟨_, rfl, ?_⟩
    obtain ⟨p1, q1, p2, q2, rfl⟩ := disk_form ho
    have HS_w1 := hide (sep_add HS_wd.out hb (diskA B _ (syncD ps ls) []) (disk_downQ ho HZd.out) (fun j hj => diskOwn_lt ho j hj) HZd.out)
    have HB_w1 : Hid (Below w.heap.size w w1) := hide (HB_wd.out.trans (hb.mono HB_wd.out.size))
    refine hK.out (Act.put _ (some 10) _) _ trivial (fun _ => ?_)
    clear hK K hb ho
    simp only [Act.put, List.setIfInBounds_toArray, List.set_cons_zero, List.set_cons_succ]
    exact hG p1 q1 p2 q2 w1 ⟨HS_w1.out, HB_w1.out⟩
  intro p1 q1 p2 q2 W hP
  have HP := hide hP
  clear hP
  refine wpAnyH_ready (rs := [14]) (by kernel_rfl) (by simp) ?_
  refine AllReadyH.cons rfl (fun K hK => ?_) AllReadyH.nil
  refine step_call3 W ?_ 54 Tryz.f54 Tryz.func54 ?_ ?_ (.tmp 2) (.tmp 10) (.tmp 15) #[69, 40, 43] ?_ (.pointer (some ⟨gh, 0, none⟩)) (.agg #[.slice p1 (syncD ps ls).length q1, .slice p2 0 q2]) (.agg #[c2, c3, c4, c5]) ?_ ?_ ?_ _ (implRest_any B gh (m0) (m1) (c0) (c1) (c2) (c3) (c4) (c5) (c6) (c7) (c8) (c9) (c10) (.slice x6 n6 y6) (.slice x7 n7 y7) (c13) (c14) (c15) (c16) (c17) (c18) (c19) (mp) (.slice p1 (syncD ps ls).length q1) (.slice p2 0 q2) c2 c3 c4 c5 (diskA B (.agg #[.slice p1 (syncD ps ls).length q1, .slice p2 0 q2]) (syncD ps ls) [] :: rest) W (sep_swap HP.out.1) (Nat.le_trans hB HP.out.2.size) ⟨rfl, rfl, HO.out⟩) ?_
  · exact rfl
  · decide
  · exact Option.some_ne_none _
  · exact rfl
  · exact rfl
  · exact rfl
  · exact rfl
  rintro e w2 ⟨rfl, hs2, hb2⟩
  refine ⟨_, rfl, ?_⟩
  have HS2 := hide (sep_swap hs2)
  have HB2 : Hid (Below B w w2) := hide ((HP.out.2.mono hB).trans hb2)
  refine hK.out (Act.put _ (some 16) _) _ trivial (fun _ => ?_)
  clear hK K hs2 hb2
  simp only [Act.put, List.setIfInBounds_toArray, List.set_cons_zero, List.set_cons_succ]
  refine wpAnyH_done (by kernel_rfl) ?_ _
  go_wp2_with fail
  first | go_end0 | refine bodyPost_ret (results_none rfl _ _ _) rfl ?_
  exact ⟨p1, q1, p2, q2, rfl, HS2.out, HB2.out⟩
end Go.Proofs.YtghjbfdbheokcaaGreat
