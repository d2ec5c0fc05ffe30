/-
  Facts and contracts that the law's own text rests on, by their texts' names: WorldTo, Plain27.
-/
import Derived.Test.YtdbpbhemnnffeaaGreatDoorXw14
import Derived.Test.YtdbpbhemnnffeaaGreatDoorXw4
namespace Go.Proofs.YtdbpbhemnnffeaaGreatDoor
open Go.RowKit
def wrL (B : Nat) (x : Wrl) (L : List Ast) (vm vn vs : Value) (m : List (Int × Value)) (vc vt : Value) : List Ast := [packA B L, rowA B 101 2 vm x.md.length (prs x.md), rowA B 101 2 vn x.nx.length (prs x.nx), seensA B vs m x.ss, rowA B 3 1 vc x.cd.length (ints x.cd), rowA B 9 1 vt x.td.length (strs x.td)]
def WrOwn (w : World) (B : Nat) (v : Value) (x : Wrl) : Prop := ∃ (ds : Array Value) (L : List Ast) (p1 p2 p3 p4 p5 : Option Addr) (q1 q2 q3 q4 q5 : Nat) (m : List (Int × Value)), v = .agg (ds ++ (#[.slice p1 x.md.length q1, .slice p2 x.nx.length q2, .slice p3 x.ss.length q3, .slice p4 x.cd.length q4, .slice p5 x.td.length q5] : Array Value)) ∧ ds.size = 20 ∧ StThings B (.agg ds) x.s L ∧ Sep B w (wrL B x L (.slice p1 x.md.length q1) (.slice p2 x.nx.length q2) (.slice p3 x.ss.length q3) m (.slice p4 x.cd.length q4) (.slice p5 x.td.length q5))
theorem wr_of_own {w : World} {B : Nat} {v : Value} {x : Wrl} (h : WrOwn w B v x) : WrAt w v x := by
  obtain ⟨ds, L, p1, p2, p3, p4, p5, q1, q2, q3, q4, q5, m, e, hd, ht, hs⟩ := h
  exact ⟨ds, _, _, _, _, _, e, hd, things_at hs 0 rfl ht, row_of_own (sep_get hs 1 rfl), row_of_own (sep_get hs 2 rfl), seens_of_own (sep_get hs 3 rfl), row_of_own (sep_get hs 4 rfl), row_of_own (sep_get hs 5 rfl)⟩
theorem sep_tail {B : Nat} {W : World} {l : List Ast} (h : Sep B W l) (i : Nat) {g : Nat} {ds : Array Value} {r r' : List Value} {T : TypeId} (hi : l[i]? = some (cellA g (.cells (ds ++ r.toArray) T (0, 0)))) (hd : ds.size = 20) (j : Nat) (v : Value) (hr : r.set j v = r') : Sep B (W.setCell ⟨g, 20 + j, none⟩ v) (l.set i (cellA g (.cells (ds ++ r'.toArray) T (0, 0)))) := by
  have h2 := sep_store h i hi (20 + j) v
  rw [over_cell ds hd r r' j v hr] at h2
  exact h2
theorem size_w (ds : Array Value) (hd : ds.size = 20) (n0 n1 n2 n3 n4 : Value) : (ds ++ #[n0, n1, n2, n3, n4]).size = 25 := by
  rw [Array.size_append, hd]
  rfl
set_option maxHeartbeats 16000000 in
set_option maxRecDepth 100000 in
theorem toWorld_any (v : Value) (x : Wrl) (hs : x.small) (w : World) (hd : WrAt w v x) :
    Calls Tryz.prog 8 #[v] w fun e w' => ∃ v', e = .returned v' ∧ WrOwn w' w.heap.size v' x ∧ Below w.heap.size w w' := by
  obtain ⟨cs, vm, vn, vs, vc, vt, rfl, hcs, hst, h1, h2, h3, h4, h5⟩ := hd
  obtain ⟨f0, f1, f2, f3, f3', f4, f5⟩ := hs
  have HC1 := hide (fun wx (hb : Below w.heap.size w wx) => toStore_any (.agg cs) x.s f0 wx (st_below hst hb))
  have HC2 := hide (fun wx (hb : Below w.heap.size w wx) => toPairS_any x.md f1 vm wx (row_below h1 hb))
  have HC3 := hide (fun wx (hb : Below w.heap.size w wx) => toPairS_any x.nx f2 vn wx (row_below h2 hb))
  have HC4 := hide (fun wx (hb : Below w.heap.size w wx) => toSeenS_any x.ss f3 f3' vs wx (seens_below h3 hb))
  have HC5 := hide (fun wx (hb : Below w.heap.size w wx) => toIntS_any x.cd f4 vc wx (row_below h4 hb))
  have HC6 := hide (fun wx (hb : Below w.heap.size w wx) => toStringS_any x.td f5 vt wx (row_below h5 hb))
  obtain ⟨a0, ha0⟩ : ∃ a, a = w.heap.size := ⟨_, rfl⟩
  have hS0 := sep_new (sep_new (sep_new (sep_nil w.heap.size w) (Obj.cells (cs ++ #[vm, vn, vs, vc, vt]) 40) (Nat.le_refl _)) (Obj.cells #[.slice none 0 0, .slice none 0 0, .int .i64 0, .int .i64 0, .int .i64 0, .slice none 0 0, .slice none 0 0, .int .i64 0, .int .i64 0, .int .i64 0, .slice none 0 0, .slice none 0 0, .slice none 0 0, .int .i64 0, .slice none 0 0, .slice none 0 0, .slice none 0 0, .int .i64 0, .bool false, .bool false, .slice none 0 0, .slice none 0 0, .slice none 0 0, .slice none 0 0, .slice none 0 0] 59) (by simp)) (Obj.cells #[.slice none 0 0, .slice none 0 0, .int .i64 0, .int .i64 0, .int .i64 0, .slice none 0 0, .slice none 0 0, .int .i64 0, .int .i64 0, .int .i64 0, .slice none 0 0, .slice none 0 0, .slice none 0 0, .int .i64 0, .slice none 0 0, .slice none 0 0, .slice none 0 0, .int .i64 0, .bool false, .bool false, .slice none 0 0, .slice none 0 0, .slice none 0 0, .slice none 0 0, .slice none 0 0] 59) (by simp; omega)
  obtain ⟨w0, hw0⟩ : ∃ w0, w0 = ((w.alloc (Obj.cells (cs ++ #[vm, vn, vs, vc, vt]) 40)).alloc (Obj.cells #[.slice none 0 0, .slice none 0 0, .int .i64 0, .int .i64 0, .int .i64 0, .slice none 0 0, .slice none 0 0, .int .i64 0, .int .i64 0, .int .i64 0, .slice none 0 0, .slice none 0 0, .slice none 0 0, .int .i64 0, .slice none 0 0, .slice none 0 0, .slice none 0 0, .int .i64 0, .bool false, .bool false, .slice none 0 0, .slice none 0 0, .slice none 0 0, .slice none 0 0, .slice none 0 0] 59)).alloc (Obj.cells #[.slice none 0 0, .slice none 0 0, .int .i64 0, .int .i64 0, .int .i64 0, .slice none 0 0, .slice none 0 0, .int .i64 0, .int .i64 0, .int .i64 0, .slice none 0 0, .slice none 0 0, .slice none 0 0, .int .i64 0, .slice none 0 0, .slice none 0 0, .slice none 0 0, .int .i64 0, .bool false, .bool false, .slice none 0 0, .slice none 0 0, .slice none 0 0, .slice none 0 0, .slice none 0 0] 59) := ⟨_, rfl⟩
  rw [World.size_alloc, World.size_alloc, ← hw0, ← ha0] at hS0
  have HS0 := hide hS0
  have HB0 : Hid (Below w.heap.size w w0) := hide (by rw [hw0]; exact (((Below.refl w.heap.size w).alloc (Nat.le_refl _) _).alloc (by simp) _).alloc (by simp; omega) _)
  have HZ0 : Hid (a0 ≤ w0.heap.size) := hide (by rw [hw0, ha0]; simp; omega)
  have HCw : Hid (∀ wx : World, wx.heap[a0]? = some (Obj.cells (cs ++ #[vm, vn, vs, vc, vt]) 40) → wx.rangeAt a0 0 cs.toList ∧ wx.cell? ⟨a0, 20, none⟩ = some vm ∧ wx.cell? ⟨a0, 21, none⟩ = some vn ∧ wx.cell? ⟨a0, 22, none⟩ = some vs ∧ wx.cell? ⟨a0, 23, none⟩ = some vc ∧ wx.cell? ⟨a0, 24, none⟩ = some vt) := hide (fun wx h => cell_w h hcs)
  have HTr : Hid (∀ wx wy, Below w.heap.size w wx → Below wx.heap.size wx wy → Below w.heap.size w wy) := hide (fun wx wy h h' => h.trans (h'.mono h.size))
  have HZs : Hid ((Tryz.prog.info? 36).map (·.size) = some cs.size) := hide (by rw [hcs]; exact Tryz.sizeStoreL)
  have HA := hide ha0
  have HW := hide hw0
  have hg2 : w.heap.size ≤ a0 + 1 + 1 := by omega
  have hg1 : w.heap.size ≤ a0 + 1 := by omega
  clear hS0 ha0 hw0 hst h1 h2 h3 h4 h5 f0 f1 f2 f3 f3' f4 f5 hcs
  have HR0 := hide (HCw.out _ (sep_get HS0.out 2 rfl)).1
  rw [HW.out, HA.out] at HR0
  go_enter Tryz.func8, Tryz.ntmps8
  go_wp2_with ((with_reducible refine wpList_loadL ?_ 36 (.tmp 4) ?_ w.heap.size 0 ?_ cs HR0.out _ Tryz.underlying36 ?_ ?_ ?_); exact rfl; exact rfl; exact rfl; exact rfl; exact HZs.out)
  rw [← HW.out, ← HA.out]
  refine (HC1.out _ HB0.out).mono ?_
  rintro e w1 ⟨v1, rfl, ho, hb⟩
  obtain ⟨L, hL, hsp⟩ := sep_st HS0.out hb ho HZ0.out
  obtain ⟨ds, rfl, hds, hdo⟩ := things_arr hL
  have HS1 := hide hsp
  have HB1 := hide (HTr.out _ _ HB0.out hb)
  have HZ1 : Hid (a0 ≤ w1.heap.size) := hide (Nat.le_trans HZ0.out hb.size)
  have HL := hide hL
  have HDs := hide hds
  have HDo := hide hdo
  clear hb ho hL hds hdo hsp
  have HZd : Hid ((Tryz.prog.info? 55).map (·.size) = some ds.size) := hide (by rw [HDs.out]; exact Tryz.sizeStoreI2)
  have HT1 : Hid (w1.there (a0 + 1 + 1) 0 ds.size) := hide (there_of (sep_get HS1.out 1 rfl) 0 ds.size (by rw [HDs.out]; decide))
  have HS2 := hide (sep_cellsTo HS1.out 1 rfl 0 ds.toList (ds ++ #[.slice none 0 0, .slice none 0 0, .slice none 0 0, .slice none 0 0, .slice none 0 0]) (over_store ds HDs.out _ _ _ _ _))
  have HB2 := hide (below_cells hg2 ds.toList 0 w1 HB1.out)
  have HZ2 : Hid (a0 ≤ (w1.setCells (a0 + 1 + 1) 0 ds.toList).heap.size) := hide (by rw [size_cells]; exact HZ1.out)
  obtain ⟨w2, hw2⟩ : ∃ wx, wx = w1.setCells (a0 + 1 + 1) 0 ds.toList := ⟨_, rfl⟩
  rw [← hw2] at HS2 HB2 HZ2
  have HW2 := hide hw2.symm
  clear hw2
  go_upto_region 3 with ((with_reducible refine wpList_storeL ?_ 55 (.tmp 7) (.tmp 6) ?_ (a0 + 1 + 1) 0 ds ?_ ?_ HT1.out ?_ ?_ HW2.out ?_); exact rfl; exact rfl; exact rfl; exact rfl; exact HZd.out; exact HDo.out)
  obtain ⟨-, k20, k21, k22, k23, k24⟩ := HCw.out _ (sep_get HS2.out 3 rfl)
  go_wp2_with fail
  clear k20 k21 k22 k23 k24
  refine (HC2.out _ HB2.out).mono ?_
  rintro e w3 ⟨v1, rfl, ho, hb⟩
  obtain ⟨p1, q1, rfl⟩ := own_slice ho
  have HS3 := hide (sep_add HS2.out hb (rowA a0 101 2 (.slice p1 x.md.length q1) x.md.length (prs x.md)) (own_down ho HZ2.out) (fun j hj => ho.lt j hj) HZ2.out)
  have HB3 := hide (HTr.out _ _ HB2.out hb)
  have HZ3 : Hid (a0 ≤ w3.heap.size) := hide (Nat.le_trans HZ2.out hb.size)
  clear hb ho
  have y0 : w3.cell? ⟨a0 + 1 + 1, 20, none⟩ = some (.slice none 0 0) := (cell_w (sep_get HS3.out 2 rfl) HDs.out).2.1
  have z0 : w3.frozen? ⟨a0 + 1 + 1, 20, none⟩ = false := (cell_at (sep_get HS3.out 2 rfl) 20).2
  go_upto_region 4 with fail
  clear y0 z0
  have HS4 : Hid (Sep a0 (w3.setCell ⟨a0 + 1 + 1, 20, none⟩ (.slice p1 x.md.length q1)) _) := hide (sep_tail (r := [.slice none 0 0, .slice none 0 0, .slice none 0 0, .slice none 0 0, .slice none 0 0]) (r' := [.slice p1 x.md.length q1, .slice none 0 0, .slice none 0 0, .slice none 0 0, .slice none 0 0]) HS3.out 2 rfl HDs.out 0 (.slice p1 x.md.length q1) rfl)
  have HB4 := hide (HB3.out.setCell (p := ⟨a0 + 1 + 1, 20, none⟩) hg2 (.slice p1 x.md.length q1))
  have HZ4 : Hid (a0 ≤ (w3.setCell ⟨a0 + 1 + 1, 20, none⟩ (.slice p1 x.md.length q1)).heap.size) := hide (by have := HZ3.out; simp; omega)
  obtain ⟨w4, hw⟩ : ∃ wx, wx = w3.setCell ⟨a0 + 1 + 1, 20, none⟩ (.slice p1 x.md.length q1) := ⟨_, rfl⟩
  rw [← hw] at HS4 HB4 HZ4 ⊢
  clear hw
  obtain ⟨-, k20, k21, k22, k23, k24⟩ := HCw.out _ (sep_get HS4.out 4 rfl)
  go_wp2_with fail
  clear k20 k21 k22 k23 k24
  refine (HC3.out _ HB4.out).mono ?_
  rintro e w5 ⟨v1, rfl, ho, hb⟩
  obtain ⟨p2, q2, rfl⟩ := own_slice ho
  have HS5 := hide (sep_add HS4.out hb (rowA a0 101 2 (.slice p2 x.nx.length q2) x.nx.length (prs x.nx)) (own_down ho HZ4.out) (fun j hj => ho.lt j hj) HZ4.out)
  have HB5 := hide (HTr.out _ _ HB4.out hb)
  have HZ5 : Hid (a0 ≤ w5.heap.size) := hide (Nat.le_trans HZ4.out hb.size)
  clear hb ho
  have y0 : w5.cell? ⟨a0 + 1 + 1, 21, none⟩ = some (.slice none 0 0) := (cell_w (sep_get HS5.out 3 rfl) HDs.out).2.2.1
  have z0 : w5.frozen? ⟨a0 + 1 + 1, 21, none⟩ = false := (cell_at (sep_get HS5.out 3 rfl) 21).2
  go_upto_region 5 with fail
  clear y0 z0
  have HS6 : Hid (Sep a0 (w5.setCell ⟨a0 + 1 + 1, 21, none⟩ (.slice p2 x.nx.length q2)) _) := hide (sep_tail (r := [.slice p1 x.md.length q1, .slice none 0 0, .slice none 0 0, .slice none 0 0, .slice none 0 0]) (r' := [.slice p1 x.md.length q1, .slice p2 x.nx.length q2, .slice none 0 0, .slice none 0 0, .slice none 0 0]) HS5.out 3 rfl HDs.out 1 (.slice p2 x.nx.length q2) rfl)
  have HB6 := hide (HB5.out.setCell (p := ⟨a0 + 1 + 1, 21, none⟩) hg2 (.slice p2 x.nx.length q2))
  have HZ6 : Hid (a0 ≤ (w5.setCell ⟨a0 + 1 + 1, 21, none⟩ (.slice p2 x.nx.length q2)).heap.size) := hide (by have := HZ5.out; simp; omega)
  obtain ⟨w6, hw⟩ : ∃ wx, wx = w5.setCell ⟨a0 + 1 + 1, 21, none⟩ (.slice p2 x.nx.length q2) := ⟨_, rfl⟩
  rw [← hw] at HS6 HB6 HZ6 ⊢
  clear hw
  obtain ⟨-, k20, k21, k22, k23, k24⟩ := HCw.out _ (sep_get HS6.out 5 rfl)
  go_wp2_with fail
  clear k20 k21 k22 k23 k24
  refine (HC4.out _ HB6.out).mono ?_
  rintro e w7 ⟨v1, m, rfl, ho, hb⟩
  obtain ⟨p3, q3, rfl⟩ := own_slice ho.1
  have HS7 := hide (sep_add HS6.out hb (seensA a0 (.slice p3 x.ss.length q3) m x.ss) (sOwnF_down ho HZ6.out) (fun j hj => sOwnF_lt ho j hj) HZ6.out)
  have HB7 := hide (HTr.out _ _ HB6.out hb)
  have HZ7 : Hid (a0 ≤ w7.heap.size) := hide (Nat.le_trans HZ6.out hb.size)
  clear hb ho
  have y0 : w7.cell? ⟨a0 + 1 + 1, 22, none⟩ = some (.slice none 0 0) := (cell_w (sep_get HS7.out 4 rfl) HDs.out).2.2.2.1
  have z0 : w7.frozen? ⟨a0 + 1 + 1, 22, none⟩ = false := (cell_at (sep_get HS7.out 4 rfl) 22).2
  go_upto_region 6 with fail
  clear y0 z0
  have HS8 : Hid (Sep a0 (w7.setCell ⟨a0 + 1 + 1, 22, none⟩ (.slice p3 x.ss.length q3)) _) := hide (sep_tail (r := [.slice p1 x.md.length q1, .slice p2 x.nx.length q2, .slice none 0 0, .slice none 0 0, .slice none 0 0]) (r' := [.slice p1 x.md.length q1, .slice p2 x.nx.length q2, .slice p3 x.ss.length q3, .slice none 0 0, .slice none 0 0]) HS7.out 4 rfl HDs.out 2 (.slice p3 x.ss.length q3) rfl)
  have HB8 := hide (HB7.out.setCell (p := ⟨a0 + 1 + 1, 22, none⟩) hg2 (.slice p3 x.ss.length q3))
  have HZ8 : Hid (a0 ≤ (w7.setCell ⟨a0 + 1 + 1, 22, none⟩ (.slice p3 x.ss.length q3)).heap.size) := hide (by have := HZ7.out; simp; omega)
  obtain ⟨w8, hw⟩ : ∃ wx, wx = w7.setCell ⟨a0 + 1 + 1, 22, none⟩ (.slice p3 x.ss.length q3) := ⟨_, rfl⟩
  rw [← hw] at HS8 HB8 HZ8 ⊢
  clear hw
  obtain ⟨-, k20, k21, k22, k23, k24⟩ := HCw.out _ (sep_get HS8.out 6 rfl)
  go_wp2_with fail
  clear k20 k21 k22 k23 k24
  refine (HC5.out _ HB8.out).mono ?_
  rintro e w9 ⟨v1, rfl, ho, hb⟩
  obtain ⟨p4, q4, rfl⟩ := own_slice ho
  have HS9 := hide (sep_add HS8.out hb (rowA a0 3 1 (.slice p4 x.cd.length q4) x.cd.length (ints x.cd)) (own_down ho HZ8.out) (fun j hj => ho.lt j hj) HZ8.out)
  have HB9 := hide (HTr.out _ _ HB8.out hb)
  have HZ9 : Hid (a0 ≤ w9.heap.size) := hide (Nat.le_trans HZ8.out hb.size)
  clear hb ho
  have y0 : w9.cell? ⟨a0 + 1 + 1, 23, none⟩ = some (.slice none 0 0) := (cell_w (sep_get HS9.out 5 rfl) HDs.out).2.2.2.2.1
  have z0 : w9.frozen? ⟨a0 + 1 + 1, 23, none⟩ = false := (cell_at (sep_get HS9.out 5 rfl) 23).2
  go_upto_region 7 with fail
  clear y0 z0
  have HS10 : Hid (Sep a0 (w9.setCell ⟨a0 + 1 + 1, 23, none⟩ (.slice p4 x.cd.length q4)) _) := hide (sep_tail (r := [.slice p1 x.md.length q1, .slice p2 x.nx.length q2, .slice p3 x.ss.length q3, .slice none 0 0, .slice none 0 0]) (r' := [.slice p1 x.md.length q1, .slice p2 x.nx.length q2, .slice p3 x.ss.length q3, .slice p4 x.cd.length q4, .slice none 0 0]) HS9.out 5 rfl HDs.out 3 (.slice p4 x.cd.length q4) rfl)
  have HB10 := hide (HB9.out.setCell (p := ⟨a0 + 1 + 1, 23, none⟩) hg2 (.slice p4 x.cd.length q4))
  have HZ10 : Hid (a0 ≤ (w9.setCell ⟨a0 + 1 + 1, 23, none⟩ (.slice p4 x.cd.length q4)).heap.size) := hide (by have := HZ9.out; simp; omega)
  obtain ⟨w10, hw⟩ : ∃ wx, wx = w9.setCell ⟨a0 + 1 + 1, 23, none⟩ (.slice p4 x.cd.length q4) := ⟨_, rfl⟩
  rw [← hw] at HS10 HB10 HZ10 ⊢
  clear hw
  obtain ⟨-, k20, k21, k22, k23, k24⟩ := HCw.out _ (sep_get HS10.out 7 rfl)
  go_wp2_with fail
  clear k20 k21 k22 k23 k24
  refine (HC6.out _ HB10.out).mono ?_
  rintro e w11 ⟨v1, rfl, ho, hb⟩
  obtain ⟨p5, q5, rfl⟩ := own_slice ho
  have HS11 := hide (sep_add HS10.out hb (rowA a0 9 1 (.slice p5 x.td.length q5) x.td.length (strs x.td)) (own_down ho HZ10.out) (fun j hj => ho.lt j hj) HZ10.out)
  have HB11 := hide (HTr.out _ _ HB10.out hb)
  have HZ11 : Hid (a0 ≤ w11.heap.size) := hide (Nat.le_trans HZ10.out hb.size)
  clear hb ho
  have y0 : w11.cell? ⟨a0 + 1 + 1, 24, none⟩ = some (.slice none 0 0) := (cell_w (sep_get HS11.out 6 rfl) HDs.out).2.2.2.2.2
  have z0 : w11.frozen? ⟨a0 + 1 + 1, 24, none⟩ = false := (cell_at (sep_get HS11.out 6 rfl) 24).2
  go_upto_region 8 with fail
  clear y0 z0
  have HS12 : Hid (Sep a0 (w11.setCell ⟨a0 + 1 + 1, 24, none⟩ (.slice p5 x.td.length q5)) _) := hide (sep_tail (r := [.slice p1 x.md.length q1, .slice p2 x.nx.length q2, .slice p3 x.ss.length q3, .slice p4 x.cd.length q4, .slice none 0 0]) (r' := [.slice p1 x.md.length q1, .slice p2 x.nx.length q2, .slice p3 x.ss.length q3, .slice p4 x.cd.length q4, .slice p5 x.td.length q5]) HS11.out 6 rfl HDs.out 4 (.slice p5 x.td.length q5) rfl)
  have HB12 := hide (HB11.out.setCell (p := ⟨a0 + 1 + 1, 24, none⟩) hg2 (.slice p5 x.td.length q5))
  have HZ12 : Hid (a0 ≤ (w11.setCell ⟨a0 + 1 + 1, 24, none⟩ (.slice p5 x.td.length q5)).heap.size) := hide (by have := HZ11.out; simp; omega)
  obtain ⟨w12, hw⟩ : ∃ wx, wx = w11.setCell ⟨a0 + 1 + 1, 24, none⟩ (.slice p5 x.td.length q5) := ⟨_, rfl⟩
  rw [← hw] at HS12 HB12 HZ12 ⊢
  clear hw
  have HRg : Hid (w12.rangeAt (a0 + 1 + 1) 0 (ds ++ (#[.slice p1 x.md.length q1, .slice p2 x.nx.length q2, .slice p3 x.ss.length q3, .slice p4 x.cd.length q4, .slice p5 x.td.length q5] : Array Value)).toList) := hide (range_all (sep_get HS12.out 6 rfl))
  have HZF : Hid ((Tryz.prog.info? 59).map (·.size) = some (ds ++ (#[.slice p1 x.md.length q1, .slice p2 x.nx.length q2, .slice p3 x.ss.length q3, .slice p4 x.cd.length q4, .slice p5 x.td.length q5] : Array Value)).size) := hide (by rw [size_w ds HDs.out]; exact Tryz.sizeWorldI2)
  have HTh : Hid (w12.there (a0 + 1) 0 (ds ++ (#[.slice p1 x.md.length q1, .slice p2 x.nx.length q2, .slice p3 x.ss.length q3, .slice p4 x.cd.length q4, .slice p5 x.td.length q5] : Array Value)).size) := hide (there_of (sep_get HS12.out 7 rfl) 0 _ (by rw [size_w ds HDs.out]; decide))
  have HOne := hide (wr_one ds HDo.out p1 p2 p3 p4 p5 x.md.length x.nx.length x.ss.length x.cd.length x.td.length q1 q2 q3 q4 q5)
  have HSf := hide (sep_cellsAll HS12.out 7 rfl (ds ++ (#[.slice p1 x.md.length q1, .slice p2 x.nx.length q2, .slice p3 x.ss.length q3, .slice p4 x.cd.length q4, .slice p5 x.td.length q5] : Array Value)) (by rw [size_w ds HDs.out]; rfl))
  have HBf := hide (below_cells hg1 (ds ++ (#[.slice p1 x.md.length q1, .slice p2 x.nx.length q2, .slice p3 x.ss.length q3, .slice p4 x.cd.length q4, .slice p5 x.td.length q5] : Array Value)).toList 0 w12 HB12.out)
  obtain ⟨wf, hwf⟩ : ∃ wf, wf = w12.setCells (a0 + 1) 0 (ds ++ (#[.slice p1 x.md.length q1, .slice p2 x.nx.length q2, .slice p3 x.ss.length q3, .slice p4 x.cd.length q4, .slice p5 x.td.length q5] : Array Value)).toList := ⟨_, rfl⟩
  rw [← hwf] at HSf HBf
  have HWf := hide hwf.symm
  clear hwf
  go_wp2_with (first | ((with_reducible refine wpList_loadL ?_ 59 (.tmp 3) ?_ (a0 + 1 + 1) 0 ?_ (ds ++ (#[.slice p1 x.md.length q1, .slice p2 x.nx.length q2, .slice p3 x.ss.length q3, .slice p4 x.cd.length q4, .slice p5 x.td.length q5] : Array Value)) HRg.out _ Tryz.underlying59 ?_ ?_ ?_); exact rfl; exact rfl; exact rfl; exact rfl; exact HZF.out) | ((with_reducible refine wpList_storeL ?_ 59 (.tmp 2) (.tmp 28) ?_ (a0 + 1) 0 (ds ++ (#[.slice p1 x.md.length q1, .slice p2 x.nx.length q2, .slice p3 x.ss.length q3, .slice p4 x.cd.length q4, .slice p5 x.td.length q5] : Array Value)) ?_ ?_ HTh.out ?_ ?_ HWf.out ?_); exact rfl; exact rfl; exact rfl; exact rfl; exact HZF.out; exact HOne.out))
  have HRf : Hid (wf.rangeAt (a0 + 1) 0 (ds ++ (#[.slice p1 x.md.length q1, .slice p2 x.nx.length q2, .slice p3 x.ss.length q3, .slice p4 x.cd.length q4, .slice p5 x.td.length q5] : Array Value)).toList) := hide (range_all (sep_get HSf.out 7 rfl))
  refine bodyPost_ret (v := .agg (ds ++ (#[.slice p1 x.md.length q1, .slice p2 x.nx.length q2, .slice p3 x.ss.length q3, .slice p4 x.cd.length q4, .slice p5 x.td.length q5] : Array Value))) (results_c Tryz.results8 rfl (run_agg HRf.out Tryz.underlying59 rfl HZF.out)) rfl ⟨_, rfl, ?_, HBf.out⟩
  have h := sep_pick (pre := [_, _, _, _, _, _, _, _, _]) (rest := []) HSf.out [5, 4, 3, 2, 1, 0] (by decide) [_, _, _, _, _, _] rfl
  have hl := HL.out
  rw [HA.out] at h hl
  exact ⟨ds, L, p1, p2, p3, p4, p5, q1, q2, q3, q4, q5, m, rfl, HDs.out, hl, h⟩
def cntK : Nat → Nat
  | 0 => 0
  | k + 1 => 1 + 4 * cntK k
theorem walkS_len (R : Int → Nd × Bool) (hR : Right R) : ∀ (k : Nat) (p : Int) (deep : Nat) (low high : ByteArray) (has : Bool) (a : Al),
    (walkS R k p deep low high has a).pages.length ≤ a.pages.length + cntK k ∧ (walkS R k p deep low high has a).pairs.length ≤ a.pairs.length + 4 * cntK k ∧ (walkS R k p deep low high has a).depths.length ≤ a.depths.length + cntK k
  | 0, p, deep, low, high, has, a => by rw [walkS, cntK]; exact ⟨Nat.le_refl _, Nat.le_refl _, Nat.le_refl _⟩
  | k + 1, p, deep, low, high, has, a => by
    rw [walkS, cntK]
    split
    · exact ⟨Nat.le_add_right _ _, Nat.le_add_right _ _, Nat.le_add_right _ _⟩
    · rename_i hb
      have hok : (R p).1.ok = true := hR p (by cases hc : (R p).2; exact absurd (Or.inl hc) hb; rfl)
      obtain ⟨c1, c2, -, -⟩ := cnt_yes (node_yes hok).1
      obtain ⟨n, hn⟩ : ∃ n, n = (R p).1 := ⟨_, rfl⟩
      rw [← hn] at c1 c2 ⊢
      cases hlf : n.lf with
      | true =>
        rw [if_pos rfl]
        obtain ⟨h1, h2, h3, h4⟩ := loopS_leaf (walkS R k) n hlf deep low high has { a with pages := a.pages ++ [p] } n.ks.length
        simp only
        rw [h2, h3, h4]
        simp only [List.length_append, List.length_singleton, List.length_map, List.length_range]
        omega
      | false =>
        rw [if_neg (by decide)]
        have key : ∀ i, (loopS (walkS R k) n deep low high has { a with pages := a.pages ++ [p] } i).pages.length ≤ a.pages.length + 1 + i * cntK k ∧ (loopS (walkS R k) n deep low high has { a with pages := a.pages ++ [p] } i).pairs.length ≤ a.pairs.length + 4 * (i * cntK k) ∧ (loopS (walkS R k) n deep low high has { a with pages := a.pages ++ [p] } i).depths.length ≤ a.depths.length + i * cntK k := by
          intro i
          induction i with
          | zero => simp [loopS]
          | succ i ih =>
            rw [loopS, stepS, if_neg (by rw [hlf]; decide)]
            obtain ⟨r1, r2, r3⟩ := walkS_len R hR k (n.cs.getD i 0) (deep + 1) (leastB n i low) (nextB n i high has) (moreB n i high has) (loopS (walkS R k) n deep low high has { a with pages := a.pages ++ [p] } i)
            rw [Nat.succ_mul]
            omega
        obtain ⟨k1, k2, k3⟩ := key n.ks.length
        have hm : n.ks.length * cntK k ≤ 4 * cntK k := Nat.mul_le_mul_right _ c2
        omega
theorem loopS_len (R : Int → Nd × Bool) (hR : Right R) (k : Nat) (n : Nd) (hlf : n.lf = false) (deep : Nat) (low high : ByteArray) (has : Bool) (a : Al) : ∀ i,
    (loopS (walkS R k) n deep low high has a i).pages.length ≤ a.pages.length + i * cntK k ∧ (loopS (walkS R k) n deep low high has a i).pairs.length ≤ a.pairs.length + 4 * (i * cntK k) ∧ (loopS (walkS R k) n deep low high has a i).depths.length ≤ a.depths.length + i * cntK k
  | 0 => by simp [loopS]
  | i + 1 => by
    have ih := loopS_len R hR k n hlf deep low high has a i
    rw [loopS, stepS, if_neg (by rw [hlf]; decide)]
    obtain ⟨r1, r2, r3⟩ := walkS_len R hR k (n.cs.getD i 0) (deep + 1) (leastB n i low) (nextB n i high has) (moreB n i high has) (loopS (walkS R k) n deep low high has a i)
    rw [Nat.succ_mul]
    omega
end Go.Proofs.YtdbpbhemnnffeaaGreatDoor
