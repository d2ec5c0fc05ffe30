/-
  Facts and contracts that the law's own text rests on, by their texts' names: StoreTo, WorldRow, RdRow3, StoreMark, StoreBase, WorldHead, WorldEq.
-/
import Derived.Deep.Cut
import Derived.Test.YtdbpbhemnnffeaaGreatDoorXw13
import Derived.Test.YtdbpbhemnnffeaaGreatDoorXw6
import Derived.Test.YtdbpbhemnnffeaaGreatDoorXw9
import Derived.Test.YtdbpbhemnnffeaaGreatDoorXw11
import Derived.Test.YtdbpbhemnnffeaaGreatDoorXw12
namespace Go.Proofs.YtdbpbhemnnffeaaGreatDoor
open Go.RowKit
theorem Tryz.sizeTxn : (Tryz.prog.info? 53).map (·.size) = some 11 := by kernel_rfl
theorem Tryz.sizeStore : (Tryz.prog.info? 55).map (·.size) = some 20 := by kernel_rfl
set_option maxHeartbeats 16000000 in
set_option maxRecDepth 100000 in
theorem toStore_any (v : Value) (s : St) (hs : s.small) (w : World) (hd : StAt w v s) :
    Calls Tryz.prog 22 #[v] w fun e w' => ∃ v', e = .returned v' ∧ StOwn w' w.heap.size v' s ∧ Below w.heap.size w w' := by
  obtain ⟨vp, vl, vf, vR, vr, up, ul, uu, ug, uf, rfl, h1, h2, h3, h4⟩ := hd
  obtain ⟨mt, e1⟩ : ∃ n, n = s.m.tx := ⟨_, rfl⟩
  obtain ⟨mr, e2⟩ : ∃ n, n = s.m.root := ⟨_, rfl⟩
  obtain ⟨mn, e3⟩ : ∃ n, n = s.m.next := ⟨_, rfl⟩
  obtain ⟨tt, e4⟩ : ∃ n, n = s.tm.tx := ⟨_, rfl⟩
  obtain ⟨ur, e5⟩ : ∃ n, n = s.tm.root := ⟨_, rfl⟩
  obtain ⟨tn, e6⟩ : ∃ n, n = s.tm.next := ⟨_, rfl⟩
  obtain ⟨wn, e7⟩ : ∃ n, n = s.tk.next := ⟨_, rfl⟩
  obtain ⟨tr, e8⟩ : ∃ n, n = s.tr := ⟨_, rfl⟩
  obtain ⟨bw, e9⟩ : ∃ n, n = s.wr := ⟨_, rfl⟩
  obtain ⟨bf, e10⟩ : ∃ n, n = s.fl := ⟨_, rfl⟩
  have HL : Hid (mt = s.m.tx ∧ mr = s.m.root ∧ mn = s.m.next ∧ tt = s.tm.tx ∧ ur = s.tm.root ∧ tn = s.tm.next ∧ wn = s.tk.next ∧ tr = s.tr ∧ bw = s.wr ∧ bf = s.fl) := hide ⟨e1, e2, e3, e4, e5, e6, e7, e8, e9, e10⟩
  rw [← e1, ← e2, ← e3] at h2
  rw [← e4, ← e5, ← e6, ← e7, ← e8] at h4
  rw [← e1, ← e2, ← e3, ← e4, ← e5, ← e6, ← e7, ← e8, ← e9, ← e10]
  have HD := hide h1
  have HM := hide h2
  have HR := hide h3
  have HT := hide h4
  clear h1 h2 h3 h4 e1 e2 e3 e4 e5 e6 e7 e8 e9 e10
  obtain ⟨f1, f2, f3, f4, f5⟩ := hs
  have HC0 := hide (fun a wx h => toDisk_any a s.ps s.ls f1.1 f1.2.2.1 wx h)
  have HC1 := hide (fun a wx h => toMeta_any a s.m f2.1 f2.2 wx h)
  have HC2 := hide (fun a wx h => toReaderS_any s.rs f3.1 f3.2 a wx h)
  have HC3 := hide (fun a wx h => toTxn_any a s.tm s.tk tr f4.1 f4.2 f5 wx h)
  clear f1 f2 f3 f4 f5
  obtain ⟨a0, ha0⟩ : ∃ a, a = w.heap.size := ⟨_, rfl⟩
  have hS0 := sep_new (sep_new (sep_new (sep_nil w.heap.size w) (Obj.cells #[vp, vl, .int .i64 mt, .int .i64 mr, .int .i64 mn, vf, vR, .int .i64 tt, .int .i64 ur, .int .i64 tn, vr, up, ul, .int .i64 wn, uu, ug, uf, .int .i64 tr, .bool bw, .bool bf] 36) (Nat.le_refl _)) (Obj.cells #[.slice none 0 0, .slice none 0 0, .int .i64 0, .int .i64 0, .int .i64 0, .slice none 0 0, .slice none 0 0, .int .i64 0, .int .i64 0, .int .i64 0, .slice none 0 0, .slice none 0 0, .slice none 0 0, .int .i64 0, .slice none 0 0, .slice none 0 0, .slice none 0 0, .int .i64 0, .bool false, .bool false] 55) (by simp)) (Obj.cells #[.slice none 0 0, .slice none 0 0, .int .i64 0, .int .i64 0, .int .i64 0, .slice none 0 0, .slice none 0 0, .int .i64 0, .int .i64 0, .int .i64 0, .slice none 0 0, .slice none 0 0, .slice none 0 0, .int .i64 0, .slice none 0 0, .slice none 0 0, .slice none 0 0, .int .i64 0, .bool false, .bool false] 55) (by simp; omega)
  obtain ⟨w0, hw0⟩ : ∃ w0, w0 = ((w.alloc (Obj.cells #[vp, vl, .int .i64 mt, .int .i64 mr, .int .i64 mn, vf, vR, .int .i64 tt, .int .i64 ur, .int .i64 tn, vr, up, ul, .int .i64 wn, uu, ug, uf, .int .i64 tr, .bool bw, .bool bf] 36)).alloc (Obj.cells #[.slice none 0 0, .slice none 0 0, .int .i64 0, .int .i64 0, .int .i64 0, .slice none 0 0, .slice none 0 0, .int .i64 0, .int .i64 0, .int .i64 0, .slice none 0 0, .slice none 0 0, .slice none 0 0, .int .i64 0, .slice none 0 0, .slice none 0 0, .slice none 0 0, .int .i64 0, .bool false, .bool false] 55)).alloc (Obj.cells #[.slice none 0 0, .slice none 0 0, .int .i64 0, .int .i64 0, .int .i64 0, .slice none 0 0, .slice none 0 0, .int .i64 0, .int .i64 0, .int .i64 0, .slice none 0 0, .slice none 0 0, .slice none 0 0, .int .i64 0, .slice none 0 0, .slice none 0 0, .slice none 0 0, .int .i64 0, .bool false, .bool false] 55) := ⟨_, rfl⟩
  rw [World.size_alloc, World.size_alloc, ← hw0, ← ha0] at hS0
  have HS0 := hide hS0
  have HB0 : Hid (Below w.heap.size w w0) := hide (by rw [hw0]; exact (((Below.refl w.heap.size w).alloc (Nat.le_refl _) _).alloc (by simp) _).alloc (by simp; omega) _)
  have HZ0 : Hid (a0 ≤ w0.heap.size) := hide (by rw [hw0, ha0]; simp; omega)
  have HA := hide ha0
  have hg2 : w.heap.size ≤ a0 + 1 + 1 := by omega
  have hg1 : w.heap.size ≤ a0 + 1 := by omega
  clear hS0 ha0
  go_enter Tryz.func22, Tryz.ntmps22
  go_wp2_with fail
  rw [← hw0, ← HA.out]
  clear hw0
  refine (HC0.out _ _ (disk_below HD.out HB0.out)).mono ?_
  rintro e w1 ⟨v1, rfl, ho, hb⟩
  obtain ⟨p1, q1, p2, q2, ev⟩ := disk_form ho
  subst ev
  have HS1 := hide (sep_add HS0.out hb (diskA a0 _ s.ps s.ls) (disk_downQ ho HZ0.out) (fun j hj => diskOwn_lt ho j hj) HZ0.out)
  have HB1 : Hid (Below w.heap.size w w1) := hide (HB0.out.trans (hb.mono HB0.out.size))
  have HZ1 : Hid (a0 ≤ w1.heap.size) := hide (Nat.le_trans HZ0.out hb.size)
  clear hb ho
  obtain ⟨n1, hn1⟩ : ∃ n, n = s.ps.length := ⟨_, rfl⟩
  obtain ⟨n2, hn2⟩ : ∃ n, n = s.ls.length := ⟨_, rfl⟩
  rw [← hn1, ← hn2] at HS1 ⊢
  have HN0 := hide (⟨hn1, hn2⟩ : _ ∧ _)
  clear hn1 hn2
  have HV : Hid (w1.heap[a0 + 1 + 1]? = some (Obj.cells #[.slice none 0 0, .slice none 0 0, .int .i64 0, .int .i64 0, .int .i64 0, .slice none 0 0, .slice none 0 0, .int .i64 0, .int .i64 0, .int .i64 0, .slice none 0 0, .slice none 0 0, .slice none 0 0, .int .i64 0, .slice none 0 0, .slice none 0 0, .slice none 0 0, .int .i64 0, .bool false, .bool false] 55)) := hide (sep_get HS1.out 1 rfl)
  have y0 : w1.cell? ⟨a0 + 1 + 1, 0, none⟩ = some (.slice none 0 0) := (cell_at HV.out 0).1
  have z0 : w1.frozen? ⟨a0 + 1 + 1, 0, none⟩ = false := (cell_at HV.out 0).2
  have y1 : w1.cell? ⟨a0 + 1 + 1, 1, none⟩ = some (.slice none 0 0) := (cell_at HV.out 1).1
  have z1 : w1.frozen? ⟨a0 + 1 + 1, 1, none⟩ = false := (cell_at HV.out 1).2
  clear HV
  go_upto_region 3 with fail
  clear y0 y1 z0 z1
  have HS2 : Hid (Sep a0 ((w1.setCell ⟨a0 + 1 + 1, 0, none⟩ (.slice p1 n1 q1)).setCell ⟨a0 + 1 + 1, 1, none⟩ (.slice p2 n2 q2)) _) := hide (sep_store (sep_store HS1.out 1 rfl 0 (.slice p1 n1 q1)) 1 rfl 1 (.slice p2 n2 q2))
  obtain ⟨w2, hw2⟩ : ∃ wx, wx = ((w1.setCell ⟨a0 + 1 + 1, 0, none⟩ (.slice p1 n1 q1)).setCell ⟨a0 + 1 + 1, 1, none⟩ (.slice p2 n2 q2)) := ⟨_, rfl⟩
  have HB2 : Hid (Below w.heap.size w w2) := hide (by rw [hw2]; exact ((HB1.out.setCell (p := ⟨a0 + 1 + 1, 0, none⟩) hg2 (.slice p1 n1 q1)).setCell (p := ⟨a0 + 1 + 1, 1, none⟩) hg2 (.slice p2 n2 q2)))
  have HZ2 : Hid (a0 ≤ w2.heap.size) := hide (by rw [hw2]; have := HZ1.out; simp; omega)
  rw [← hw2] at HS2 ⊢
  clear hw2
  have HV : Hid (w2.heap[a0]? = some (Obj.cells #[vp, vl, .int .i64 mt, .int .i64 mr, .int .i64 mn, vf, vR, .int .i64 tt, .int .i64 ur, .int .i64 tn, vr, up, ul, .int .i64 wn, uu, ug, uf, .int .i64 tr, .bool bw, .bool bf] 36)) := hide (sep_get HS2.out 3 rfl)
  have x2 : w2.cell? ⟨a0, 2, none⟩ = some (.int .i64 mt) := (cell_at HV.out 2).1
  have x3 : w2.cell? ⟨a0, 3, none⟩ = some (.int .i64 mr) := (cell_at HV.out 3).1
  have x4 : w2.cell? ⟨a0, 4, none⟩ = some (.int .i64 mn) := (cell_at HV.out 4).1
  have x5 : w2.cell? ⟨a0, 5, none⟩ = some (vf) := (cell_at HV.out 5).1
  clear HV
  go_wp2_with fail
  clear x2 x3 x4 x5
  refine (HC1.out _ _ (meta_below HM.out HB2.out)).mono ?_
  rintro e w3 ⟨v1, rfl, hm, hb⟩
  obtain ⟨xr, l1, ev, ho⟩ := hm
  obtain ⟨p3, q3, rfl⟩ := own_slice ho.1
  rw [← HL.out.1, ← HL.out.2.1, ← HL.out.2.2.1] at ev
  subst ev
  have HS3 := hide (sep_add HS2.out hb (freesA a0 (.slice p3 s.m.fs.length q3) l1 s.m.fs) (ownF_down ho HZ2.out) (fun j hj => ownF_lt ho j hj) HZ2.out)
  have HB3 : Hid (Below w.heap.size w w3) := hide (HB2.out.trans (hb.mono HB2.out.size))
  have HZ3 : Hid (a0 ≤ w3.heap.size) := hide (Nat.le_trans HZ2.out hb.size)
  clear hb ho
  obtain ⟨n3, hn3⟩ : ∃ n, n = s.m.fs.length := ⟨_, rfl⟩
  rw [← hn3] at HS3 ⊢
  have HN1 := hide (hn3)
  clear hn3
  have HV : Hid (w3.heap[a0 + 1 + 1]? = some (Obj.cells #[.slice p1 n1 q1, .slice p2 n2 q2, .int .i64 0, .int .i64 0, .int .i64 0, .slice none 0 0, .slice none 0 0, .int .i64 0, .int .i64 0, .int .i64 0, .slice none 0 0, .slice none 0 0, .slice none 0 0, .int .i64 0, .slice none 0 0, .slice none 0 0, .slice none 0 0, .int .i64 0, .bool false, .bool false] 55)) := hide (sep_get HS3.out 2 rfl)
  have y2 : w3.cell? ⟨a0 + 1 + 1, 2, none⟩ = some (.int .i64 0) := (cell_at HV.out 2).1
  have z2 : w3.frozen? ⟨a0 + 1 + 1, 2, none⟩ = false := (cell_at HV.out 2).2
  have y3 : w3.cell? ⟨a0 + 1 + 1, 3, none⟩ = some (.int .i64 0) := (cell_at HV.out 3).1
  have z3 : w3.frozen? ⟨a0 + 1 + 1, 3, none⟩ = false := (cell_at HV.out 3).2
  have y4 : w3.cell? ⟨a0 + 1 + 1, 4, none⟩ = some (.int .i64 0) := (cell_at HV.out 4).1
  have z4 : w3.frozen? ⟨a0 + 1 + 1, 4, none⟩ = false := (cell_at HV.out 4).2
  have y5 : w3.cell? ⟨a0 + 1 + 1, 5, none⟩ = some (.slice none 0 0) := (cell_at HV.out 5).1
  have z5 : w3.frozen? ⟨a0 + 1 + 1, 5, none⟩ = false := (cell_at HV.out 5).2
  clear HV
  go_upto_region 4 with fail
  clear y2 y3 y4 y5 z2 z3 z4 z5
  have HS4 : Hid (Sep a0 ((((w3.setCell ⟨a0 + 1 + 1, 2, none⟩ (.int .i64 mt)).setCell ⟨a0 + 1 + 1, 3, none⟩ (.int .i64 mr)).setCell ⟨a0 + 1 + 1, 4, none⟩ (.int .i64 mn)).setCell ⟨a0 + 1 + 1, 5, none⟩ (.slice p3 n3 q3)) _) := hide (sep_store (sep_store (sep_store (sep_store HS3.out 2 rfl 2 (.int .i64 mt)) 2 rfl 3 (.int .i64 mr)) 2 rfl 4 (.int .i64 mn)) 2 rfl 5 (.slice p3 n3 q3))
  obtain ⟨w4, hw4⟩ : ∃ wx, wx = ((((w3.setCell ⟨a0 + 1 + 1, 2, none⟩ (.int .i64 mt)).setCell ⟨a0 + 1 + 1, 3, none⟩ (.int .i64 mr)).setCell ⟨a0 + 1 + 1, 4, none⟩ (.int .i64 mn)).setCell ⟨a0 + 1 + 1, 5, none⟩ (.slice p3 n3 q3)) := ⟨_, rfl⟩
  have HB4 : Hid (Below w.heap.size w w4) := hide (by rw [hw4]; exact ((((HB3.out.setCell (p := ⟨a0 + 1 + 1, 2, none⟩) hg2 (.int .i64 mt)).setCell (p := ⟨a0 + 1 + 1, 3, none⟩) hg2 (.int .i64 mr)).setCell (p := ⟨a0 + 1 + 1, 4, none⟩) hg2 (.int .i64 mn)).setCell (p := ⟨a0 + 1 + 1, 5, none⟩) hg2 (.slice p3 n3 q3)))
  have HZ4 : Hid (a0 ≤ w4.heap.size) := hide (by rw [hw4]; have := HZ3.out; simp; omega)
  rw [← hw4] at HS4 ⊢
  clear hw4
  have HV : Hid (w4.heap[a0]? = some (Obj.cells #[vp, vl, .int .i64 mt, .int .i64 mr, .int .i64 mn, vf, vR, .int .i64 tt, .int .i64 ur, .int .i64 tn, vr, up, ul, .int .i64 wn, uu, ug, uf, .int .i64 tr, .bool bw, .bool bf] 36)) := hide (sep_get HS4.out 4 rfl)
  have x6 : w4.cell? ⟨a0, 6, none⟩ = some (vR) := (cell_at HV.out 6).1
  clear HV
  go_wp2_with fail
  clear x6
  refine (HC2.out _ _ (rds_below HR.out HB4.out)).mono ?_
  rintro e w5 ⟨v1, us, rfl, hus, ho, hb⟩
  obtain ⟨p4, q4, rfl⟩ := own_slice (sep_get ho 0 rfl)
  have HUs := hide hus
  have HS5 := hide (sep_pack (sep_joinL HS4.out hb ho (asIs_rds HZ4.out _ us s.rs) HZ4.out))
  have HB5 : Hid (Below w.heap.size w w5) := hide (HB4.out.trans (hb.mono HB4.out.size))
  have HZ5 : Hid (a0 ≤ w5.heap.size) := hide (Nat.le_trans HZ4.out hb.size)
  clear hb ho
  clear hus
  obtain ⟨n4, hn4⟩ : ∃ n, n = s.rs.length := ⟨_, rfl⟩
  rw [← hn4] at HS5 ⊢
  have HN2 := hide (hn4)
  clear hn4
  have HV : Hid (w5.heap[a0 + 1 + 1]? = some (Obj.cells #[.slice p1 n1 q1, .slice p2 n2 q2, .int .i64 mt, .int .i64 mr, .int .i64 mn, .slice p3 n3 q3, .slice none 0 0, .int .i64 0, .int .i64 0, .int .i64 0, .slice none 0 0, .slice none 0 0, .slice none 0 0, .int .i64 0, .slice none 0 0, .slice none 0 0, .slice none 0 0, .int .i64 0, .bool false, .bool false] 55)) := hide (sep_get HS5.out 3 rfl)
  have y6 : w5.cell? ⟨a0 + 1 + 1, 6, none⟩ = some (.slice none 0 0) := (cell_at HV.out 6).1
  have z6 : w5.frozen? ⟨a0 + 1 + 1, 6, none⟩ = false := (cell_at HV.out 6).2
  clear HV
  go_upto_region 5 with fail
  clear y6 z6
  have HS6 : Hid (Sep a0 (w5.setCell ⟨a0 + 1 + 1, 6, none⟩ (.slice p4 n4 q4)) _) := hide (sep_store HS5.out 3 rfl 6 (.slice p4 n4 q4))
  obtain ⟨w6, hw6⟩ : ∃ wx, wx = (w5.setCell ⟨a0 + 1 + 1, 6, none⟩ (.slice p4 n4 q4)) := ⟨_, rfl⟩
  have HB6 : Hid (Below w.heap.size w w6) := hide (by rw [hw6]; exact (HB5.out.setCell (p := ⟨a0 + 1 + 1, 6, none⟩) hg2 (.slice p4 n4 q4)))
  have HZ6 : Hid (a0 ≤ w6.heap.size) := hide (by rw [hw6]; have := HZ5.out; simp; omega)
  rw [← hw6] at HS6 ⊢
  clear hw6
  have HV : Hid (w6.heap[a0]? = some (Obj.cells #[vp, vl, .int .i64 mt, .int .i64 mr, .int .i64 mn, vf, vR, .int .i64 tt, .int .i64 ur, .int .i64 tn, vr, up, ul, .int .i64 wn, uu, ug, uf, .int .i64 tr, .bool bw, .bool bf] 36)) := hide (sep_get HS6.out 5 rfl)
  have x7 : w6.cell? ⟨a0, 7, none⟩ = some (.int .i64 tt) := (cell_at HV.out 7).1
  have x8 : w6.cell? ⟨a0, 8, none⟩ = some (.int .i64 ur) := (cell_at HV.out 8).1
  have x9 : w6.cell? ⟨a0, 9, none⟩ = some (.int .i64 tn) := (cell_at HV.out 9).1
  have x10 : w6.cell? ⟨a0, 10, none⟩ = some (vr) := (cell_at HV.out 10).1
  have x11 : w6.cell? ⟨a0, 11, none⟩ = some (up) := (cell_at HV.out 11).1
  have x12 : w6.cell? ⟨a0, 12, none⟩ = some (ul) := (cell_at HV.out 12).1
  have x13 : w6.cell? ⟨a0, 13, none⟩ = some (.int .i64 wn) := (cell_at HV.out 13).1
  have x14 : w6.cell? ⟨a0, 14, none⟩ = some (uu) := (cell_at HV.out 14).1
  have x15 : w6.cell? ⟨a0, 15, none⟩ = some (ug) := (cell_at HV.out 15).1
  have x16 : w6.cell? ⟨a0, 16, none⟩ = some (uf) := (cell_at HV.out 16).1
  have x17 : w6.cell? ⟨a0, 17, none⟩ = some (.int .i64 tr) := (cell_at HV.out 17).1
  clear HV
  go_wp2_with fail
  clear x7 x8 x9 x10 x11 x12 x13 x14 x15 x16 x17
  refine (HC3.out _ _ (txn_below HT.out HB6.out)).mono ?_
  rintro e w7 ⟨v1, rfl, hm, hb⟩
  obtain ⟨l2, p5, q5, p6, q6, p7, q7, p8, q8, p9, q9, p10, q10, ev, ho⟩ := hm
  rw [← HL.out.2.2.2.1, ← HL.out.2.2.2.2.1, ← HL.out.2.2.2.2.2.1, ← HL.out.2.2.2.2.2.2.1] at ev
  rw [← HL.out.2.2.2.2.2.2.1] at ho
  subst ev
  have HS7 := hide (sep_joinL (l'' := [freesA a0 (.slice p5 s.tm.fs.length q5) l2 s.tm.fs, workA a0 (.agg #[.slice p6 s.tk.ps.length q6, .slice p7 s.tk.ls.length q7, .int .i64 wn, .slice p8 s.tk.us.length q8, .slice p9 s.tk.gs.length q9, .slice p10 s.tk.fs.length q10]) s.tk]) HS6.out hb ho ⟨asIs_frees HZ6.out _ _ _, asIs_work HZ6.out _ _, trivial⟩ HZ6.out)
  have HB7 : Hid (Below w.heap.size w w7) := hide (HB6.out.trans (hb.mono HB6.out.size))
  have HZ7 : Hid (a0 ≤ w7.heap.size) := hide (Nat.le_trans HZ6.out hb.size)
  clear hb ho
  obtain ⟨n5, hn5⟩ : ∃ n, n = s.tm.fs.length := ⟨_, rfl⟩
  obtain ⟨n6, hn6⟩ : ∃ n, n = s.tk.ps.length := ⟨_, rfl⟩
  obtain ⟨n7, hn7⟩ : ∃ n, n = s.tk.ls.length := ⟨_, rfl⟩
  obtain ⟨n8, hn8⟩ : ∃ n, n = s.tk.us.length := ⟨_, rfl⟩
  obtain ⟨n9, hn9⟩ : ∃ n, n = s.tk.gs.length := ⟨_, rfl⟩
  obtain ⟨n10, hn10⟩ : ∃ n, n = s.tk.fs.length := ⟨_, rfl⟩
  rw [← hn5, ← hn6, ← hn7, ← hn8, ← hn9, ← hn10] at HS7 ⊢
  have HN3 := hide (⟨hn5, hn6, hn7, hn8, hn9, hn10⟩ : _ ∧ _ ∧ _ ∧ _ ∧ _ ∧ _)
  clear hn5 hn6 hn7 hn8 hn9 hn10
  have HTh : Hid (w7.there (a0 + 1 + 1) 7 (#[.int .i64 tt, .int .i64 ur, .int .i64 tn, .slice p5 n5 q5, .slice p6 n6 q6, .slice p7 n7 q7, .int .i64 wn, .slice p8 n8 q8, .slice p9 n9 q9, .slice p10 n10 q10, .int .i64 tr] : Array Value).size) := hide (there_of (sep_get HS7.out 5 rfl : w7.heap[a0 + 1 + 1]? = some (Obj.cells #[.slice p1 n1 q1, .slice p2 n2 q2, .int .i64 mt, .int .i64 mr, .int .i64 mn, .slice p3 n3 q3, .slice p4 n4 q4, .int .i64 0, .int .i64 0, .int .i64 0, .slice none 0 0, .slice none 0 0, .slice none 0 0, .int .i64 0, .slice none 0 0, .slice none 0 0, .slice none 0 0, .int .i64 0, .bool false, .bool false] 55)) 7 11 (show 7 + 11 ≤ 20 by decide))
  obtain ⟨w8, hw8⟩ : ∃ wx, wx = w7.setCells (a0 + 1 + 1) 7 (#[.int .i64 tt, .int .i64 ur, .int .i64 tn, .slice p5 n5 q5, .slice p6 n6 q6, .slice p7 n7 q7, .int .i64 wn, .slice p8 n8 q8, .slice p9 n9 q9, .slice p10 n10 q10, .int .i64 tr] : Array Value).toList := ⟨_, rfl⟩
  have HS8 := sep_cellsTo HS7.out 5 rfl 7 (#[.int .i64 tt, .int .i64 ur, .int .i64 tn, .slice p5 n5 q5, .slice p6 n6 q6, .slice p7 n7 q7, .int .i64 wn, .slice p8 n8 q8, .slice p9 n9 q9, .slice p10 n10 q10, .int .i64 tr] : Array Value).toList #[.slice p1 n1 q1, .slice p2 n2 q2, .int .i64 mt, .int .i64 mr, .int .i64 mn, .slice p3 n3 q3, .slice p4 n4 q4, .int .i64 tt, .int .i64 ur, .int .i64 tn, .slice p5 n5 q5, .slice p6 n6 q6, .slice p7 n7 q7, .int .i64 wn, .slice p8 n8 q8, .slice p9 n9 q9, .slice p10 n10 q10, .int .i64 tr, .bool false, .bool false] (by kernel_rfl)
  have HB8 := below_cells hg2 (#[.int .i64 tt, .int .i64 ur, .int .i64 tn, .slice p5 n5 q5, .slice p6 n6 q6, .slice p7 n7 q7, .int .i64 wn, .slice p8 n8 q8, .slice p9 n9 q9, .slice p10 n10 q10, .int .i64 tr] : Array Value).toList 7 w7 HB7.out
  have HZ8 : Hid (a0 ≤ w8.heap.size) := hide (by rw [hw8, size_cells]; exact HZ7.out)
  rw [← hw8] at HS8 HB8
  have HW8 := hide hw8.symm
  have HS8 := hide HS8
  have HB8 := hide HB8
  clear hw8
  go_upto_region 6 with ((with_reducible refine wpList_storeL ?_ 53 (.tmp 19) (.tmp 18) ?_ (a0 + 1 + 1) 7 #[.int .i64 tt, .int .i64 ur, .int .i64 tn, .slice p5 n5 q5, .slice p6 n6 q6, .slice p7 n7 q7, .int .i64 wn, .slice p8 n8 q8, .slice p9 n9 q9, .slice p10 n10 q10, .int .i64 tr] ?_ ?_ HTh.out ?_ ?_ HW8.out ?_); exact rfl; exact rfl; exact rfl; exact rfl; exact Tryz.sizeTxn; exact rfl)
  clear HTh HW8
  have HV : Hid (w8.heap[a0]? = some (Obj.cells #[vp, vl, .int .i64 mt, .int .i64 mr, .int .i64 mn, vf, vR, .int .i64 tt, .int .i64 ur, .int .i64 tn, vr, up, ul, .int .i64 wn, uu, ug, uf, .int .i64 tr, .bool bw, .bool bf] 36)) := hide (sep_get HS8.out 7 rfl)
  have x18 : w8.cell? ⟨a0, 18, none⟩ = some (.bool bw) := (cell_at HV.out 18).1
  have x19 : w8.cell? ⟨a0, 19, none⟩ = some (.bool bf) := (cell_at HV.out 19).1
  clear HV
  have HV : Hid (w8.heap[a0 + 1 + 1]? = some (Obj.cells #[.slice p1 n1 q1, .slice p2 n2 q2, .int .i64 mt, .int .i64 mr, .int .i64 mn, .slice p3 n3 q3, .slice p4 n4 q4, .int .i64 tt, .int .i64 ur, .int .i64 tn, .slice p5 n5 q5, .slice p6 n6 q6, .slice p7 n7 q7, .int .i64 wn, .slice p8 n8 q8, .slice p9 n9 q9, .slice p10 n10 q10, .int .i64 tr, .bool false, .bool false] 55)) := hide (sep_get HS8.out 5 rfl)
  have y18 : w8.cell? ⟨a0 + 1 + 1, 18, none⟩ = some (.bool false) := (cell_at HV.out 18).1
  have z18 : w8.frozen? ⟨a0 + 1 + 1, 18, none⟩ = false := (cell_at HV.out 18).2
  have y19 : w8.cell? ⟨a0 + 1 + 1, 19, none⟩ = some (.bool false) := (cell_at HV.out 19).1
  have z19 : w8.frozen? ⟨a0 + 1 + 1, 19, none⟩ = false := (cell_at HV.out 19).2
  clear HV
  have hne : a0 ≠ a0 + 1 + 1 := by omega
  go_upto_region 8 with fail
  clear x18 x19 y18 y19 z18 z19 hne
  have HS9 : Hid (Sep a0 ((w8.setCell ⟨a0 + 1 + 1, 18, none⟩ (.bool bw)).setCell ⟨a0 + 1 + 1, 19, none⟩ (.bool bf)) _) := hide (sep_store (sep_store HS8.out 5 rfl 18 (.bool bw)) 5 rfl 19 (.bool bf))
  obtain ⟨w9, hw9⟩ : ∃ wx, wx = ((w8.setCell ⟨a0 + 1 + 1, 18, none⟩ (.bool bw)).setCell ⟨a0 + 1 + 1, 19, none⟩ (.bool bf)) := ⟨_, rfl⟩
  have HB9 : Hid (Below w.heap.size w w9) := hide (by rw [hw9]; exact ((HB8.out.setCell (p := ⟨a0 + 1 + 1, 18, none⟩) hg2 (.bool bw)).setCell (p := ⟨a0 + 1 + 1, 19, none⟩) hg2 (.bool bf)))
  have HZ9 : Hid (a0 ≤ w9.heap.size) := hide (by rw [hw9]; have := HZ8.out; simp; omega)
  rw [← hw9] at HS9 ⊢
  clear hw9
  have HRg : Hid (w9.rangeAt (a0 + 1 + 1) 0 (#[.slice p1 n1 q1, .slice p2 n2 q2, .int .i64 mt, .int .i64 mr, .int .i64 mn, .slice p3 n3 q3, .slice p4 n4 q4, .int .i64 tt, .int .i64 ur, .int .i64 tn, .slice p5 n5 q5, .slice p6 n6 q6, .slice p7 n7 q7, .int .i64 wn, .slice p8 n8 q8, .slice p9 n9 q9, .slice p10 n10 q10, .int .i64 tr, .bool bw, .bool bf] : Array Value).toList) := hide (range_all (sep_get HS9.out 5 rfl : w9.heap[a0 + 1 + 1]? = some (Obj.cells #[.slice p1 n1 q1, .slice p2 n2 q2, .int .i64 mt, .int .i64 mr, .int .i64 mn, .slice p3 n3 q3, .slice p4 n4 q4, .int .i64 tt, .int .i64 ur, .int .i64 tn, .slice p5 n5 q5, .slice p6 n6 q6, .slice p7 n7 q7, .int .i64 wn, .slice p8 n8 q8, .slice p9 n9 q9, .slice p10 n10 q10, .int .i64 tr, .bool bw, .bool bf] 55)))
  have HTh : Hid (w9.there (a0 + 1) 0 (#[.slice p1 n1 q1, .slice p2 n2 q2, .int .i64 mt, .int .i64 mr, .int .i64 mn, .slice p3 n3 q3, .slice p4 n4 q4, .int .i64 tt, .int .i64 ur, .int .i64 tn, .slice p5 n5 q5, .slice p6 n6 q6, .slice p7 n7 q7, .int .i64 wn, .slice p8 n8 q8, .slice p9 n9 q9, .slice p10 n10 q10, .int .i64 tr, .bool bw, .bool bf] : Array Value).size) := hide (there_of (sep_get HS9.out 6 rfl : w9.heap[a0 + 1]? = some (Obj.cells #[.slice none 0 0, .slice none 0 0, .int .i64 0, .int .i64 0, .int .i64 0, .slice none 0 0, .slice none 0 0, .int .i64 0, .int .i64 0, .int .i64 0, .slice none 0 0, .slice none 0 0, .slice none 0 0, .int .i64 0, .slice none 0 0, .slice none 0 0, .slice none 0 0, .int .i64 0, .bool false, .bool false] 55)) 0 20 (show 0 + 20 ≤ 20 by decide))
  obtain ⟨wf, hwf⟩ : ∃ wf, wf = w9.setCells (a0 + 1) 0 (#[.slice p1 n1 q1, .slice p2 n2 q2, .int .i64 mt, .int .i64 mr, .int .i64 mn, .slice p3 n3 q3, .slice p4 n4 q4, .int .i64 tt, .int .i64 ur, .int .i64 tn, .slice p5 n5 q5, .slice p6 n6 q6, .slice p7 n7 q7, .int .i64 wn, .slice p8 n8 q8, .slice p9 n9 q9, .slice p10 n10 q10, .int .i64 tr, .bool bw, .bool bf] : Array Value).toList := ⟨_, rfl⟩
  have HSf := sep_cellsAll HS9.out 6 rfl #[.slice p1 n1 q1, .slice p2 n2 q2, .int .i64 mt, .int .i64 mr, .int .i64 mn, .slice p3 n3 q3, .slice p4 n4 q4, .int .i64 tt, .int .i64 ur, .int .i64 tn, .slice p5 n5 q5, .slice p6 n6 q6, .slice p7 n7 q7, .int .i64 wn, .slice p8 n8 q8, .slice p9 n9 q9, .slice p10 n10 q10, .int .i64 tr, .bool bw, .bool bf] rfl
  have HBf := below_cells hg1 (#[.slice p1 n1 q1, .slice p2 n2 q2, .int .i64 mt, .int .i64 mr, .int .i64 mn, .slice p3 n3 q3, .slice p4 n4 q4, .int .i64 tt, .int .i64 ur, .int .i64 tn, .slice p5 n5 q5, .slice p6 n6 q6, .slice p7 n7 q7, .int .i64 wn, .slice p8 n8 q8, .slice p9 n9 q9, .slice p10 n10 q10, .int .i64 tr, .bool bw, .bool bf] : Array Value).toList 0 w9 HB9.out
  rw [← hwf] at HSf HBf
  have HWf := hide hwf.symm
  have HSf := hide HSf
  have HBf := hide HBf
  clear hwf
  go_wp2_with (first | ((with_reducible refine wpList_loadL ?_ 55 (.tmp 3) ?_ (a0 + 1 + 1) 0 ?_ #[.slice p1 n1 q1, .slice p2 n2 q2, .int .i64 mt, .int .i64 mr, .int .i64 mn, .slice p3 n3 q3, .slice p4 n4 q4, .int .i64 tt, .int .i64 ur, .int .i64 tn, .slice p5 n5 q5, .slice p6 n6 q6, .slice p7 n7 q7, .int .i64 wn, .slice p8 n8 q8, .slice p9 n9 q9, .slice p10 n10 q10, .int .i64 tr, .bool bw, .bool bf] HRg.out _ Tryz.underlying55 ?_ ?_ ?_); exact rfl; exact rfl; exact rfl; exact rfl; exact Tryz.sizeStore) | ((with_reducible refine wpList_storeL ?_ 55 (.tmp 2) (.tmp 26) ?_ (a0 + 1) 0 #[.slice p1 n1 q1, .slice p2 n2 q2, .int .i64 mt, .int .i64 mr, .int .i64 mn, .slice p3 n3 q3, .slice p4 n4 q4, .int .i64 tt, .int .i64 ur, .int .i64 tn, .slice p5 n5 q5, .slice p6 n6 q6, .slice p7 n7 q7, .int .i64 wn, .slice p8 n8 q8, .slice p9 n9 q9, .slice p10 n10 q10, .int .i64 tr, .bool bw, .bool bf] ?_ ?_ HTh.out ?_ ?_ HWf.out ?_); exact rfl; exact rfl; exact rfl; exact rfl; exact Tryz.sizeStore; exact rfl))
  have HRf : Hid (wf.rangeAt (a0 + 1) 0 (#[.slice p1 n1 q1, .slice p2 n2 q2, .int .i64 mt, .int .i64 mr, .int .i64 mn, .slice p3 n3 q3, .slice p4 n4 q4, .int .i64 tt, .int .i64 ur, .int .i64 tn, .slice p5 n5 q5, .slice p6 n6 q6, .slice p7 n7 q7, .int .i64 wn, .slice p8 n8 q8, .slice p9 n9 q9, .slice p10 n10 q10, .int .i64 tr, .bool bw, .bool bf] : Array Value).toList) := hide (range_all (sep_get HSf.out 6 rfl))
  refine bodyPost_ret (v := .agg #[.slice p1 n1 q1, .slice p2 n2 q2, .int .i64 mt, .int .i64 mr, .int .i64 mn, .slice p3 n3 q3, .slice p4 n4 q4, .int .i64 tt, .int .i64 ur, .int .i64 tn, .slice p5 n5 q5, .slice p6 n6 q6, .slice p7 n7 q7, .int .i64 wn, .slice p8 n8 q8, .slice p9 n9 q9, .slice p10 n10 q10, .int .i64 tr, .bool bw, .bool bf]) (results_c Tryz.results22 rfl (run_agg HRf.out Tryz.underlying55 rfl Tryz.sizeStore)) rfl ⟨_, rfl, ?_, HBf.out⟩
  have h := sep_pick (pre := [_, _, _, _, _, _, _, _]) (rest := []) HSf.out [4, 3, 2, 0, 1] (by decide) [_, _, _, _, _] rfl
  rw [HN0.out.1, HN0.out.2, HN1.out, HN2.out, HN3.out.1, HN3.out.2.1, HN3.out.2.2.1, HN3.out.2.2.2.1, HN3.out.2.2.2.2.1, HN3.out.2.2.2.2.2] at h ⊢
  refine ⟨p1, q1, p2, q2, p3, q3, p4, q4, p5, q5, p6, q6, p7, q7, p8, q8, p9, q9, p10, q10, l1, l2, us, HUs.out, by rw [HL.out.1, HL.out.2.1, HL.out.2.2.1, HL.out.2.2.2.1, HL.out.2.2.2.2.1, HL.out.2.2.2.2.2.1, HL.out.2.2.2.2.2.2.1, HL.out.2.2.2.2.2.2.2.1, HL.out.2.2.2.2.2.2.2.2.1, HL.out.2.2.2.2.2.2.2.2.2], ?_⟩
  unfold stL
  rw [HL.out.2.2.2.2.2.2.1] at h
  rw [HA.out] at h
  exact h
open Go.RowKit
structure Wrl where
  s : St
  md : List (ByteArray × ByteArray)
  nx : List (ByteArray × ByteArray)
  ss : List (Int × List (ByteArray × ByteArray))
  cd : List Int
  td : List ByteArray
def Wrl.bulk (x : Wrl) : Nat := x.s.bulk + pBulk x.md + pBulk x.nx + bulkSn x.ss + x.cd.length + bulkS x.td
def Wrl.fits (x : Wrl) : Prop := x.s.fits ∧ (x.md.length ≤ maxLen ∧ ∀ p ∈ x.md, p.1.size ≤ maxLen ∧ p.2.size ≤ maxLen) ∧ (x.nx.length ≤ maxLen ∧ ∀ p ∈ x.nx, p.1.size ≤ maxLen ∧ p.2.size ≤ maxLen) ∧ (x.ss.length ≤ maxLen ∧ ∀ f ∈ x.ss, f.2.length ≤ maxLen ∧ ∀ p ∈ f.2, p.1.size ≤ maxLen ∧ p.2.size ≤ maxLen) ∧ x.cd.length ≤ maxLen ∧ x.td.length ≤ maxLen ∧ ∀ t ∈ x.td, t.size ≤ maxLen
def RowsAt (w : World) (vm vn vs vc vt : Value) (x : Wrl) : Prop := RowAt w 2 vm x.md.length (prs x.md) ∧ RowAt w 2 vn x.nx.length (prs x.nx) ∧ SeensAt w vs x.ss ∧ RowAt w 1 vc x.cd.length (ints x.cd) ∧ RowAt w 1 vt x.td.length (strs x.td)
def WrAt (w : World) (v : Value) (x : Wrl) : Prop := ∃ (cs : Array Value) (vm vn vs vc vt : Value), v = .agg (cs ++ #[vm, vn, vs, vc, vt]) ∧ cs.size = 20 ∧ StAt w (.agg cs) x.s ∧ RowsAt w vm vn vs vc vt x
theorem rows_below {w w' : World} {vm vn vs vc vt : Value} {x : Wrl} (h : RowsAt w vm vn vs vc vt x) (hb : Below w.heap.size w w') : RowsAt w' vm vn vs vc vt x :=
  ⟨row_below h.1 hb, row_below h.2.1 hb, seens_below h.2.2.1 hb, row_below h.2.2.2.1 hb, row_below h.2.2.2.2 hb⟩
theorem wr_below {w w' : World} {v : Value} {x : Wrl} (h : WrAt w v x) (hb : Below w.heap.size w w') : WrAt w' v x := by
  obtain ⟨cs, vm, vn, vs, vc, vt, e, hc, h1, h2⟩ := h
  exact ⟨cs, vm, vn, vs, vc, vt, e, hc, st_below h1 hb, rows_below h2 hb⟩
theorem Tryz.sizeStoreL : (Tryz.prog.info? 36).map (·.size) = some 20 := by kernel_rfl
theorem Tryz.sizeStoreI2 : (Tryz.prog.info? 55).map (·.size) = some 20 := by kernel_rfl
theorem Tryz.sizeWorldI2 : (Tryz.prog.info? 59).map (·.size) = some 25 := by kernel_rfl
theorem Tryz.sizeWorldL : (Tryz.prog.info? 40).map (·.size) = some 25 := by kernel_rfl
theorem cell_w {W : World} {g : Nat} {cs : Array Value} {vm vn vs vc vt : Value} {T : TypeId} (h : W.heap[g]? = some (Obj.cells (cs ++ #[vm, vn, vs, vc, vt]) T)) (hc : cs.size = 20) :
    W.rangeAt g 0 cs.toList ∧ W.cell? ⟨g, 20, none⟩ = some vm ∧ W.cell? ⟨g, 21, none⟩ = some vn ∧ W.cell? ⟨g, 22, none⟩ = some vs ∧ W.cell? ⟨g, 23, none⟩ = some vc ∧ W.cell? ⟨g, 24, none⟩ = some vt := by
  have hr := range_of h 0 20
  have e : ((cs ++ #[vm, vn, vs, vc, vt]).toList.drop 0).take 20 = cs.toList := by
    rw [List.drop_zero, Array.toList_append, List.take_append_of_le_length (by rw [Array.length_toList, hc]; exact Nat.le_refl _), List.take_of_length_le (by rw [Array.length_toList, hc]; exact Nat.le_refl _)]
  rw [e] at hr
  have hk : ∀ j, (cs ++ #[vm, vn, vs, vc, vt])[20 + j]? = #[vm, vn, vs, vc, vt][j]? := fun j => by rw [Array.getElem?_append_right (by omega), hc]; congr 1; omega
  refine ⟨hr, ?_, ?_, ?_, ?_, ?_⟩
  · rw [(cell_at h 20).1]; exact hk 0
  · rw [(cell_at h 21).1]; exact hk 1
  · rw [(cell_at h 22).1]; exact hk 2
  · rw [(cell_at h 23).1]; exact hk 3
  · rw [(cell_at h 24).1]; exact hk 4
open Go.RowKit
def kR (k0 : Nat) (rs : List (Int × Mt)) (i : Nat) : Nat := k0 + 4 * i + sumR rs i
open Go.RowKit
def Wk.cnt (k : Wk) : Nat := k.ps.length + k.ls.length * 2 + k.us.length + k.gs.length + k.fs.length
def St.k1 (k0 : Nat) (s : St) : Nat := k0 + s.ps.length + s.ls.length * 2
def St.k2 (k0 : Nat) (s : St) : Nat := s.k1 k0 + bulkF s.m.fs
def St.k3 (k0 : Nat) (s : St) : Nat := kR (s.k2 k0) s.rs s.rs.length
def St.k4 (k0 : Nat) (s : St) : Nat := s.k3 k0 + bulkF s.tm.fs + s.tk.cnt
open Go.RowKit
def StThings (B : Nat) (v : Value) (s : St) (L : List Ast) : Prop := ∃ p1 q1 p2 q2 p3 q3 p4 q4 p5 q5 p6 q6 p7 q7 p8 q8 p9 q9 p10 q10 l1 l2 us, us.length = s.rs.length ∧
  v = .agg #[.slice p1 s.ps.length q1, .slice p2 s.ls.length q2, .int .i64 s.m.tx, .int .i64 s.m.root, .int .i64 s.m.next, .slice p3 s.m.fs.length q3, .slice p4 s.rs.length q4, .int .i64 s.tm.tx, .int .i64 s.tm.root, .int .i64 s.tm.next, .slice p5 s.tm.fs.length q5, .slice p6 s.tk.ps.length q6, .slice p7 s.tk.ls.length q7, .int .i64 s.tk.next, .slice p8 s.tk.us.length q8, .slice p9 s.tk.gs.length q9, .slice p10 s.tk.fs.length q10, .int .i64 s.tr, .bool s.wr, .bool s.fl] ∧
  L = stL B s (.slice p1 s.ps.length q1) (.slice p2 s.ls.length q2) (.slice p3 s.m.fs.length q3) (.slice p4 s.rs.length q4) (.slice p5 s.tm.fs.length q5) (.slice p6 s.tk.ps.length q6) (.slice p7 s.tk.ls.length q7) (.slice p8 s.tk.us.length q8) (.slice p9 s.tk.gs.length q9) (.slice p10 s.tk.fs.length q10) l1 l2 us
theorem st_things {w : World} {B : Nat} {v : Value} {s : St} (h : StOwn w B v s) : ∃ L, StThings B v s L ∧ Sep B w L := by
  obtain ⟨p1, q1, p2, q2, p3, q3, p4, q4, p5, q5, p6, q6, p7, q7, p8, q8, p9, q9, p10, q10, l1, l2, us, hu, e, hs⟩ := h
  exact ⟨_, ⟨p1, q1, p2, q2, p3, q3, p4, q4, p5, q5, p6, q6, p7, q7, p8, q8, p9, q9, p10, q10, l1, l2, us, hu, e, rfl⟩, hs⟩
theorem things_own {w : World} {B : Nat} {v : Value} {s : St} {L : List Ast} (h : StThings B v s L) (hs : Sep B w L) : StOwn w B v s := by
  obtain ⟨p1, q1, p2, q2, p3, q3, p4, q4, p5, q5, p6, q6, p7, q7, p8, q8, p9, q9, p10, q10, l1, l2, us, hu, e, rfl⟩ := h
  exact ⟨p1, q1, p2, q2, p3, q3, p4, q4, p5, q5, p6, q6, p7, q7, p8, q8, p9, q9, p10, q10, l1, l2, us, hu, e, hs⟩
theorem things_arr {B : Nat} {v : Value} {s : St} {L : List Ast} (h : StThings B v s L) : ∃ cs : Array Value, v = .agg cs ∧ cs.size = 20 ∧ cs.toList.all (·.oneCell') = true := by
  obtain ⟨p1, q1, p2, q2, p3, q3, p4, q4, p5, q5, p6, q6, p7, q7, p8, q8, p9, q9, p10, q10, l1, l2, us, hu, e, -⟩ := h
  exact ⟨_, e, rfl, rfl⟩
theorem asIs_disk {B B' : Nat} (h : B' ≤ B) (v : Value) (ps : List ByteArray) (ls : List (Int × ByteArray)) : AsIs (diskA B v ps ls) (diskA B' v ps ls) := ⟨fun _ h => h, fun _ hp => disk_downQ hp h⟩
theorem sep_base {B B' : Nat} {W : World} {l : List Ast} (h : Sep B W l) (hB : B' ≤ B) : Sep B' W l := ⟨fun A hA => ⟨(h.1 A hA).1, fun k hk => ⟨Nat.le_trans hB ((h.1 A hA).2 k hk).1, ((h.1 A hA).2 k hk).2⟩⟩, h.2⟩
theorem asIs_pack {B B' : Nat} (h : B' ≤ B) {l l' : List Ast} (hl : AsIsL l l') : AsIs (packA B l) (packA B' l') := by
  refine ⟨?_, fun W hp => sep_base (sep_low l l' hl hp) h⟩
  rintro k ⟨A', hA', hF⟩
  obtain ⟨A, hA, hs⟩ := asIs_mem l l' hl A' hA'
  exact ⟨A, hA, hs.1 k hF⟩
theorem things_down {B B' : Nat} {v : Value} {s : St} {L : List Ast} (h : StThings B v s L) (hB : B' ≤ B) : ∃ L', StThings B' v s L' ∧ AsIsL L L' := by
  obtain ⟨p1, q1, p2, q2, p3, q3, p4, q4, p5, q5, p6, q6, p7, q7, p8, q8, p9, q9, p10, q10, l1, l2, us, hu, e, rfl⟩ := h
  exact ⟨_, ⟨p1, q1, p2, q2, p3, q3, p4, q4, p5, q5, p6, q6, p7, q7, p8, q8, p9, q9, p10, q10, l1, l2, us, hu, e, rfl⟩, asIs_disk hB _ _ _, asIs_frees hB _ _ _, asIs_pack hB (asIs_rds hB _ _ _), asIs_frees hB _ _ _, asIs_work hB _ _, trivial⟩
theorem sep_st {a0 : Nat} {W W' : World} {l : List Ast} {v : Value} {s : St} (h : Sep a0 W l) (hb : Below W.heap.size W W') (ho : StOwn W' W.heap.size v s) (hz : a0 ≤ W.heap.size) : ∃ L, StThings a0 v s L ∧ Sep a0 W' (packA a0 L :: l) := by
  obtain ⟨L, h1, h2⟩ := st_things ho
  obtain ⟨L', h3, h4⟩ := things_down h1 hz
  exact ⟨L', h3, sep_pack (sep_joinL h hb h2 h4 hz)⟩
theorem things_at {a0 B : Nat} {W : World} {l : List Ast} {v : Value} {s : St} {L : List Ast} (h : Sep a0 W l) (i : Nat) (hi : l[i]? = some (packA B L)) (ht : StThings B v s L) : StAt W v s := st_of_own (things_own ht (sep_get h i hi))
open Go.RowKit
def seensA (B : Nat) (v : Value) (l : List (Int × Value)) (fs : List (Int × List (ByteArray × ByteArray))) : Ast := ⟨seenBlocks v l, fun W => SOwnF W B v l fs, fun W W' h hk =>
  ⟨(rowA B 84 2 v fs.length (frs l)).loc W W' h.1 (fun k e => hk k (Or.inl e)), h.2.1, fun i p f hi hp hf => ⟨(h.2.2.1 i p f hi hp hf).1, (rowA B 101 2 p.2 f.2.length (prs f.2)).loc W W' (h.2.2.1 i p f hi hp hf).2 (fun k e => hk k (Or.inr ⟨i, p, hp, e⟩))⟩, h.2.2.2⟩⟩
theorem overL_mid : ∀ (vs cs rest : List Value) (pre : List Value), vs.length = cs.length → overL (pre ++ cs ++ rest) pre.length vs = pre ++ vs ++ rest
  | [], cs, rest, pre, h => by
    rw [List.eq_nil_of_length_eq_zero h.symm]
    rfl
  | v :: r, [], rest, pre, h => by simp at h
  | v :: r, c :: cs, rest, pre, h => by
    have ih := overL_mid r cs rest (pre ++ [v]) (by simpa using h)
    rw [overL, List.append_assoc, List.set_append_right _ _ (Nat.le_refl _), Nat.sub_self, List.cons_append, List.set_cons_zero]
    simpa using ih
theorem over_store (cs : Array Value) (hc : cs.size = 20) (n0 n1 n2 n3 n4 : Value) : overL (#[.slice none 0 0, .slice none 0 0, .int .i64 0, .int .i64 0, .int .i64 0, .slice none 0 0, .slice none 0 0, .int .i64 0, .int .i64 0, .int .i64 0, .slice none 0 0, .slice none 0 0, .slice none 0 0, .int .i64 0, .slice none 0 0, .slice none 0 0, .slice none 0 0, .int .i64 0, .bool false, .bool false, n0, n1, n2, n3, n4] : Array Value).toList 0 cs.toList = (cs ++ #[n0, n1, n2, n3, n4]).toList := by
  have h := overL_mid cs.toList [.slice none 0 0, .slice none 0 0, .int .i64 0, .int .i64 0, .int .i64 0, .slice none 0 0, .slice none 0 0, .int .i64 0, .int .i64 0, .int .i64 0, .slice none 0 0, .slice none 0 0, .slice none 0 0, .int .i64 0, .slice none 0 0, .slice none 0 0, .slice none 0 0, .int .i64 0, .bool false, .bool false] [n0, n1, n2, n3, n4] [] (by rw [Array.length_toList, hc]; rfl)
  rw [List.nil_append, List.nil_append] at h
  rw [Array.toList_append]
  exact h
theorem over_cell (cs : Array Value) (hc : cs.size = 20) (l l' : List Value) (j : Nat) (v : Value) (h : l.set j v = l') : (cs ++ l.toArray).setIfInBounds (20 + j) v = cs ++ l'.toArray := by
  apply Array.toList_inj.1
  rw [Array.toList_setIfInBounds, Array.toList_append, Array.toList_append, List.set_append_right _ _ (by rw [Array.length_toList, hc]; omega), Array.length_toList, hc, show 20 + j - 20 = j from by omega]
  rw [← h]
theorem wr_one (cs : Array Value) (h : cs.toList.all (·.oneCell') = true) (x1 x2 x3 x4 x5 : Option Addr) (n1 n2 n3 n4 n5 c1 c2 c3 c4 c5 : Nat) : (cs ++ (#[.slice x1 n1 c1, .slice x2 n2 c2, .slice x3 n3 c3, .slice x4 n4 c4, .slice x5 n5 c5] : Array Value)).toList.all (·.oneCell') = true := by
  rw [Array.toList_append, List.all_append, h]
  rfl
open Go.RowKit
def Wrl.small (x : Wrl) : Prop := x.s.small ∧ x.md.length ≤ 1048576 ∧ x.nx.length ≤ 1048576 ∧ x.ss.length ≤ 1048576 ∧ (∀ f ∈ x.ss, f.2.length ≤ 1048576) ∧ x.cd.length ≤ 1048576 ∧ x.td.length ≤ 1048576
set_option maxHeartbeats 8000000 in
set_option maxRecDepth 100000 in
theorem eqWorld_same (v u : Value) (x : Wrl) (hs : x.small) (w : World) (hd : WrAt w v x) (hu : WrAt w u x) :
    Calls Tryz.prog 10 #[v, u] w fun e w' => e = .returned (.bool true) ∧ Below w.heap.size w w' := by
  obtain ⟨cs, vm, vn, vs, vc, vt, rfl, hcs, hst, h1, h2, h3, h4, h5⟩ := hd
  obtain ⟨ds, um, un, us, uc, ut, rfl, hds, kst, k1, k2, k3, k4, k5⟩ := hu
  obtain ⟨f0, f1, f2, f3, f3', f4, f5⟩ := hs
  have HC1 := hide (fun wx (hb : Below w.heap.size w wx) => eqStore_same (.agg cs) (.agg ds) x.s f0 wx (st_below hst hb) (st_below kst hb))
  have HC2 := hide (fun wx (hb : Below w.heap.size w wx) => eqPairS_row x.md x.md (by omega) (by omega) vm um wx (row_below h1 hb) (row_below k1 hb))
  have HC3 := hide (fun wx (hb : Below w.heap.size w wx) => eqPairS_row x.nx x.nx (by omega) (by omega) vn un wx (row_below h2 hb) (row_below k2 hb))
  have HC4 := hide (fun wx (hb : Below w.heap.size w wx) => eqSeenS_same x.ss f3 f3' vs us wx (seens_below h3 hb) (seens_below k3 hb))
  have HC5 := hide (fun wx (hb : Below w.heap.size w wx) => eqIntS_row x.cd x.cd (by omega) (by omega) vc uc wx (row_below h4 hb) (row_below k4 hb))
  have HC6 := hide (fun wx (hb : Below w.heap.size w wx) => eqStringS_row x.td x.td (by omega) (by omega) vt ut wx (row_below h5 hb) (row_below k5 hb))
  rw [decide_eq_true (rfl : x.md = x.md)] at HC2
  rw [decide_eq_true (rfl : x.nx = x.nx)] at HC3
  rw [decide_eq_true (rfl : x.cd = x.cd)] at HC5
  rw [decide_eq_true (rfl : x.td = x.td)] at HC6
  obtain ⟨a0, ha0⟩ : ∃ a, a = w.heap.size := ⟨_, rfl⟩
  have hS0 := sep_new (sep_new (sep_nil w.heap.size w) (Obj.cells (cs ++ #[vm, vn, vs, vc, vt]) 59) (Nat.le_refl _)) (Obj.cells (ds ++ #[um, un, us, uc, ut]) 59) (by simp)
  obtain ⟨w0, hw0⟩ : ∃ w0, w0 = (w.alloc (Obj.cells (cs ++ #[vm, vn, vs, vc, vt]) 59)).alloc (Obj.cells (ds ++ #[um, un, us, uc, ut]) 59) := ⟨_, rfl⟩
  rw [World.size_alloc, ← hw0, ← ha0] at hS0
  have HS0 := hide hS0
  have HB0 : Hid (Below w.heap.size w w0) := hide (by rw [hw0]; exact ((Below.refl w.heap.size w).alloc (Nat.le_refl _) _).alloc (by simp) _)
  have HCa : Hid (∀ wx, Sep a0 wx [cellA (a0 + 1) (Obj.cells (ds ++ #[um, un, us, uc, ut]) 59), cellA a0 (Obj.cells (cs ++ #[vm, vn, vs, vc, vt]) 59)] → (wx.rangeAt a0 0 cs.toList ∧ wx.cell? ⟨a0, 20, none⟩ = some vm ∧ wx.cell? ⟨a0, 21, none⟩ = some vn ∧ wx.cell? ⟨a0, 22, none⟩ = some vs ∧ wx.cell? ⟨a0, 23, none⟩ = some vc ∧ wx.cell? ⟨a0, 24, none⟩ = some vt) ∧ (wx.rangeAt (a0 + 1) 0 ds.toList ∧ wx.cell? ⟨a0 + 1, 20, none⟩ = some um ∧ wx.cell? ⟨a0 + 1, 21, none⟩ = some un ∧ wx.cell? ⟨a0 + 1, 22, none⟩ = some us ∧ wx.cell? ⟨a0 + 1, 23, none⟩ = some uc ∧ wx.cell? ⟨a0 + 1, 24, none⟩ = some ut)) := hide (fun wx h => ⟨cell_w (sep_get h 1 rfl) hcs, cell_w (sep_get h 0 rfl) hds⟩)
  have HTr : Hid (∀ wx wy, Below w.heap.size w wx → Below wx.heap.size wx wy → Below w.heap.size w wy) := hide (fun wx wy h h' => h.trans (h'.mono h.size))
  have HZ1 : Hid ((Tryz.prog.info? 55).map (·.size) = some cs.size) := hide (by rw [hcs]; exact Tryz.sizeStoreI2)
  have HZ2 : Hid ((Tryz.prog.info? 55).map (·.size) = some ds.size) := hide (by rw [hds]; exact Tryz.sizeStoreI2)
  have HA := hide ha0
  have HW := hide hw0
  clear hS0 ha0 hw0 hst h1 h2 h3 h4 h5 kst k1 k2 k3 k4 k5 f0 f1 f2 f3 f3' f4 f5 hcs hds
  have HR1 := hide (HCa.out _ HS0.out).1.1
  have HR2 := hide (HCa.out _ HS0.out).2.1
  rw [HW.out, HA.out] at HR1 HR2
  go_enter Tryz.func10, Tryz.ntmps10
  go_wp2_with (first | ((with_reducible refine wpList_loadL ?_ 55 (.tmp 5) ?_ w.heap.size 0 ?_ cs HR1.out _ Tryz.underlying55 ?_ ?_ ?_); exact rfl; exact rfl; exact rfl; exact rfl; exact HZ1.out) | ((with_reducible refine wpList_loadL ?_ 55 (.tmp 7) ?_ (w.heap.size + 1) 0 ?_ ds HR2.out _ Tryz.underlying55 ?_ ?_ ?_); exact rfl; exact rfl; exact rfl; exact rfl; exact HZ2.out))
  rw [← HW.out]
  refine (HC1.out _ HB0.out).mono ?_
  rintro e w1 ⟨rfl, hb⟩
  have HS1 := hide (sep_below HS0.out hb)
  have HB1 := hide (HTr.out _ _ HB0.out hb)
  obtain ⟨⟨-, x0, x1, x2, x3, x4⟩, -, y0, y1, y2, y3, y4⟩ := HCa.out _ HS1.out
  rw [HA.out] at x0 x1 x2 x3 x4 y0 y1 y2 y3 y4
  clear hb
  go_wp2_with fail
  clear x0 x1 x2 x3 x4 y0 y1 y2 y3 y4
  refine (HC2.out _ HB1.out).mono ?_
  rintro e w2 ⟨rfl, hb⟩
  have HS2 := hide (sep_below HS1.out hb)
  have HB2 := hide (HTr.out _ _ HB1.out hb)
  obtain ⟨⟨-, x0, x1, x2, x3, x4⟩, -, y0, y1, y2, y3, y4⟩ := HCa.out _ HS2.out
  rw [HA.out] at x0 x1 x2 x3 x4 y0 y1 y2 y3 y4
  clear hb
  go_wp2_with fail
  clear x0 x1 x2 x3 x4 y0 y1 y2 y3 y4
  refine (HC3.out _ HB2.out).mono ?_
  rintro e w3 ⟨rfl, hb⟩
  have HS3 := hide (sep_below HS2.out hb)
  have HB3 := hide (HTr.out _ _ HB2.out hb)
  obtain ⟨⟨-, x0, x1, x2, x3, x4⟩, -, y0, y1, y2, y3, y4⟩ := HCa.out _ HS3.out
  rw [HA.out] at x0 x1 x2 x3 x4 y0 y1 y2 y3 y4
  clear hb
  go_wp2_with fail
  clear x0 x1 x2 x3 x4 y0 y1 y2 y3 y4
  refine (HC4.out _ HB3.out).mono ?_
  rintro e w4 ⟨rfl, hb⟩
  have HS4 := hide (sep_below HS3.out hb)
  have HB4 := hide (HTr.out _ _ HB3.out hb)
  obtain ⟨⟨-, x0, x1, x2, x3, x4⟩, -, y0, y1, y2, y3, y4⟩ := HCa.out _ HS4.out
  rw [HA.out] at x0 x1 x2 x3 x4 y0 y1 y2 y3 y4
  clear hb
  go_wp2_with fail
  clear x0 x1 x2 x3 x4 y0 y1 y2 y3 y4
  refine (HC5.out _ HB4.out).mono ?_
  rintro e w5 ⟨rfl, hb⟩
  have HS5 := hide (sep_below HS4.out hb)
  have HB5 := hide (HTr.out _ _ HB4.out hb)
  obtain ⟨⟨-, x0, x1, x2, x3, x4⟩, -, y0, y1, y2, y3, y4⟩ := HCa.out _ HS5.out
  rw [HA.out] at x0 x1 x2 x3 x4 y0 y1 y2 y3 y4
  clear hb
  go_wp2_with fail
  clear x0 x1 x2 x3 x4 y0 y1 y2 y3 y4
  refine (HC6.out _ HB5.out).mono ?_
  rintro e w6 ⟨rfl, hb⟩
  have HS6 := hide (sep_below HS5.out hb)
  have HB6 := hide (HTr.out _ _ HB5.out hb)
  obtain ⟨⟨-, x0, x1, x2, x3, x4⟩, -, y0, y1, y2, y3, y4⟩ := HCa.out _ HS6.out
  rw [HA.out] at x0 x1 x2 x3 x4 y0 y1 y2 y3 y4
  clear hb
  go_wp2_with fail
  clear x0 x1 x2 x3 x4 y0 y1 y2 y3 y4
  go_ret
  exact ⟨rfl, HB6.out⟩
end Go.Proofs.YtdbpbhemnnffeaaGreatDoor
