/-
  spec.l12Rest and spec.StopWrite by contracts (made by tools/specrest.py).
-/
import Derived.Test.YtghjbfdbheokcaaGreatSpecSCopy
import Derived.Test.YtghjbfdbheokcaaGreatSwC
namespace Go.Proofs.YtghjbfdbheokcaaGreat
open Go.RowKit

/-- a change with nothing -/
def mt0 : Mt := ⟨0, 0, 0, []⟩

def wk0 : Wk := ⟨[], [], 0, [], [], []⟩

/-- a store that is not written any more -/
def St.rest (s : St) (ps : List ByteArray) (ls : List (Int × ByteArray)) (m : Mt) : St := ⟨ps, ls, m, s.rs, mt0, wk0, 0, false, false⟩

theorem work_none (w : World) (B : Nat) : WorkOwn w B (.agg #[.slice none 0 0, .slice none 0 0, .int .i64 0, .slice none 0 0, .slice none 0 0, .slice none 0 0]) wk0 :=
  ⟨_, _, _, _, _, rfl, ⟨_, _, rfl, ⟨rfl, Or.inl ⟨rfl, rfl⟩⟩, ⟨rfl, Or.inl ⟨rfl, rfl⟩⟩⟩, ⟨none, 0, rfl, Nat.zero_le _, Or.inl ⟨rfl, rfl⟩⟩, ⟨none, 0, rfl, Nat.zero_le _, Or.inl ⟨rfl, rfl⟩⟩, ⟨none, 0, rfl, Nat.zero_le _, Or.inl ⟨rfl, rfl⟩⟩, fun j h => (by have h' : (none : Option Nat) = some j := h; cases h'), fun j h => (by have h' : (none : Option Nat) = some j := h; cases h'), fun j h => (by have h' : (none : Option Nat) = some j := h; cases h')⟩

theorem ownF_none (w : World) (B : Nat) : OwnF w B (.slice none 0 0) [] [] := ⟨⟨rfl, Or.inl ⟨rfl, rfl⟩⟩, rfl, fun i p f hi => (by simp at hi), fun i j p q b hi => (by simp at hi)⟩

theorem noF (k : Nat) (h : freeBlocks (.slice none 0 0) [] k) : False := by
  rcases h with h | ⟨i, p, hp, -⟩
  · cases h
  · simp at hp

theorem noW (k : Nat) (h : workBlocks (.agg #[.slice none 0 0, .slice none 0 0, .int .i64 0, .slice none 0 0, .slice none 0 0, .slice none 0 0]) k) : False := by
  obtain ⟨vp, vl, n, vu, vg, vf, e, h⟩ := h
  obtain ⟨rfl, rfl, rfl, rfl, rfl, rfl⟩ := agg6 e
  rcases h with ⟨a, b, e2, h⟩ | h | h | h
  · injection e2 with e2
    have e3 := congrArg Array.toList e2
    simp at e3
    obtain ⟨rfl, rfl⟩ := e3
    rcases h with h | h <;> cases h
  · cases h
  · cases h
  · cases h

theorem perm5 {α : Type} (f w d m p : α) (r : List α) : (f :: w :: d :: m :: p :: r).Perm (d :: m :: p :: f :: w :: r) := by
  have h1 : (f :: w :: [d, m, p]).Perm ([d, m, p] ++ [f, w]) := List.perm_append_comm (l₁ := [f, w]) (l₂ := [d, m, p])
  exact List.Perm.append_right r h1

set_option maxHeartbeats 16000000 in
set_option maxRecDepth 100000 in
theorem specRest_any (v : Value) (s : St) (hs : s.small) (x1 x2 : Option Addr) (y1 y2 : Nat) (ps : List ByteArray) (ls : List (Int × ByteArray)) (xf : Option Addr) (yf : Nat) (lf : List (Int × Value)) (m : Mt) (a0 : Nat) (rest : List Ast) (w : World) (hd : StAt w v s) (h : Sep a0 w (diskA a0 (.agg #[.slice x1 ps.length y1, .slice x2 ls.length y2]) ps ls :: freesA a0 (.slice xf m.fs.length yf) lf m.fs :: rest)) (hB : a0 ≤ w.heap.size) :
    Calls Tryz.prog 16 #[v, .agg #[.slice x1 ps.length y1, .slice x2 ls.length y2], .agg #[.int .i64 m.tx, .int .i64 m.root, .int .i64 m.next, .slice xf m.fs.length yf]] w fun e w' => ∃ v' L, e = .returned v' ∧ StThings a0 v' (s.rest ps ls m) L ∧ Sep a0 w' (packA a0 L :: rest) ∧ Below w.heap.size w w' := by
  have HC := hide (fun u wx h => specSCopy_any u s hs wx h)
  have HSt := hide hd
  obtain ⟨cs, rfl, hn⟩ := st_arr hd
  have HN : Hid ((Tryz.prog.info? 50).map (·.size) = some cs.size) := hide (by rw [hn]; exact Tryz.sizeStore)
  clear hs hd hn
  obtain ⟨b0, hb0⟩ : ∃ a, a = w.heap.size := ⟨_, rfl⟩
  have hS0 := sep_new (sep_new (sep_new (sep_new h (Obj.cells cs 50) hB) (Obj.cells #[.slice x1 ps.length y1, .slice x2 ls.length y2] 40) (by simp; omega)) (Obj.cells #[.int .i64 m.tx, .int .i64 m.root, .int .i64 m.next, .slice xf m.fs.length yf] 43) (by simp; omega)) (Obj.cells #[.slice none 0 0, .slice none 0 0, .int .i64 0, .int .i64 0, .int .i64 0, .slice none 0 0, .slice none 0 0, .int .i64 0, .int .i64 0, .int .i64 0, .slice none 0 0, .slice none 0 0, .slice none 0 0, .int .i64 0, .slice none 0 0, .slice none 0 0, .slice none 0 0, .int .i64 0, .bool false, .bool false] 50) (by simp; omega)
  obtain ⟨w0, hw0⟩ : ∃ w0, w0 = (((w.alloc (Obj.cells cs 50)).alloc (Obj.cells #[.slice x1 ps.length y1, .slice x2 ls.length y2] 40)).alloc (Obj.cells #[.int .i64 m.tx, .int .i64 m.root, .int .i64 m.next, .slice xf m.fs.length yf] 43)).alloc (Obj.cells #[.slice none 0 0, .slice none 0 0, .int .i64 0, .int .i64 0, .int .i64 0, .slice none 0 0, .slice none 0 0, .int .i64 0, .int .i64 0, .int .i64 0, .slice none 0 0, .slice none 0 0, .slice none 0 0, .int .i64 0, .slice none 0 0, .slice none 0 0, .slice none 0 0, .int .i64 0, .bool false, .bool false] 50) := ⟨_, rfl⟩
  rw [World.size_alloc, World.size_alloc, World.size_alloc, ← hw0, ← hb0] at hS0
  have HS_w0 := hide hS0
  have HB_w0 : Hid (Below w.heap.size w w0) := hide (by rw [hw0]; exact ((((Below.refl w.heap.size w).alloc (Nat.le_refl _) _).alloc (by simp) _).alloc (by simp; omega) _).alloc (by simp; omega) _)
  have HZ_w0 : Hid (a0 ≤ w0.heap.size) := hide (by rw [hw0]; simp; omega)
  have HA := hide hb0
  have HR0 : Hid (w0.rangeAt b0 0 cs.toList) := hide (range_all (sep_get HS_w0.out 3 rfl : w0.heap[b0]? = some (Obj.cells cs 50)))
  clear hS0 hb0 h
  go_enter Tryz.func16, Tryz.ntmps16
  go_upto_region 1 with fail
  rw [← hw0, ← HA.out]
  clear hw0
  go_wp2_with ((with_reducible refine wpList_loadL ?_ 50 (.tmp 3) ?_ b0 0 ?_ cs HR0.out _ Tryz.underlying50 ?_ ?_ ?_); exact rfl; exact rfl; exact rfl; exact rfl; exact HN.out)
  refine (HC.out _ _ (st_below HSt.out HB_w0.out)).mono ?_
  rintro e w1 ⟨v1, rfl, ho, hb⟩
  obtain ⟨p1, q1, p2, q2, p3, q3, p4, q4, p5, q5, p6, q6, p7, q7, p8, q8, p9, q9, p10, q10, l1, l2, us, hu, rfl, hs1⟩ := ho
  have HU := hide hu
  have HS_w1 := hide (sep_joinL (l'' := stL a0 s (.slice p1 s.ps.length q1) (.slice p2 s.ls.length q2) (.slice p3 s.m.fs.length q3) (.slice p4 s.rs.length q4) (.slice p5 s.tm.fs.length q5) (.slice p6 s.tk.ps.length q6) (.slice p7 s.tk.ls.length q7) (.slice p8 s.tk.us.length q8) (.slice p9 s.tk.gs.length q9) (.slice p10 s.tk.fs.length q10) l1 l2 us) HS_w0.out hb hs1 ⟨asIs_disk HZ_w0.out _ _ _, asIs_frees HZ_w0.out _ _ _, asIs_pack HZ_w0.out (asIs_rds HZ_w0.out _ _ _), asIs_frees HZ_w0.out _ _ _, asIs_work HZ_w0.out _ _, trivial⟩ HZ_w0.out)
  have HB_w1 : Hid (Below w.heap.size w w1) := hide (HB_w0.out.trans (hb.mono HB_w0.out.size))
  have HZ_w1 : Hid (a0 ≤ w1.heap.size) := hide (Nat.le_trans HZ_w0.out hb.size)
  clear hb hs1 hu HR0
  obtain ⟨g, hg⟩ : ∃ g, g = w1.heap.size := ⟨_, rfl⟩
  obtain ⟨w2, hw2⟩ : ∃ wx, wx = (w1.alloc (Obj.cells #[.slice none 0 0, .slice none 0 0, .int .i64 0, .int .i64 0, .int .i64 0, .slice none 0 0, .slice none 0 0, .int .i64 0, .int .i64 0, .int .i64 0, .slice none 0 0, .slice none 0 0, .slice none 0 0, .int .i64 0, .slice none 0 0, .slice none 0 0, .slice none 0 0, .int .i64 0, .bool false, .bool false] 50)).setCells w1.heap.size 0 (#[.slice p1 s.ps.length q1, .slice p2 s.ls.length q2, .int .i64 s.m.tx, .int .i64 s.m.root, .int .i64 s.m.next, .slice p3 s.m.fs.length q3, .slice p4 s.rs.length q4, .int .i64 s.tm.tx, .int .i64 s.tm.root, .int .i64 s.tm.next, .slice p5 s.tm.fs.length q5, .slice p6 s.tk.ps.length q6, .slice p7 s.tk.ls.length q7, .int .i64 s.tk.next, .slice p8 s.tk.us.length q8, .slice p9 s.tk.gs.length q9, .slice p10 s.tk.fs.length q10, .int .i64 s.tr, .bool s.wr, .bool s.fl] : Array Value).toList := ⟨_, rfl⟩
  have hsv := sep_cellsAll (sep_new HS_w1.out (Obj.cells #[.slice none 0 0, .slice none 0 0, .int .i64 0, .int .i64 0, .int .i64 0, .slice none 0 0, .slice none 0 0, .int .i64 0, .int .i64 0, .int .i64 0, .slice none 0 0, .slice none 0 0, .slice none 0 0, .int .i64 0, .slice none 0 0, .slice none 0 0, .slice none 0 0, .int .i64 0, .bool false, .bool false] 50) HZ_w1.out) 0 rfl #[.slice p1 s.ps.length q1, .slice p2 s.ls.length q2, .int .i64 s.m.tx, .int .i64 s.m.root, .int .i64 s.m.next, .slice p3 s.m.fs.length q3, .slice p4 s.rs.length q4, .int .i64 s.tm.tx, .int .i64 s.tm.root, .int .i64 s.tm.next, .slice p5 s.tm.fs.length q5, .slice p6 s.tk.ps.length q6, .slice p7 s.tk.ls.length q7, .int .i64 s.tk.next, .slice p8 s.tk.us.length q8, .slice p9 s.tk.gs.length q9, .slice p10 s.tk.fs.length q10, .int .i64 s.tr, .bool s.wr, .bool s.fl] rfl
  have hth : Hid ((w1.alloc (Obj.cells #[.slice none 0 0, .slice none 0 0, .int .i64 0, .int .i64 0, .int .i64 0, .slice none 0 0, .slice none 0 0, .int .i64 0, .int .i64 0, .int .i64 0, .slice none 0 0, .slice none 0 0, .slice none 0 0, .int .i64 0, .slice none 0 0, .slice none 0 0, .slice none 0 0, .int .i64 0, .bool false, .bool false] 50)).there w1.heap.size 0 (#[.slice p1 s.ps.length q1, .slice p2 s.ls.length q2, .int .i64 s.m.tx, .int .i64 s.m.root, .int .i64 s.m.next, .slice p3 s.m.fs.length q3, .slice p4 s.rs.length q4, .int .i64 s.tm.tx, .int .i64 s.tm.root, .int .i64 s.tm.next, .slice p5 s.tm.fs.length q5, .slice p6 s.tk.ps.length q6, .slice p7 s.tk.ls.length q7, .int .i64 s.tk.next, .slice p8 s.tk.us.length q8, .slice p9 s.tk.gs.length q9, .slice p10 s.tk.fs.length q10, .int .i64 s.tr, .bool s.wr, .bool s.fl] : Array Value).size) := hide (there_of (heap_alloc_new w1 (Obj.cells #[.slice none 0 0, .slice none 0 0, .int .i64 0, .int .i64 0, .int .i64 0, .slice none 0 0, .slice none 0 0, .int .i64 0, .int .i64 0, .int .i64 0, .slice none 0 0, .slice none 0 0, .slice none 0 0, .int .i64 0, .slice none 0 0, .slice none 0 0, .slice none 0 0, .int .i64 0, .bool false, .bool false] 50)) 0 20 (show 0 + 20 ≤ 20 by decide))
  have HB_w2 : Hid (Below w.heap.size w w2) := hide (by rw [hw2]; exact below_cells HB_w1.out.size _ 0 _ (HB_w1.out.alloc HB_w1.out.size _))
  have HZ_w2 : Hid (a0 ≤ w2.heap.size) := hide (by rw [hw2, size_cells]; have := HZ_w1.out; simp; omega)
  have HG : Hid (w.heap.size ≤ g) := hide (by rw [hg]; exact HB_w1.out.size)
  rw [← hw2, ← hg] at hsv
  have HS_w2 := hide hsv
  have HW := hide hw2.symm
  clear hsv hw2
  go_upto_region 2 with ((with_reducible refine wpList_storeL ?_ 50 (.tmp 7) (.tmp 9) ?_ w1.heap.size 0 #[.slice p1 s.ps.length q1, .slice p2 s.ls.length q2, .int .i64 s.m.tx, .int .i64 s.m.root, .int .i64 s.m.next, .slice p3 s.m.fs.length q3, .slice p4 s.rs.length q4, .int .i64 s.tm.tx, .int .i64 s.tm.root, .int .i64 s.tm.next, .slice p5 s.tm.fs.length q5, .slice p6 s.tk.ps.length q6, .slice p7 s.tk.ls.length q7, .int .i64 s.tk.next, .slice p8 s.tk.us.length q8, .slice p9 s.tk.gs.length q9, .slice p10 s.tk.fs.length q10, .int .i64 s.tr, .bool s.wr, .bool s.fl] ?_ ?_ hth.out ?_ ?_ HW.out ?_); exact rfl; exact rfl; exact rfl; exact rfl; exact Tryz.sizeStore; exact rfl)
  rw [← hg]
  clear hg hth HW
  have d0 : w2.cell? ⟨b0 + 1, 0, none⟩ = some (.slice x1 ps.length y1) := (cell_at (sep_get HS_w2.out 8 rfl : w2.heap[b0 + 1]? = some (Obj.cells #[.slice x1 ps.length y1, .slice x2 ls.length y2] 40)) 0).1
  have d1 : w2.cell? ⟨b0 + 1, 1, none⟩ = some (.slice x2 ls.length y2) := (cell_at (sep_get HS_w2.out 8 rfl : w2.heap[b0 + 1]? = some (Obj.cells #[.slice x1 ps.length y1, .slice x2 ls.length y2] 40)) 1).1
  have hth : Hid (w2.there g 0 (#[.slice x1 ps.length y1, .slice x2 ls.length y2] : Array Value).size) := hide (there_of (sep_get HS_w2.out 0 rfl : w2.heap[g]? = some (Obj.cells #[.slice p1 s.ps.length q1, .slice p2 s.ls.length q2, .int .i64 s.m.tx, .int .i64 s.m.root, .int .i64 s.m.next, .slice p3 s.m.fs.length q3, .slice p4 s.rs.length q4, .int .i64 s.tm.tx, .int .i64 s.tm.root, .int .i64 s.tm.next, .slice p5 s.tm.fs.length q5, .slice p6 s.tk.ps.length q6, .slice p7 s.tk.ls.length q7, .int .i64 s.tk.next, .slice p8 s.tk.us.length q8, .slice p9 s.tk.gs.length q9, .slice p10 s.tk.fs.length q10, .int .i64 s.tr, .bool s.wr, .bool s.fl] 50)) 0 2 (show 0 + 2 ≤ 20 by decide))
  obtain ⟨w3, hN⟩ : ∃ wx, wx = w2.setCells g 0 (#[.slice x1 ps.length y1, .slice x2 ls.length y2] : Array Value).toList := ⟨_, rfl⟩
  have hs9 := sep_cellsTo HS_w2.out 0 rfl 0 (#[.slice x1 ps.length y1, .slice x2 ls.length y2] : Array Value).toList #[.slice x1 ps.length y1, .slice x2 ls.length y2, .int .i64 s.m.tx, .int .i64 s.m.root, .int .i64 s.m.next, .slice p3 s.m.fs.length q3, .slice p4 s.rs.length q4, .int .i64 s.tm.tx, .int .i64 s.tm.root, .int .i64 s.tm.next, .slice p5 s.tm.fs.length q5, .slice p6 s.tk.ps.length q6, .slice p7 s.tk.ls.length q7, .int .i64 s.tk.next, .slice p8 s.tk.us.length q8, .slice p9 s.tk.gs.length q9, .slice p10 s.tk.fs.length q10, .int .i64 s.tr, .bool s.wr, .bool s.fl] (by kernel_rfl)
  have hb9 := below_cells HG.out (#[.slice x1 ps.length y1, .slice x2 ls.length y2] : Array Value).toList 0 w2 HB_w2.out
  have HZ_w3 : Hid (a0 ≤ w3.heap.size) := hide (by rw [hN, size_cells]; exact HZ_w2.out)
  rw [← hN] at hs9 hb9
  have HS_w3 := hide hs9
  have HB_w3 := hide hb9
  have HW := hide hN.symm
  clear hN hs9 hb9
  go_upto_region 3 with ((with_reducible refine wpList_storeL ?_ 40 (.tmp 11) (.tmp 10) ?_ g 0 #[.slice x1 ps.length y1, .slice x2 ls.length y2] ?_ ?_ hth.out ?_ ?_ HW.out ?_); exact rfl; exact rfl; exact rfl; exact rfl; exact Tryz.sizeDiskS; exact rfl)
  clear hth HW
  clear d0 d1
  have d0 : w3.cell? ⟨b0 + 1 + 1, 0, none⟩ = some (.int .i64 m.tx) := (cell_at (sep_get HS_w3.out 7 rfl : w3.heap[b0 + 1 + 1]? = some (Obj.cells #[.int .i64 m.tx, .int .i64 m.root, .int .i64 m.next, .slice xf m.fs.length yf] 43)) 0).1
  have d1 : w3.cell? ⟨b0 + 1 + 1, 1, none⟩ = some (.int .i64 m.root) := (cell_at (sep_get HS_w3.out 7 rfl : w3.heap[b0 + 1 + 1]? = some (Obj.cells #[.int .i64 m.tx, .int .i64 m.root, .int .i64 m.next, .slice xf m.fs.length yf] 43)) 1).1
  have d2 : w3.cell? ⟨b0 + 1 + 1, 2, none⟩ = some (.int .i64 m.next) := (cell_at (sep_get HS_w3.out 7 rfl : w3.heap[b0 + 1 + 1]? = some (Obj.cells #[.int .i64 m.tx, .int .i64 m.root, .int .i64 m.next, .slice xf m.fs.length yf] 43)) 2).1
  have d3 : w3.cell? ⟨b0 + 1 + 1, 3, none⟩ = some (.slice xf m.fs.length yf) := (cell_at (sep_get HS_w3.out 7 rfl : w3.heap[b0 + 1 + 1]? = some (Obj.cells #[.int .i64 m.tx, .int .i64 m.root, .int .i64 m.next, .slice xf m.fs.length yf] 43)) 3).1
  have hth : Hid (w3.there g 2 (#[.int .i64 m.tx, .int .i64 m.root, .int .i64 m.next, .slice xf m.fs.length yf] : Array Value).size) := hide (there_of (sep_get HS_w3.out 0 rfl : w3.heap[g]? = some (Obj.cells #[.slice x1 ps.length y1, .slice x2 ls.length y2, .int .i64 s.m.tx, .int .i64 s.m.root, .int .i64 s.m.next, .slice p3 s.m.fs.length q3, .slice p4 s.rs.length q4, .int .i64 s.tm.tx, .int .i64 s.tm.root, .int .i64 s.tm.next, .slice p5 s.tm.fs.length q5, .slice p6 s.tk.ps.length q6, .slice p7 s.tk.ls.length q7, .int .i64 s.tk.next, .slice p8 s.tk.us.length q8, .slice p9 s.tk.gs.length q9, .slice p10 s.tk.fs.length q10, .int .i64 s.tr, .bool s.wr, .bool s.fl] 50)) 2 4 (show 2 + 4 ≤ 20 by decide))
  obtain ⟨w4, hN⟩ : ∃ wx, wx = w3.setCells g 2 (#[.int .i64 m.tx, .int .i64 m.root, .int .i64 m.next, .slice xf m.fs.length yf] : Array Value).toList := ⟨_, rfl⟩
  have hs9 := sep_cellsTo HS_w3.out 0 rfl 2 (#[.int .i64 m.tx, .int .i64 m.root, .int .i64 m.next, .slice xf m.fs.length yf] : Array Value).toList #[.slice x1 ps.length y1, .slice x2 ls.length y2, .int .i64 m.tx, .int .i64 m.root, .int .i64 m.next, .slice xf m.fs.length yf, .slice p4 s.rs.length q4, .int .i64 s.tm.tx, .int .i64 s.tm.root, .int .i64 s.tm.next, .slice p5 s.tm.fs.length q5, .slice p6 s.tk.ps.length q6, .slice p7 s.tk.ls.length q7, .int .i64 s.tk.next, .slice p8 s.tk.us.length q8, .slice p9 s.tk.gs.length q9, .slice p10 s.tk.fs.length q10, .int .i64 s.tr, .bool s.wr, .bool s.fl] (by kernel_rfl)
  have hb9 := below_cells HG.out (#[.int .i64 m.tx, .int .i64 m.root, .int .i64 m.next, .slice xf m.fs.length yf] : Array Value).toList 2 w3 HB_w3.out
  have HZ_w4 : Hid (a0 ≤ w4.heap.size) := hide (by rw [hN, size_cells]; exact HZ_w3.out)
  rw [← hN] at hs9 hb9
  have HS_w4 := hide hs9
  have HB_w4 := hide hb9
  have HW := hide hN.symm
  clear hN hs9 hb9
  go_upto_region 4 with ((with_reducible refine wpList_storeL ?_ 43 (.tmp 13) (.tmp 12) ?_ g 2 #[.int .i64 m.tx, .int .i64 m.root, .int .i64 m.next, .slice xf m.fs.length yf] ?_ ?_ hth.out ?_ ?_ HW.out ?_); exact rfl; exact rfl; exact rfl; exact rfl; exact Tryz.sizeMetaS; exact rfl)
  clear hth HW
  clear d0 d1 d2 d3
  have hth : Hid (w4.there g 7 (#[.int .i64 0, .int .i64 0, .int .i64 0, .slice none 0 0, .slice none 0 0, .slice none 0 0, .int .i64 0, .slice none 0 0, .slice none 0 0, .slice none 0 0, .int .i64 0] : Array Value).size) := hide (there_of (sep_get HS_w4.out 0 rfl : w4.heap[g]? = some (Obj.cells #[.slice x1 ps.length y1, .slice x2 ls.length y2, .int .i64 m.tx, .int .i64 m.root, .int .i64 m.next, .slice xf m.fs.length yf, .slice p4 s.rs.length q4, .int .i64 s.tm.tx, .int .i64 s.tm.root, .int .i64 s.tm.next, .slice p5 s.tm.fs.length q5, .slice p6 s.tk.ps.length q6, .slice p7 s.tk.ls.length q7, .int .i64 s.tk.next, .slice p8 s.tk.us.length q8, .slice p9 s.tk.gs.length q9, .slice p10 s.tk.fs.length q10, .int .i64 s.tr, .bool s.wr, .bool s.fl] 50)) 7 11 (show 7 + 11 ≤ 20 by decide))
  obtain ⟨w5, hN⟩ : ∃ wx, wx = w4.setCells g 7 (#[.int .i64 0, .int .i64 0, .int .i64 0, .slice none 0 0, .slice none 0 0, .slice none 0 0, .int .i64 0, .slice none 0 0, .slice none 0 0, .slice none 0 0, .int .i64 0] : Array Value).toList := ⟨_, rfl⟩
  have hs9 := sep_cellsTo HS_w4.out 0 rfl 7 (#[.int .i64 0, .int .i64 0, .int .i64 0, .slice none 0 0, .slice none 0 0, .slice none 0 0, .int .i64 0, .slice none 0 0, .slice none 0 0, .slice none 0 0, .int .i64 0] : Array Value).toList #[.slice x1 ps.length y1, .slice x2 ls.length y2, .int .i64 m.tx, .int .i64 m.root, .int .i64 m.next, .slice xf m.fs.length yf, .slice p4 s.rs.length q4, .int .i64 0, .int .i64 0, .int .i64 0, .slice none 0 0, .slice none 0 0, .slice none 0 0, .int .i64 0, .slice none 0 0, .slice none 0 0, .slice none 0 0, .int .i64 0, .bool s.wr, .bool s.fl] (by kernel_rfl)
  have hb9 := below_cells HG.out (#[.int .i64 0, .int .i64 0, .int .i64 0, .slice none 0 0, .slice none 0 0, .slice none 0 0, .int .i64 0, .slice none 0 0, .slice none 0 0, .slice none 0 0, .int .i64 0] : Array Value).toList 7 w4 HB_w4.out
  have HZ_w5 : Hid (a0 ≤ w5.heap.size) := hide (by rw [hN, size_cells]; exact HZ_w4.out)
  rw [← hN] at hs9 hb9
  have HS_w5 := hide hs9
  have HB_w5 := hide hb9
  have HW := hide hN.symm
  clear hN hs9 hb9
  go_upto_region 5 with ((with_reducible refine wpList_storeL ?_ 48 (.tmp 15) (.tmp 14) ?_ g 7 #[.int .i64 0, .int .i64 0, .int .i64 0, .slice none 0 0, .slice none 0 0, .slice none 0 0, .int .i64 0, .slice none 0 0, .slice none 0 0, .slice none 0 0, .int .i64 0] ?_ ?_ hth.out ?_ ?_ HW.out ?_); exact rfl; exact rfl; exact rfl; exact rfl; exact Tryz.sizeTxn; exact rfl)
  clear hth HW
  have HV : Hid (w5.heap[g]? = some (Obj.cells #[.slice x1 ps.length y1, .slice x2 ls.length y2, .int .i64 m.tx, .int .i64 m.root, .int .i64 m.next, .slice xf m.fs.length yf, .slice p4 s.rs.length q4, .int .i64 0, .int .i64 0, .int .i64 0, .slice none 0 0, .slice none 0 0, .slice none 0 0, .int .i64 0, .slice none 0 0, .slice none 0 0, .slice none 0 0, .int .i64 0, .bool s.wr, .bool s.fl] 50)) := hide (sep_get HS_w5.out 0 rfl)
  have y18 : w5.cell? ⟨g, 18, none⟩ = some (.bool s.wr) := (cell_at HV.out 18).1
  have y19 : w5.cell? ⟨g, 19, none⟩ = some (.bool s.fl) := (cell_at HV.out 19).1
  have z18 : w5.frozen? ⟨g, 18, none⟩ = false := (cell_at HV.out 18).2
  have z19 : w5.frozen? ⟨g, 19, none⟩ = false := (cell_at HV.out 19).2
  clear HV
  have hs6 := sep_store (sep_store HS_w5.out 0 rfl 18 (.bool false)) 0 rfl 19 (.bool false)
  have hb6 := (HB_w5.out.setCell (p := ⟨g, 18, none⟩) HG.out (.bool false)).setCell (p := ⟨g, 19, none⟩) HG.out (.bool false)
  obtain ⟨w6, hw6⟩ : ∃ wx, wx = (w5.setCell ⟨g, 18, none⟩ (.bool false)).setCell ⟨g, 19, none⟩ (.bool false) := ⟨_, rfl⟩
  have HZ_w6 : Hid (a0 ≤ w6.heap.size) := hide (by rw [hw6]; have := HZ_w5.out; simp; omega)
  rw [← hw6] at hs6 hb6
  have HS_w6 := hide hs6
  have HB_w6 := hide hb6
  clear hs6 hb6
  go_upto_region 7 with fail
  rw [← hw6]
  clear hw6 y18 y19 z18 z19
  have HRg : Hid (w6.rangeAt g 0 (#[.slice x1 ps.length y1, .slice x2 ls.length y2, .int .i64 m.tx, .int .i64 m.root, .int .i64 m.next, .slice xf m.fs.length yf, .slice p4 s.rs.length q4, .int .i64 0, .int .i64 0, .int .i64 0, .slice none 0 0, .slice none 0 0, .slice none 0 0, .int .i64 0, .slice none 0 0, .slice none 0 0, .slice none 0 0, .int .i64 0, .bool false, .bool false] : Array Value).toList) := hide (range_all (sep_get HS_w6.out 0 rfl))
  have HTh : Hid (w6.there (b0 + 1 + 1 + 1) 0 (#[.slice x1 ps.length y1, .slice x2 ls.length y2, .int .i64 m.tx, .int .i64 m.root, .int .i64 m.next, .slice xf m.fs.length yf, .slice p4 s.rs.length q4, .int .i64 0, .int .i64 0, .int .i64 0, .slice none 0 0, .slice none 0 0, .slice none 0 0, .int .i64 0, .slice none 0 0, .slice none 0 0, .slice none 0 0, .int .i64 0, .bool false, .bool false] : Array Value).size) := hide (there_of (sep_get HS_w6.out 6 rfl : w6.heap[b0 + 1 + 1 + 1]? = some (Obj.cells #[.slice none 0 0, .slice none 0 0, .int .i64 0, .int .i64 0, .int .i64 0, .slice none 0 0, .slice none 0 0, .int .i64 0, .int .i64 0, .int .i64 0, .slice none 0 0, .slice none 0 0, .slice none 0 0, .int .i64 0, .slice none 0 0, .slice none 0 0, .slice none 0 0, .int .i64 0, .bool false, .bool false] 50)) 0 20 (show 0 + 20 ≤ 20 by decide))
  obtain ⟨wf, hwf⟩ : ∃ wf, wf = w6.setCells (b0 + 1 + 1 + 1) 0 (#[.slice x1 ps.length y1, .slice x2 ls.length y2, .int .i64 m.tx, .int .i64 m.root, .int .i64 m.next, .slice xf m.fs.length yf, .slice p4 s.rs.length q4, .int .i64 0, .int .i64 0, .int .i64 0, .slice none 0 0, .slice none 0 0, .slice none 0 0, .int .i64 0, .slice none 0 0, .slice none 0 0, .slice none 0 0, .int .i64 0, .bool false, .bool false] : Array Value).toList := ⟨_, rfl⟩
  have HSf := sep_cellsAll HS_w6.out 6 rfl #[.slice x1 ps.length y1, .slice x2 ls.length y2, .int .i64 m.tx, .int .i64 m.root, .int .i64 m.next, .slice xf m.fs.length yf, .slice p4 s.rs.length q4, .int .i64 0, .int .i64 0, .int .i64 0, .slice none 0 0, .slice none 0 0, .slice none 0 0, .int .i64 0, .slice none 0 0, .slice none 0 0, .slice none 0 0, .int .i64 0, .bool false, .bool false] rfl
  have HBf := below_cells (show w.heap.size ≤ b0 + 1 + 1 + 1 by have := HA.out; omega) (#[.slice x1 ps.length y1, .slice x2 ls.length y2, .int .i64 m.tx, .int .i64 m.root, .int .i64 m.next, .slice xf m.fs.length yf, .slice p4 s.rs.length q4, .int .i64 0, .int .i64 0, .int .i64 0, .slice none 0 0, .slice none 0 0, .slice none 0 0, .int .i64 0, .slice none 0 0, .slice none 0 0, .slice none 0 0, .int .i64 0, .bool false, .bool false] : Array Value).toList 0 w6 HB_w6.out
  rw [← hwf] at HSf HBf
  have HWf := hide hwf.symm
  have HSf := hide HSf
  have HBf := hide HBf
  clear hwf
  go_wp2_with (first | ((with_reducible refine wpList_loadL ?_ 50 (.tmp 7) ?_ g 0 ?_ #[.slice x1 ps.length y1, .slice x2 ls.length y2, .int .i64 m.tx, .int .i64 m.root, .int .i64 m.next, .slice xf m.fs.length yf, .slice p4 s.rs.length q4, .int .i64 0, .int .i64 0, .int .i64 0, .slice none 0 0, .slice none 0 0, .slice none 0 0, .int .i64 0, .slice none 0 0, .slice none 0 0, .slice none 0 0, .int .i64 0, .bool false, .bool false] HRg.out _ Tryz.underlying50 ?_ ?_ ?_); exact rfl; exact rfl; exact rfl; exact rfl; exact Tryz.sizeStore) | ((with_reducible refine wpList_storeL ?_ 50 (.tmp 6) (.tmp 18) ?_ (b0 + 1 + 1 + 1) 0 #[.slice x1 ps.length y1, .slice x2 ls.length y2, .int .i64 m.tx, .int .i64 m.root, .int .i64 m.next, .slice xf m.fs.length yf, .slice p4 s.rs.length q4, .int .i64 0, .int .i64 0, .int .i64 0, .slice none 0 0, .slice none 0 0, .slice none 0 0, .int .i64 0, .slice none 0 0, .slice none 0 0, .slice none 0 0, .int .i64 0, .bool false, .bool false] ?_ ?_ HTh.out ?_ ?_ HWf.out ?_); exact rfl; exact rfl; exact rfl; exact rfl; exact Tryz.sizeStore; exact rfl))
  have HRf : Hid (wf.rangeAt (b0 + 1 + 1 + 1) 0 (#[.slice x1 ps.length y1, .slice x2 ls.length y2, .int .i64 m.tx, .int .i64 m.root, .int .i64 m.next, .slice xf m.fs.length yf, .slice p4 s.rs.length q4, .int .i64 0, .int .i64 0, .int .i64 0, .slice none 0 0, .slice none 0 0, .slice none 0 0, .int .i64 0, .slice none 0 0, .slice none 0 0, .slice none 0 0, .int .i64 0, .bool false, .bool false] : Array Value).toList) := hide (range_all (sep_get HSf.out 6 rfl))
  have h := sep_pick (pre := [_, _, _, _, _, _, _, _, _, _, _, _]) (rest := rest) HSf.out [10, 11, 3] (by decide) [_, _, _] rfl
  have h4 : Sep a0 wf (stL a0 (s.rest ps ls m) (.slice x1 ps.length y1) (.slice x2 ls.length y2) (.slice xf m.fs.length yf) (.slice p4 s.rs.length q4) (.slice none 0 0) (.slice none 0 0) (.slice none 0 0) (.slice none 0 0) (.slice none 0 0) (.slice none 0 0) lf [] us ++ rest) := by
    refine sep_perm (l := freesA a0 (.slice none 0 0) [] mt0.fs :: workA a0 (.agg #[.slice none 0 0, .slice none 0 0, .int .i64 0, .slice none 0 0, .slice none 0 0, .slice none 0 0]) wk0 :: _) (sep_cons.2 ⟨⟨ownF_none wf a0, fun k hk => (noF k hk).elim⟩, fun _ _ k hk => (noF k hk).elim, sep_cons.2 ⟨⟨work_none wf a0, fun k hk => (noW k hk).elim⟩, fun _ _ k hk => (noW k hk).elim, h⟩⟩) ?_
    exact perm5 _ _ _ _ _ _
  refine bodyPost_ret (v := .agg #[.slice x1 ps.length y1, .slice x2 ls.length y2, .int .i64 m.tx, .int .i64 m.root, .int .i64 m.next, .slice xf m.fs.length yf, .slice p4 s.rs.length q4, .int .i64 0, .int .i64 0, .int .i64 0, .slice none 0 0, .slice none 0 0, .slice none 0 0, .int .i64 0, .slice none 0 0, .slice none 0 0, .slice none 0 0, .int .i64 0, .bool false, .bool false]) (results_c Tryz.results16 rfl (run_agg HRf.out Tryz.underlying50 rfl Tryz.sizeStore)) rfl ⟨_, rfl, _, ⟨x1, y1, x2, y2, xf, yf, p4, q4, none, 0, none, 0, none, 0, none, 0, none, 0, none, 0, lf, [], us, HU.out, rfl, rfl⟩, sep_pack h4, HBf.out⟩
end Go.Proofs.YtghjbfdbheokcaaGreat
