/-
  impl.StopWrite by a contract: the store's copy, not written any more; the mutex is given back by the deferred call (made by tools/implstopw.py).
-/
import Derived.Test.YtghjbfdbheokcaaGreatImplEnter
import Derived.Test.YtghjbfdbheokcaaGreatImplRest
import Derived.Test.YtghjbfdbheokcaaGreatSpecStop
import Derived.Defers
namespace Go.Proofs.YtghjbfdbheokcaaGreat
open Go.RowKit Go.MuLone

theorem work_disk {w : World} {u0 u1 u2 u3 u4 u5 : Value} {k : Wk} (h : WorkAt w (.agg #[u0, u1, u2, u3, u4, u5]) k) : DiskAt w (.agg #[u0, u1]) k.ps k.ls := by
  obtain ⟨vp, vl, vu, vg, vf, e, hd, -⟩ := h
  obtain ⟨rfl, rfl, -⟩ := agg6 e
  exact hd

set_option maxHeartbeats 16000000 in
set_option maxRecDepth 100000 in
theorem implStopWrite_any (v : Value) (s : St) (hs : s.small) (hid : ∀ r ∈ s.rs, (Lit.int .i64 r.1).wf = true) (w : World) (hd : StAt w v s) :
    Calls Tryz.prog 7 #[v] w fun e w' => ∃ v', e = .returned (.tuple #[v', .int .i64 s.stopC]) ∧ StOwn w' w.heap.size v' s.stop ∧ Below w.heap.size w w' := by
  have HC := hide (fun u wx h => implEnter_any u s hs hid wx h)
  have HSt := hide hd
  have hb := bulkW_in hs.2.2.2.2
  have HTk : Hid (s.tk.ps.length ≤ 1048576 ∧ (∀ t ∈ s.tk.ps, t.size ≤ 1048576) ∧ s.tk.ls.length ≤ 1048576 ∧ ∀ p ∈ s.tk.ls, p.2.size ≤ 1048576) := hide ⟨hb.1, hb.2.1, hb.2.2.1, hb.2.2.2.1⟩
  obtain ⟨cs, rfl, hn⟩ := st_arr hd
  have HN : Hid ((Tryz.prog.info? 50).map (·.size) = some cs.size) := hide (by rw [hn]; exact Tryz.sizeStore)
  clear hs hd hn hid hb
  obtain ⟨a0, ha0⟩ : ∃ a, a = w.heap.size := ⟨_, rfl⟩
  have hS0 := sep_new (sep_new (sep_nil w.heap.size w) (Obj.cells cs 50) (Nat.le_refl _)) (Obj.cells #[.slice none 0 0, .slice none 0 0, .int .i64 0, .int .i64 0, .int .i64 0, .slice none 0 0, .slice none 0 0, .int .i64 0, .int .i64 0, .int .i64 0, .slice none 0 0, .slice none 0 0, .slice none 0 0, .int .i64 0, .slice none 0 0, .slice none 0 0, .slice none 0 0, .int .i64 0, .bool false, .bool false] 50) (by simp)
  obtain ⟨w0, hw0⟩ : ∃ w0, w0 = (w.alloc (Obj.cells cs 50)).alloc (Obj.cells #[.slice none 0 0, .slice none 0 0, .int .i64 0, .int .i64 0, .int .i64 0, .slice none 0 0, .slice none 0 0, .int .i64 0, .int .i64 0, .int .i64 0, .slice none 0 0, .slice none 0 0, .slice none 0 0, .int .i64 0, .slice none 0 0, .slice none 0 0, .slice none 0 0, .int .i64 0, .bool false, .bool false] 50) := ⟨_, rfl⟩
  rw [World.size_alloc, ← hw0, ← ha0] at hS0
  have HS_w0 := hide hS0
  have HB_w0 : Hid (Below w.heap.size w w0) := hide (by rw [hw0]; exact ((Below.refl w.heap.size w).alloc (Nat.le_refl _) _).alloc (by simp) _)
  have HZ_w0 : Hid (a0 ≤ w0.heap.size) := hide (by rw [hw0, ha0]; simp; omega)
  have HA := hide ha0
  have HGR : Hid (w.heap.size ≤ a0 + 1) := hide (by omega)
  have HRg0 : Hid (w0.rangeAt a0 0 cs.toList) := hide (range_all (sep_get HS_w0.out 1 rfl : w0.heap[a0]? = some (Obj.cells cs 50)))
  clear hS0 ha0
  go_enter_defers Tryz.func7, Tryz.ntmps7
  go_upto_region 1 with fail
  rw [← hw0, ← HA.out]
  clear hw0
  go_wp2_with ((with_reducible refine wpList_loadL ?_ 50 (.tmp 1) ?_ a0 0 ?_ cs HRg0.out _ Tryz.underlying50 ?_ ?_ ?_); exact rfl; exact rfl; exact rfl; exact rfl; exact HN.out)
  refine (HC.out _ w0 (st_below HSt.out HB_w0.out)).mono ?_
  rintro e w1 ⟨B, gh, gm, nk, p1, q1, p2, q2, p3, q3, p4, q4, p5, q5, p6, q6, p7, q7, p8, q8, p9, q9, p10, q10, l1, l2, us, rfl, rfl, hu, hs1, -, hb1⟩
  have HU := hide hu
  obtain ⟨wr, hwr⟩ : ∃ b, b = s.wr := ⟨_, rfl⟩
  rw [← hwr] at hs1
  have HWr := hide hwr.symm
  have hs2 := sep_joinL (l'' := [cellA gh (Obj.cells #[.int .i32 1, .int .u32 0, .slice p1 s.ps.length q1, .slice p2 s.ls.length q2, .int .i64 s.m.tx, .int .i64 s.m.root, .int .i64 s.m.next, .slice p3 s.m.fs.length q3, .slice p4 s.rs.length q4, .int .i64 s.tm.tx, .int .i64 s.tm.root, .int .i64 s.tm.next, .slice p5 s.tm.fs.length q5, .slice p6 s.tk.ps.length q6, .slice p7 s.tk.ls.length q7, .int .i64 s.tk.next, .slice p8 s.tk.us.length q8, .slice p9 s.tk.gs.length q9, .slice p10 s.tk.fs.length q10, .int .i64 s.tr, .bool wr, .bool s.fl, .map (some gm)] 80), mapA gm (ridL s.rs (us.map Prod.fst)) nk, diskA a0 (.agg #[.slice p1 s.ps.length q1, .slice p2 s.ls.length q2]) s.ps s.ls, freesA a0 (.slice p3 s.m.fs.length q3) l1 s.m.fs, packA a0 (rdsL a0 (.slice p4 s.rs.length q4) us s.rs), freesA a0 (.slice p5 s.tm.fs.length q5) l2 s.tm.fs, workA a0 (.agg #[.slice p6 s.tk.ps.length q6, .slice p7 s.tk.ls.length q7, .int .i64 s.tk.next, .slice p8 s.tk.us.length q8, .slice p9 s.tk.gs.length q9, .slice p10 s.tk.fs.length q10]) s.tk]) HS_w0.out hb1 hs1 ⟨⟨fun _ h => h, fun _ hp => hp⟩, ⟨fun _ h => h, fun _ hp => hp⟩, asIs_disk HZ_w0.out _ _ _, asIs_frees HZ_w0.out _ _ _, asIs_pack HZ_w0.out (asIs_rds HZ_w0.out _ _ _), asIs_frees HZ_w0.out _ _ _, asIs_work HZ_w0.out _ _, trivial⟩ HZ_w0.out
  have HGH : Hid (w.heap.size ≤ gh) := hide (Nat.le_trans HB_w0.out.size (sep_lt hs1 0 rfl gh rfl).1)
  have HS_w1 : Hid (Sep a0 w1 [cellA gh (Obj.cells #[.int .i32 1, .int .u32 0, .slice p1 s.ps.length q1, .slice p2 s.ls.length q2, .int .i64 s.m.tx, .int .i64 s.m.root, .int .i64 s.m.next, .slice p3 s.m.fs.length q3, .slice p4 s.rs.length q4, .int .i64 s.tm.tx, .int .i64 s.tm.root, .int .i64 s.tm.next, .slice p5 s.tm.fs.length q5, .slice p6 s.tk.ps.length q6, .slice p7 s.tk.ls.length q7, .int .i64 s.tk.next, .slice p8 s.tk.us.length q8, .slice p9 s.tk.gs.length q9, .slice p10 s.tk.fs.length q10, .int .i64 s.tr, .bool wr, .bool s.fl, .map (some gm)] 80), mapA gm (ridL s.rs (us.map Prod.fst)) nk, diskA a0 (.agg #[.slice p1 s.ps.length q1, .slice p2 s.ls.length q2]) s.ps s.ls, freesA a0 (.slice p3 s.m.fs.length q3) l1 s.m.fs, packA a0 (rdsL a0 (.slice p4 s.rs.length q4) us s.rs), freesA a0 (.slice p5 s.tm.fs.length q5) l2 s.tm.fs, workA a0 (.agg #[.slice p6 s.tk.ps.length q6, .slice p7 s.tk.ls.length q7, .int .i64 s.tk.next, .slice p8 s.tk.us.length q8, .slice p9 s.tk.gs.length q9, .slice p10 s.tk.fs.length q10]) s.tk, cellA (a0 + 1) (Obj.cells #[.slice none 0 0, .slice none 0 0, .int .i64 0, .int .i64 0, .int .i64 0, .slice none 0 0, .slice none 0 0, .int .i64 0, .int .i64 0, .int .i64 0, .slice none 0 0, .slice none 0 0, .slice none 0 0, .int .i64 0, .slice none 0 0, .slice none 0 0, .slice none 0 0, .int .i64 0, .bool false, .bool false] 50), cellA a0 (Obj.cells cs 50)]) := hide hs2
  have HB_w1 : Hid (Below w.heap.size w w1) := hide (HB_w0.out.trans (hb1.mono HB_w0.out.size))
  have HZ_w1 : Hid (a0 ≤ w1.heap.size) := hide (Nat.le_trans HZ_w0.out hb1.size)
  have hx20 : w1.cell? ⟨gh, 20, none⟩ = some (.bool wr) := (cell_at (sep_get HS_w1.out 0 rfl : w1.heap[gh]? = some (Obj.cells #[.int .i32 1, .int .u32 0, .slice p1 s.ps.length q1, .slice p2 s.ls.length q2, .int .i64 s.m.tx, .int .i64 s.m.root, .int .i64 s.m.next, .slice p3 s.m.fs.length q3, .slice p4 s.rs.length q4, .int .i64 s.tm.tx, .int .i64 s.tm.root, .int .i64 s.tm.next, .slice p5 s.tm.fs.length q5, .slice p6 s.tk.ps.length q6, .slice p7 s.tk.ls.length q7, .int .i64 s.tk.next, .slice p8 s.tk.us.length q8, .slice p9 s.tk.gs.length q9, .slice p10 s.tk.fs.length q10, .int .i64 s.tr, .bool wr, .bool s.fl, .map (some gm)] 80)) 20).1
  clear hu hs1 hs2 hb1 hwr HC HSt HS_w0 HZ_w0 HB_w0 HRg0
  cases wr with
  | false =>
    have hst : s.stop = s := if_neg (by rw [HWr.out]; decide)
    have hsc : s.stopC = 2 := if_neg (by rw [HWr.out]; decide)
    have HE1 := hide hst
    have HE2 := hide hsc
    clear hst hsc
    have HRg : Hid (w1.rangeAt gh 2 (#[.slice p1 s.ps.length q1, .slice p2 s.ls.length q2, .int .i64 s.m.tx, .int .i64 s.m.root, .int .i64 s.m.next, .slice p3 s.m.fs.length q3, .slice p4 s.rs.length q4, .int .i64 s.tm.tx, .int .i64 s.tm.root, .int .i64 s.tm.next, .slice p5 s.tm.fs.length q5, .slice p6 s.tk.ps.length q6, .slice p7 s.tk.ls.length q7, .int .i64 s.tk.next, .slice p8 s.tk.us.length q8, .slice p9 s.tk.gs.length q9, .slice p10 s.tk.fs.length q10, .int .i64 s.tr, .bool false, .bool s.fl] : Array Value).toList) := hide (range_of (sep_get HS_w1.out 0 rfl : w1.heap[gh]? = some (Obj.cells #[.int .i32 1, .int .u32 0, .slice p1 s.ps.length q1, .slice p2 s.ls.length q2, .int .i64 s.m.tx, .int .i64 s.m.root, .int .i64 s.m.next, .slice p3 s.m.fs.length q3, .slice p4 s.rs.length q4, .int .i64 s.tm.tx, .int .i64 s.tm.root, .int .i64 s.tm.next, .slice p5 s.tm.fs.length q5, .slice p6 s.tk.ps.length q6, .slice p7 s.tk.ls.length q7, .int .i64 s.tk.next, .slice p8 s.tk.us.length q8, .slice p9 s.tk.gs.length q9, .slice p10 s.tk.fs.length q10, .int .i64 s.tr, .bool false, .bool s.fl, .map (some gm)] 80)) 2 20)
    have HTh : Hid (w1.there (a0 + 1) 0 (#[.slice p1 s.ps.length q1, .slice p2 s.ls.length q2, .int .i64 s.m.tx, .int .i64 s.m.root, .int .i64 s.m.next, .slice p3 s.m.fs.length q3, .slice p4 s.rs.length q4, .int .i64 s.tm.tx, .int .i64 s.tm.root, .int .i64 s.tm.next, .slice p5 s.tm.fs.length q5, .slice p6 s.tk.ps.length q6, .slice p7 s.tk.ls.length q7, .int .i64 s.tk.next, .slice p8 s.tk.us.length q8, .slice p9 s.tk.gs.length q9, .slice p10 s.tk.fs.length q10, .int .i64 s.tr, .bool false, .bool s.fl] : Array Value).size) := hide (there_of (sep_get HS_w1.out 7 rfl : w1.heap[a0 + 1]? = some (Obj.cells #[.slice none 0 0, .slice none 0 0, .int .i64 0, .int .i64 0, .int .i64 0, .slice none 0 0, .slice none 0 0, .int .i64 0, .int .i64 0, .int .i64 0, .slice none 0 0, .slice none 0 0, .slice none 0 0, .int .i64 0, .slice none 0 0, .slice none 0 0, .slice none 0 0, .int .i64 0, .bool false, .bool false] 50)) 0 20 (show 0 + 20 ≤ 20 by decide))
    obtain ⟨wf, hwf⟩ : ∃ wf, wf = w1.setCells (a0 + 1) 0 (#[.slice p1 s.ps.length q1, .slice p2 s.ls.length q2, .int .i64 s.m.tx, .int .i64 s.m.root, .int .i64 s.m.next, .slice p3 s.m.fs.length q3, .slice p4 s.rs.length q4, .int .i64 s.tm.tx, .int .i64 s.tm.root, .int .i64 s.tm.next, .slice p5 s.tm.fs.length q5, .slice p6 s.tk.ps.length q6, .slice p7 s.tk.ls.length q7, .int .i64 s.tk.next, .slice p8 s.tk.us.length q8, .slice p9 s.tk.gs.length q9, .slice p10 s.tk.fs.length q10, .int .i64 s.tr, .bool false, .bool s.fl] : Array Value).toList := ⟨_, rfl⟩
    have hSf := sep_cellsAll HS_w1.out 7 rfl #[.slice p1 s.ps.length q1, .slice p2 s.ls.length q2, .int .i64 s.m.tx, .int .i64 s.m.root, .int .i64 s.m.next, .slice p3 s.m.fs.length q3, .slice p4 s.rs.length q4, .int .i64 s.tm.tx, .int .i64 s.tm.root, .int .i64 s.tm.next, .slice p5 s.tm.fs.length q5, .slice p6 s.tk.ps.length q6, .slice p7 s.tk.ls.length q7, .int .i64 s.tk.next, .slice p8 s.tk.us.length q8, .slice p9 s.tk.gs.length q9, .slice p10 s.tk.fs.length q10, .int .i64 s.tr, .bool false, .bool s.fl] rfl
    have hBf := below_cells HGR.out (#[.slice p1 s.ps.length q1, .slice p2 s.ls.length q2, .int .i64 s.m.tx, .int .i64 s.m.root, .int .i64 s.m.next, .slice p3 s.m.fs.length q3, .slice p4 s.rs.length q4, .int .i64 s.tm.tx, .int .i64 s.tm.root, .int .i64 s.tm.next, .slice p5 s.tm.fs.length q5, .slice p6 s.tk.ps.length q6, .slice p7 s.tk.ls.length q7, .int .i64 s.tk.next, .slice p8 s.tk.us.length q8, .slice p9 s.tk.gs.length q9, .slice p10 s.tk.fs.length q10, .int .i64 s.tr, .bool false, .bool s.fl] : Array Value).toList 0 w1 HB_w1.out
    rw [← hwf] at hSf hBf
    have HWf := hide hwf.symm
    have HSf := hide hSf
    have HBf := hide hBf
    clear hwf hSf hBf
    go_wp2_with (first | ((with_reducible refine wpList_loadL ?_ 50 (.tmp 18) ?_ gh 2 ?_ #[.slice p1 s.ps.length q1, .slice p2 s.ls.length q2, .int .i64 s.m.tx, .int .i64 s.m.root, .int .i64 s.m.next, .slice p3 s.m.fs.length q3, .slice p4 s.rs.length q4, .int .i64 s.tm.tx, .int .i64 s.tm.root, .int .i64 s.tm.next, .slice p5 s.tm.fs.length q5, .slice p6 s.tk.ps.length q6, .slice p7 s.tk.ls.length q7, .int .i64 s.tk.next, .slice p8 s.tk.us.length q8, .slice p9 s.tk.gs.length q9, .slice p10 s.tk.fs.length q10, .int .i64 s.tr, .bool false, .bool s.fl] HRg.out _ Tryz.underlying50 ?_ ?_ ?_); exact rfl; exact rfl; exact rfl; exact rfl; exact Tryz.sizeStore) | ((with_reducible refine wpList_storeL ?_ 50 (.tmp 2) (.tmp 19) ?_ (a0 + 1) 0 #[.slice p1 s.ps.length q1, .slice p2 s.ls.length q2, .int .i64 s.m.tx, .int .i64 s.m.root, .int .i64 s.m.next, .slice p3 s.m.fs.length q3, .slice p4 s.rs.length q4, .int .i64 s.tm.tx, .int .i64 s.tm.root, .int .i64 s.tm.next, .slice p5 s.tm.fs.length q5, .slice p6 s.tk.ps.length q6, .slice p7 s.tk.ls.length q7, .int .i64 s.tk.next, .slice p8 s.tk.us.length q8, .slice p9 s.tk.gs.length q9, .slice p10 s.tk.fs.length q10, .int .i64 s.tr, .bool false, .bool s.fl] ?_ ?_ HTh.out ?_ ?_ HWf.out ?_); exact rfl; exact rfl; exact rfl; exact rfl; exact Tryz.sizeStore; exact rfl))
    have hcf : wf.cell? ⟨gh, 0, none⟩ = some (.int .i32 1) := (cell_at (sep_get HSf.out 0 rfl : wf.heap[gh]? = some (Obj.cells #[.int .i32 1, .int .u32 0, .slice p1 s.ps.length q1, .slice p2 s.ls.length q2, .int .i64 s.m.tx, .int .i64 s.m.root, .int .i64 s.m.next, .slice p3 s.m.fs.length q3, .slice p4 s.rs.length q4, .int .i64 s.tm.tx, .int .i64 s.tm.root, .int .i64 s.tm.next, .slice p5 s.tm.fs.length q5, .slice p6 s.tk.ps.length q6, .slice p7 s.tk.ls.length q7, .int .i64 s.tk.next, .slice p8 s.tk.us.length q8, .slice p9 s.tk.gs.length q9, .slice p10 s.tk.fs.length q10, .int .i64 s.tr, .bool false, .bool s.fl, .map (some gm)] 80)) 0).1
    have hzf : wf.frozen? ⟨gh, 0, none⟩ = false := (cell_at (sep_get HSf.out 0 rfl : wf.heap[gh]? = some (Obj.cells #[.int .i32 1, .int .u32 0, .slice p1 s.ps.length q1, .slice p2 s.ls.length q2, .int .i64 s.m.tx, .int .i64 s.m.root, .int .i64 s.m.next, .slice p3 s.m.fs.length q3, .slice p4 s.rs.length q4, .int .i64 s.tm.tx, .int .i64 s.tm.root, .int .i64 s.tm.next, .slice p5 s.tm.fs.length q5, .slice p6 s.tk.ps.length q6, .slice p7 s.tk.ls.length q7, .int .i64 s.tk.next, .slice p8 s.tk.us.length q8, .slice p9 s.tk.gs.length q9, .slice p10 s.tk.fs.length q10, .int .i64 s.tr, .bool false, .bool s.fl, .map (some gm)] 80)) 0).2
    refine leaves_cons (f := 24) (args := #[.pointer (some ⟨gh, 0, none⟩)]) (by simp) (by simp [go_sem]) ?_
    refine (unlock_deferred muLib ⟨gh, 0, none⟩ .returning wf hcf hzf).mono ?_
    rintro e u' w'' ⟨rfl, rfl, rfl⟩
    have HSg := hide (sep_store HSf.out 0 rfl 0 (.int .i32 0))
    have HBg := HBf.out.setCell (p := ⟨gh, 0, none⟩) HGH.out (.int .i32 0)
    have HRf : Hid ((wf.setCell ⟨gh, 0, none⟩ (.int .i32 0)).rangeAt (a0 + 1) 0 (#[.slice p1 s.ps.length q1, .slice p2 s.ls.length q2, .int .i64 s.m.tx, .int .i64 s.m.root, .int .i64 s.m.next, .slice p3 s.m.fs.length q3, .slice p4 s.rs.length q4, .int .i64 s.tm.tx, .int .i64 s.tm.root, .int .i64 s.tm.next, .slice p5 s.tm.fs.length q5, .slice p6 s.tk.ps.length q6, .slice p7 s.tk.ls.length q7, .int .i64 s.tk.next, .slice p8 s.tk.us.length q8, .slice p9 s.tk.gs.length q9, .slice p10 s.tk.fs.length q10, .int .i64 s.tr, .bool false, .bool s.fl] : Array Value).toList) := hide (range_all (sep_get HSg.out 7 rfl))
    have h := sep_pick (pre := [_, _, _, _, _, _, _, _, _]) (rest := []) HSg.out [2, 3, 4, 5, 6] (by decide) [_, _, _, _, _] rfl
    rw [HA.out] at h
    rw [HE1.out, HE2.out]
    exact ⟨_, results_ct Tryz.results7 rfl rfl (run_agg HRf.out Tryz.underlying50 rfl Tryz.sizeStore), _, rfl, ⟨p1, q1, p2, q2, p3, q3, p4, q4, p5, q5, p6, q6, p7, q7, p8, q8, p9, q9, p10, q10, l1, l2, us, HU.out, by rw [HWr.out], h⟩, HBg⟩
  | true =>
    have hst : s.stop = s.rest (syncD s.tk.ps s.tk.ls) [] s.m := if_pos HWr.out
    have hsc : s.stopC = 0 := if_pos HWr.out
    have HE1 := hide hst
    have HE2 := hide hsc
    clear hst hsc
    have hDk : DiskAt w1 (.agg #[.slice p6 s.tk.ps.length q6, .slice p7 s.tk.ls.length q7]) s.tk.ps s.tk.ls := work_disk (work_of_own (sep_get HS_w1.out 6 rfl))
    have HStp := hide (implStop_any a0 gh (.int .i32 1) (.int .u32 0) (.slice p1 s.ps.length q1) (.slice p2 s.ls.length q2) (.int .i64 s.m.tx) (.int .i64 s.m.root) (.int .i64 s.m.next) (.slice p3 s.m.fs.length q3) (.slice p4 s.rs.length q4) (.int .i64 s.tm.tx) (.int .i64 s.tm.root) (.int .i64 s.tm.next) (.slice p5 s.tm.fs.length q5) (.int .i64 s.tk.next) (.slice p8 s.tk.us.length q8) (.slice p9 s.tk.gs.length q9) (.slice p10 s.tk.fs.length q10) (.int .i64 s.tr) (.bool true) (.bool s.fl) (.map (some gm)) p6 p7 s.tk.ps.length q6 s.tk.ls.length q7 s.tk.ps s.tk.ls HTk.out.1 HTk.out.2.2.1 HTk.out.2.1 HTk.out.2.2.2 [mapA gm (ridL s.rs (us.map Prod.fst)) nk, diskA a0 (.agg #[.slice p1 s.ps.length q1, .slice p2 s.ls.length q2]) s.ps s.ls, freesA a0 (.slice p3 s.m.fs.length q3) l1 s.m.fs, packA a0 (rdsL a0 (.slice p4 s.rs.length q4) us s.rs), freesA a0 (.slice p5 s.tm.fs.length q5) l2 s.tm.fs, workA a0 (.agg #[.slice p6 s.tk.ps.length q6, .slice p7 s.tk.ls.length q7, .int .i64 s.tk.next, .slice p8 s.tk.us.length q8, .slice p9 s.tk.gs.length q9, .slice p10 s.tk.fs.length q10]) s.tk, cellA (a0 + 1) (Obj.cells #[.slice none 0 0, .slice none 0 0, .int .i64 0, .int .i64 0, .int .i64 0, .slice none 0 0, .slice none 0 0, .int .i64 0, .int .i64 0, .int .i64 0, .slice none 0 0, .slice none 0 0, .slice none 0 0, .int .i64 0, .slice none 0 0, .slice none 0 0, .slice none 0 0, .int .i64 0, .bool false, .bool false] 50), cellA a0 (Obj.cells cs 50)] w1 HS_w1.out HZ_w1.out ⟨rfl, rfl, rfl, rfl⟩ hDk)
    clear hDk
    go_wp2_with fail
    refine HStp.out.mono ?_
    rintro e w2 ⟨z1, y1, z2, y2, rfl, hs2, hb2⟩
    have HS_w2 := hide hs2
    have HB_w2 : Hid (Below w.heap.size w w2) := hide (HB_w1.out.trans (by rw [← HA.out]; exact hb2))
    clear hs2 hb2 HStp
    have HRg : Hid (w2.rangeAt gh 2 (#[.slice z1 (syncD s.tk.ps s.tk.ls).length y1, .slice z2 0 y2, .int .i64 s.m.tx, .int .i64 s.m.root, .int .i64 s.m.next, .slice p3 s.m.fs.length q3, .slice p4 s.rs.length q4, .int .i64 0, .int .i64 0, .int .i64 0, .slice none 0 0, .slice none 0 0, .slice none 0 0, .int .i64 0, .slice none 0 0, .slice none 0 0, .slice none 0 0, .int .i64 0, .bool false, .bool false] : Array Value).toList) := hide (range_of (sep_get HS_w2.out 1 rfl : w2.heap[gh]? = some (Obj.cells #[.int .i32 1, .int .u32 0, .slice z1 (syncD s.tk.ps s.tk.ls).length y1, .slice z2 0 y2, .int .i64 s.m.tx, .int .i64 s.m.root, .int .i64 s.m.next, .slice p3 s.m.fs.length q3, .slice p4 s.rs.length q4, .int .i64 0, .int .i64 0, .int .i64 0, .slice none 0 0, .slice none 0 0, .slice none 0 0, .int .i64 0, .slice none 0 0, .slice none 0 0, .slice none 0 0, .int .i64 0, .bool false, .bool false, .map (some gm)] 80)) 2 20)
    have HTh : Hid (w2.there (a0 + 1) 0 (#[.slice z1 (syncD s.tk.ps s.tk.ls).length y1, .slice z2 0 y2, .int .i64 s.m.tx, .int .i64 s.m.root, .int .i64 s.m.next, .slice p3 s.m.fs.length q3, .slice p4 s.rs.length q4, .int .i64 0, .int .i64 0, .int .i64 0, .slice none 0 0, .slice none 0 0, .slice none 0 0, .int .i64 0, .slice none 0 0, .slice none 0 0, .slice none 0 0, .int .i64 0, .bool false, .bool false] : Array Value).size) := hide (there_of (sep_get HS_w2.out 8 rfl : w2.heap[a0 + 1]? = some (Obj.cells #[.slice none 0 0, .slice none 0 0, .int .i64 0, .int .i64 0, .int .i64 0, .slice none 0 0, .slice none 0 0, .int .i64 0, .int .i64 0, .int .i64 0, .slice none 0 0, .slice none 0 0, .slice none 0 0, .int .i64 0, .slice none 0 0, .slice none 0 0, .slice none 0 0, .int .i64 0, .bool false, .bool false] 50)) 0 20 (show 0 + 20 ≤ 20 by decide))
    obtain ⟨wf, hwf⟩ : ∃ wf, wf = w2.setCells (a0 + 1) 0 (#[.slice z1 (syncD s.tk.ps s.tk.ls).length y1, .slice z2 0 y2, .int .i64 s.m.tx, .int .i64 s.m.root, .int .i64 s.m.next, .slice p3 s.m.fs.length q3, .slice p4 s.rs.length q4, .int .i64 0, .int .i64 0, .int .i64 0, .slice none 0 0, .slice none 0 0, .slice none 0 0, .int .i64 0, .slice none 0 0, .slice none 0 0, .slice none 0 0, .int .i64 0, .bool false, .bool false] : Array Value).toList := ⟨_, rfl⟩
    have hSf := sep_cellsAll HS_w2.out 8 rfl #[.slice z1 (syncD s.tk.ps s.tk.ls).length y1, .slice z2 0 y2, .int .i64 s.m.tx, .int .i64 s.m.root, .int .i64 s.m.next, .slice p3 s.m.fs.length q3, .slice p4 s.rs.length q4, .int .i64 0, .int .i64 0, .int .i64 0, .slice none 0 0, .slice none 0 0, .slice none 0 0, .int .i64 0, .slice none 0 0, .slice none 0 0, .slice none 0 0, .int .i64 0, .bool false, .bool false] rfl
    have hBf := below_cells HGR.out (#[.slice z1 (syncD s.tk.ps s.tk.ls).length y1, .slice z2 0 y2, .int .i64 s.m.tx, .int .i64 s.m.root, .int .i64 s.m.next, .slice p3 s.m.fs.length q3, .slice p4 s.rs.length q4, .int .i64 0, .int .i64 0, .int .i64 0, .slice none 0 0, .slice none 0 0, .slice none 0 0, .int .i64 0, .slice none 0 0, .slice none 0 0, .slice none 0 0, .int .i64 0, .bool false, .bool false] : Array Value).toList 0 w2 HB_w2.out
    rw [← hwf] at hSf hBf
    have HWf := hide hwf.symm
    have HSf := hide hSf
    have HBf := hide hBf
    clear hwf hSf hBf
    go_wp2_with (first | ((with_reducible refine wpList_loadL ?_ 50 (.tmp 24) ?_ gh 2 ?_ #[.slice z1 (syncD s.tk.ps s.tk.ls).length y1, .slice z2 0 y2, .int .i64 s.m.tx, .int .i64 s.m.root, .int .i64 s.m.next, .slice p3 s.m.fs.length q3, .slice p4 s.rs.length q4, .int .i64 0, .int .i64 0, .int .i64 0, .slice none 0 0, .slice none 0 0, .slice none 0 0, .int .i64 0, .slice none 0 0, .slice none 0 0, .slice none 0 0, .int .i64 0, .bool false, .bool false] HRg.out _ Tryz.underlying50 ?_ ?_ ?_); exact rfl; exact rfl; exact rfl; exact rfl; exact Tryz.sizeStore) | ((with_reducible refine wpList_storeL ?_ 50 (.tmp 2) (.tmp 25) ?_ (a0 + 1) 0 #[.slice z1 (syncD s.tk.ps s.tk.ls).length y1, .slice z2 0 y2, .int .i64 s.m.tx, .int .i64 s.m.root, .int .i64 s.m.next, .slice p3 s.m.fs.length q3, .slice p4 s.rs.length q4, .int .i64 0, .int .i64 0, .int .i64 0, .slice none 0 0, .slice none 0 0, .slice none 0 0, .int .i64 0, .slice none 0 0, .slice none 0 0, .slice none 0 0, .int .i64 0, .bool false, .bool false] ?_ ?_ HTh.out ?_ ?_ HWf.out ?_); exact rfl; exact rfl; exact rfl; exact rfl; exact Tryz.sizeStore; exact rfl))
    have hcf : wf.cell? ⟨gh, 0, none⟩ = some (.int .i32 1) := (cell_at (sep_get HSf.out 1 rfl : wf.heap[gh]? = some (Obj.cells #[.int .i32 1, .int .u32 0, .slice z1 (syncD s.tk.ps s.tk.ls).length y1, .slice z2 0 y2, .int .i64 s.m.tx, .int .i64 s.m.root, .int .i64 s.m.next, .slice p3 s.m.fs.length q3, .slice p4 s.rs.length q4, .int .i64 0, .int .i64 0, .int .i64 0, .slice none 0 0, .slice none 0 0, .slice none 0 0, .int .i64 0, .slice none 0 0, .slice none 0 0, .slice none 0 0, .int .i64 0, .bool false, .bool false, .map (some gm)] 80)) 0).1
    have hzf : wf.frozen? ⟨gh, 0, none⟩ = false := (cell_at (sep_get HSf.out 1 rfl : wf.heap[gh]? = some (Obj.cells #[.int .i32 1, .int .u32 0, .slice z1 (syncD s.tk.ps s.tk.ls).length y1, .slice z2 0 y2, .int .i64 s.m.tx, .int .i64 s.m.root, .int .i64 s.m.next, .slice p3 s.m.fs.length q3, .slice p4 s.rs.length q4, .int .i64 0, .int .i64 0, .int .i64 0, .slice none 0 0, .slice none 0 0, .slice none 0 0, .int .i64 0, .slice none 0 0, .slice none 0 0, .slice none 0 0, .int .i64 0, .bool false, .bool false, .map (some gm)] 80)) 0).2
    refine leaves_cons (f := 24) (args := #[.pointer (some ⟨gh, 0, none⟩)]) (by simp) (by simp [go_sem]) ?_
    refine (unlock_deferred muLib ⟨gh, 0, none⟩ .returning wf hcf hzf).mono ?_
    rintro e u' w'' ⟨rfl, rfl, rfl⟩
    have HSg := hide (sep_store HSf.out 1 rfl 0 (.int .i32 0))
    have HBg := HBf.out.setCell (p := ⟨gh, 0, none⟩) HGH.out (.int .i32 0)
    have HRf : Hid ((wf.setCell ⟨gh, 0, none⟩ (.int .i32 0)).rangeAt (a0 + 1) 0 (#[.slice z1 (syncD s.tk.ps s.tk.ls).length y1, .slice z2 0 y2, .int .i64 s.m.tx, .int .i64 s.m.root, .int .i64 s.m.next, .slice p3 s.m.fs.length q3, .slice p4 s.rs.length q4, .int .i64 0, .int .i64 0, .int .i64 0, .slice none 0 0, .slice none 0 0, .slice none 0 0, .int .i64 0, .slice none 0 0, .slice none 0 0, .slice none 0 0, .int .i64 0, .bool false, .bool false] : Array Value).toList) := hide (range_all (sep_get HSg.out 8 rfl))
    have h := sep_pick (pre := [_, _, _, _, _, _, _, _, _, _]) (rest := []) HSg.out [0, 4, 5] (by decide) [_, _, _] rfl
    have h4 : Sep a0 (wf.setCell ⟨gh, 0, none⟩ (.int .i32 0)) (stL a0 (s.rest (syncD s.tk.ps s.tk.ls) [] s.m) (.slice z1 (syncD s.tk.ps s.tk.ls).length y1) (.slice z2 0 y2) (.slice p3 s.m.fs.length q3) (.slice p4 s.rs.length q4) (.slice none 0 0) (.slice none 0 0) (.slice none 0 0) (.slice none 0 0) (.slice none 0 0) (.slice none 0 0) l1 [] us ++ []) := by
      refine sep_perm (l := freesA a0 (.slice none 0 0) [] mt0.fs :: workA a0 (.agg #[.slice none 0 0, .slice none 0 0, .int .i64 0, .slice none 0 0, .slice none 0 0, .slice none 0 0]) wk0 :: _) (sep_cons.2 ⟨⟨ownF_none _ a0, fun k hk => (noF k hk).elim⟩, fun _ _ k hk => (noF k hk).elim, sep_cons.2 ⟨⟨work_none _ a0, fun k hk => (noW k hk).elim⟩, fun _ _ k hk => (noW k hk).elim, h⟩⟩) ?_
      exact perm5 _ _ _ _ _ _
    rw [List.append_nil, HA.out] at h4
    rw [HE1.out, HE2.out]
    exact ⟨_, results_ct Tryz.results7 rfl rfl (run_agg HRf.out Tryz.underlying50 rfl Tryz.sizeStore), _, rfl, ⟨z1, y1, z2, y2, p3, q3, p4, q4, none, 0, none, 0, none, 0, none, 0, none, 0, none, 0, l1, [], us, HU.out, rfl, h4⟩, HBg⟩
end Go.Proofs.YtghjbfdbheokcaaGreat
