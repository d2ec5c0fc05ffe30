/-
  impl.ReaderGet by a contract: the value of a key in the tree of a reader; the mutex is given back by the deferred call (made by tools/implrget.py).
-/
import Derived.Test.YtbokjfjdjgopeaaGreatDoorImplEnter
import Derived.Test.YtbokjfjdjgopeaaGreatDoorRgI
import Derived.Test.YtbokjfjdjgopeaaGreatDoorGetImpl
import Derived.Defers
namespace Go.Proofs.YtbokjfjdjgopeaaGreatDoor
open Go.RowKit Go.MuLone

theorem ridL_at : ∀ (rs : List (Int × Mt)) (us : List Value) (id : Int) (b : Nat), us.length = rs.length → (fstR (ridL rs us) id = none ∧ atR rs id b = -1) ∨ ∃ (k : Nat) (m : Mt) (u : Value), rs[k]? = some (id, m) ∧ atR rs id b = ((b + k : Nat) : Int) ∧ us[k]? = some u ∧ fstR (ridL rs us) id = some (.agg #[.int .i64 m.tx, .int .i64 m.root, .int .i64 m.next, u])
  | [], [], _, _, _ => Or.inl ⟨rfl, rfl⟩
  | [], _ :: _, _, _, h => by simp at h
  | _ :: _, [], _, _, h => by simp at h
  | r :: rs, u :: us, id, b, h => by
    rw [ridL, fstR, atR]
    by_cases e : r.1 = id
    · refine Or.inr ⟨0, r.2, u, by rw [← e]; rfl, by rw [if_pos e]; rfl, rfl, by rw [if_pos e]⟩
    · rw [if_neg e, if_neg e]
      rcases ridL_at rs us id (b + 1) (by simpa using h) with h1 | ⟨k, m, x, h1, h2, h3, h4⟩
      · exact Or.inl h1
      · refine Or.inr ⟨k + 1, m, x, by simpa using h1, ?_, by simpa using h3, h4⟩
        rw [h2]
        congr 1
        omega

/-- what a deferred call finds hangs on the results' slots alone -/
theorem leaves_tmps {P : Program} {fn : Func} {R : Ending → World → Prop} {t t' : Array Value} (h : ∀ w, (results fn t').run P w = (results fn t).run P w) : ∀ (ds : List Deferred) (u : FrameMode) (w : World), Leaves P fn t' R ds u w → Leaves P fn t R ds u w
  | [], .returning, w, ⟨v, hr, hR⟩ => ⟨v, (h w).symm.trans hr, hR⟩
  | [], .panicking _, _, hR => hR
  | [], .run, _, hR => hR
  | d :: ds, u, w, ⟨h1, fv, cap, f, args, h2, h3, h4⟩ => ⟨h1, fv, cap, f, args, h2, h3, h4.mono (fun e u' w' hR => by
      cases e with
      | returned v => exact leaves_tmps h ds _ _ hR
      | panicked c => exact leaves_tmps h ds _ _ hR
      | outgrown => exact hR)⟩

theorem rget_put (d : Nat) (h6 : d ≠ 6) (h7 : d ≠ 7) {v : Value} {a : Act} {R : Ending → World → Prop} {m : FrameMode} {w : World} (h : Leaves Tryz.prog Tryz.f7 (a.put (some d) v).tmps R (a.put (some d) v).defers m w) : Leaves Tryz.prog Tryz.f7 a.tmps R a.defers m w := by
  refine leaves_tmps (fun w => ?_) _ _ _ h
  have e : ∀ t : Nat, d ≠ t → (a.put (some d) v).tmps.getD t undef = a.tmps.getD t undef := fun t ht => by
    show (a.tmps.setIfInBounds d v).getD t undef = a.tmps.getD t undef
    simp only [Array.getD_eq_getD_getElem?]
    rw [Array.getElem?_setIfInBounds_ne ht]
  rw [results_tmp2 Tryz.results7, results_tmp2 Tryz.results7, e 6 h6, e 7 h7]

set_option maxHeartbeats 16000000 in
set_option maxRecDepth 100000 in
theorem implReaderGet_any (v : Value) (s : St) (hs : s.small) (hid : ∀ r ∈ s.rs, (Lit.int .i64 r.1).wf = true) (id : Int) (hiw : (Lit.int .i64 id).wf = true) (key : ByteArray) (w : World) (hT : SumTab w) (hd : StAt w v s) :
    Calls Tryz.prog 7 #[v, .int .i64 id, .string key] w fun e w' => e = .returned (.tuple #[.string (rget s id key).1, .int .i64 (rget s id key).2]) ∧ Below w.heap.size w w' := by
  have HC := hide (fun u wx h => implEnter_any u s hs hid wx h)
  have HTb : Hid (∀ wy, Below w.heap.size w wy → SumTab wy) := hide (fun wy h => sumTab_below hT h)
  have HSt := hide hd
  have HId := hide hiw
  have HDs := hide hs.1
  obtain ⟨cs, rfl, hn⟩ := st_arr hd
  have HN : Hid ((Tryz.prog.info? 52).map (·.size) = some cs.size) := hide (by rw [hn]; exact Tryz.sizeStore)
  clear hs hd hn hid hiw hT
  obtain ⟨a0, ha0⟩ : ∃ a, a = w.heap.size := ⟨_, rfl⟩
  obtain ⟨w0, hw0⟩ : ∃ w0, w0 = w.alloc (Obj.cells cs 52) := ⟨_, rfl⟩
  have HB_w0 : Hid (Below w.heap.size w w0) := hide (by rw [hw0]; exact (Below.refl w.heap.size w).alloc (Nat.le_refl _) _)
  have HRg0 : Hid (w0.rangeAt a0 0 cs.toList) := hide (range_all (by rw [hw0, ha0]; exact heap_alloc_new w _ : w0.heap[a0]? = some (Obj.cells cs 52)))
  have HA := hide ha0
  clear ha0
  go_enter_defers Tryz.func7, Tryz.ntmps7
  go_upto_region 1 with fail
  rw [← hw0, ← HA.out]
  clear hw0
  go_wp2_with ((with_reducible refine wpList_loadL ?_ 52 (.tmp 3) ?_ a0 0 ?_ cs HRg0.out _ Tryz.underlying52 ?_ ?_ ?_); exact rfl; exact rfl; exact rfl; exact rfl; exact HN.out)
  refine (HC.out _ w0 (st_below HSt.out HB_w0.out)).mono ?_
  rintro e w1 ⟨B, gh, gm, nk, p1, q1, p2, q2, p3, q3, p4, q4, p5, q5, p6, q6, p7, q7, p8, q8, p9, q9, p10, q10, l1, l2, us, rfl, hB, hu, hs1, -, hb1⟩
  have HGH : Hid (w.heap.size ≤ gh) := hide (Nat.le_trans HB_w0.out.size (by rw [← hB]; exact (sep_lt hs1 0 rfl gh rfl).1))
  have HS_w1 := hide hs1
  have HB_w1 : Hid (Below w.heap.size w w1) := hide (HB_w0.out.trans (hb1.mono HB_w0.out.size))
  have HZ_w1 : Hid (B ≤ w1.heap.size) := hide (by rw [hB]; exact hb1.size)
  have hx22 : w1.cell? ⟨gh, 22, none⟩ = some (.map (some gm)) := (cell_at (sep_get HS_w1.out 0 rfl : w1.heap[gh]? = some (Obj.cells #[.int .i32 1, .int .u32 0, .slice p1 s.ps.length q1, .slice p2 s.ls.length q2, .int .i64 s.m.tx, .int .i64 s.m.root, .int .i64 s.m.next, .slice p3 s.m.fs.length q3, .slice p4 s.rs.length q4, .int .i64 s.tm.tx, .int .i64 s.tm.root, .int .i64 s.tm.next, .slice p5 s.tm.fs.length q5, .slice p6 s.tk.ps.length q6, .slice p7 s.tk.ls.length q7, .int .i64 s.tk.next, .slice p8 s.tk.us.length q8, .slice p9 s.tk.gs.length q9, .slice p10 s.tk.fs.length q10, .int .i64 s.tr, .bool s.wr, .bool s.fl, .map (some gm)] 80)) 22).1
  have hcase := ridL_at s.rs (us.map Prod.fst) id 0 (by rw [List.length_map, hu])
  clear hu hs1 hb1 HC HSt HB_w0 HRg0 hB
  rcases hcase with ⟨hf, hno⟩ | ⟨k, m, u, hrk, hak, huk, hf⟩
  · have HR := hide (rget_no (key := key) hno)
    have hlk : (Instr.lookup 78 (.map (some gm)) (.int .i64 id) true).run Tryz.prog w1 = .ok (.tuple #[.agg #[.int .i64 0, .int .i64 0, .int .i64 0, .slice none 0 0], .bool false]) w1 := by rw [rmap_look (sep_get HS_w1.out 1 rfl) id HId.out, hf]; rfl
    clear hf hno
    obtain ⟨g9, hg9⟩ : ∃ g, g = w1.heap.size := ⟨_, rfl⟩
    obtain ⟨w2, hw2⟩ : ∃ wx, wx = w1.alloc (Obj.cells #[.int .i64 0, .int .i64 0, .int .i64 0, .slice none 0 0] 45) := ⟨_, rfl⟩
    have hs2 := sep_new HS_w1.out (Obj.cells #[.int .i64 0, .int .i64 0, .int .i64 0, .slice none 0 0] 45) HZ_w1.out
    rw [← hw2, ← hg9] at hs2
    have HS_w2 := hide hs2
    have HB_w2 : Hid (Below w.heap.size w w2) := hide (by rw [hw2]; exact HB_w1.out.alloc HB_w1.out.size _)
    clear hs2
    go_wp2_with fail
    rw [← hw2]
    have hcf : w2.cell? ⟨gh, 0, none⟩ = some (.int .i32 1) := (cell_at (sep_get HS_w2.out 1 rfl : w2.heap[gh]? = some (Obj.cells #[.int .i32 1, .int .u32 0, .slice p1 s.ps.length q1, .slice p2 s.ls.length q2, .int .i64 s.m.tx, .int .i64 s.m.root, .int .i64 s.m.next, .slice p3 s.m.fs.length q3, .slice p4 s.rs.length q4, .int .i64 s.tm.tx, .int .i64 s.tm.root, .int .i64 s.tm.next, .slice p5 s.tm.fs.length q5, .slice p6 s.tk.ps.length q6, .slice p7 s.tk.ls.length q7, .int .i64 s.tk.next, .slice p8 s.tk.us.length q8, .slice p9 s.tk.gs.length q9, .slice p10 s.tk.fs.length q10, .int .i64 s.tr, .bool s.wr, .bool s.fl, .map (some gm)] 80)) 0).1
    have hzf : w2.frozen? ⟨gh, 0, none⟩ = false := (cell_at (sep_get HS_w2.out 1 rfl : w2.heap[gh]? = some (Obj.cells #[.int .i32 1, .int .u32 0, .slice p1 s.ps.length q1, .slice p2 s.ls.length q2, .int .i64 s.m.tx, .int .i64 s.m.root, .int .i64 s.m.next, .slice p3 s.m.fs.length q3, .slice p4 s.rs.length q4, .int .i64 s.tm.tx, .int .i64 s.tm.root, .int .i64 s.tm.next, .slice p5 s.tm.fs.length q5, .slice p6 s.tk.ps.length q6, .slice p7 s.tk.ls.length q7, .int .i64 s.tk.next, .slice p8 s.tk.us.length q8, .slice p9 s.tk.gs.length q9, .slice p10 s.tk.fs.length q10, .int .i64 s.tr, .bool s.wr, .bool s.fl, .map (some gm)] 80)) 0).2
    refine leaves_cons (f := 20) (args := #[.pointer (some ⟨gh, 0, none⟩)]) (by simp) (by simp [go_sem]) ?_
    refine (unlock_deferred muLib ⟨gh, 0, none⟩ .returning w2 hcf hzf).mono ?_
    rintro e u' w'' ⟨rfl, rfl, rfl⟩
    rw [HR.out]
    exact ⟨_, results_tmp2 rfl _ _ _, rfl, HB_w2.out.setCell (p := ⟨gh, 0, none⟩) HGH.out (.int .i32 0)⟩
  · obtain ⟨ya, yc, hyu⟩ : ∃ a c, u = .slice a m.fs.length c := rds_form (sep_get HS_w1.out 4 rfl) hrk huk
    subst hyu
    rw [Nat.zero_add] at hak
    have hlk : (Instr.lookup 78 (.map (some gm)) (.int .i64 id) true).run Tryz.prog w1 = .ok (.tuple #[.agg #[.int .i64 m.tx, .int .i64 m.root, .int .i64 m.next, .slice ya m.fs.length yc], .bool true]) w1 := by rw [rmap_look (sep_get HS_w1.out 1 rfl) id HId.out, hf]; rfl
    obtain ⟨g9, hg9⟩ : ∃ g, g = w1.heap.size := ⟨_, rfl⟩
    obtain ⟨w2, hw2⟩ : ∃ wx, wx = w1.alloc (Obj.cells #[.int .i64 m.tx, .int .i64 m.root, .int .i64 m.next, .slice ya m.fs.length yc] 45) := ⟨_, rfl⟩
    have hs2 := sep_new HS_w1.out (Obj.cells #[.int .i64 m.tx, .int .i64 m.root, .int .i64 m.next, .slice ya m.fs.length yc] 45) HZ_w1.out
    rw [← hw2, ← hg9] at hs2
    have HS_w2 := hide hs2
    have HB_w2 : Hid (Below w.heap.size w w2) := hide (by rw [hw2]; exact HB_w1.out.alloc HB_w1.out.size _)
    clear hs2
    have HR0 := hide (rget_yes (key := key) hrk hak)
    have HGk := hide (fun u wx hT h => implGetKey_any u s.ps s.ls HDs.out.1 HDs.out.2.2.1 HDs.out.2.1 HDs.out.2.2.2 m.root key wx hT h)
    clear hf hrk hak huk
    go_upto_region 6 with fail
    rw [← hg9, ← hw2]
    clear hg9 hw2 hlk
    cases hgk : getK (readD s.ps s.ls) m.root key with
    | none =>
      rw [hgk] at HGk HR0
      have HR : Hid (rget s id key = (⟨#[]⟩, 2)) := HR0
      clear hgk HR0
      simp only [getO] at HGk
      obtain ⟨wd, hwd⟩ : ∃ wd, wd = w2.drew := ⟨_, rfl⟩
      have HS_wd := hide (sep_drew HS_w2.out)
      have HB_wd := hide HB_w2.out.drew
      rw [← hwd] at HS_wd HB_wd
      have hS_wd : (fun wx => wx.heap[gh]? = some (Obj.cells #[.int .i32 1, .int .u32 0, .slice p1 s.ps.length q1, .slice p2 s.ls.length q2, .int .i64 s.m.tx, .int .i64 s.m.root, .int .i64 s.m.next, .slice p3 s.m.fs.length q3, .slice p4 s.rs.length q4, .int .i64 s.tm.tx, .int .i64 s.tm.root, .int .i64 s.tm.next, .slice p5 s.tm.fs.length q5, .slice p6 s.tk.ps.length q6, .slice p7 s.tk.ls.length q7, .int .i64 s.tk.next, .slice p8 s.tk.us.length q8, .slice p9 s.tk.gs.length q9, .slice p10 s.tk.fs.length q10, .int .i64 s.tr, .bool s.wr, .bool s.fl, .map (some gm)] 80) ∧ wx.heap[g9]? = some (Obj.cells #[.int .i64 m.tx, .int .i64 m.root, .int .i64 m.next, .slice ya m.fs.length yc] 45)) wd := ⟨sep_get HS_wd.out 1 rfl, sep_get HS_wd.out 0 rfl⟩
      refine wp_region_held_drew (S := fun wx => wx.heap[gh]? = some (Obj.cells #[.int .i32 1, .int .u32 0, .slice p1 s.ps.length q1, .slice p2 s.ls.length q2, .int .i64 s.m.tx, .int .i64 s.m.root, .int .i64 s.m.next, .slice p3 s.m.fs.length q3, .slice p4 s.rs.length q4, .int .i64 s.tm.tx, .int .i64 s.tm.root, .int .i64 s.tm.next, .slice p5 s.tm.fs.length q5, .slice p6 s.tk.ps.length q6, .slice p7 s.tk.ls.length q7, .int .i64 s.tk.next, .slice p8 s.tk.us.length q8, .slice p9 s.tk.gs.length q9, .slice p10 s.tk.fs.length q10, .int .i64 s.tr, .bool s.wr, .bool s.fl, .map (some gm)] 80) ∧ wx.heap[g9]? = some (Obj.cells #[.int .i64 m.tx, .int .i64 m.root, .int .i64 m.next, .slice ya m.fs.length yc] 45)) (by kernel_rfl) (by rw [← hwd]; exact hS_wd) (fun _ => ?_)
      rw [← hwd]
      clear hwd
      refine takeW 0 30 ?_ rfl rfl (by kernel_rfl) (by kernel_rfl) (by kernel_rfl) (fun _ _ _ h => rget_put 30 (by decide) (by decide) h) (Or.inl ⟨by rfl, ?_⟩) hS_wd ?_
      rotate_left
      · (intro wx hSw; (try dsimp only at hSw); go_simp; try with_reducible rfl)
      simp only [List.setIfInBounds_toArray, List.set_cons_zero, List.set_cons_succ]
      refine takeW 1 31 ?_ rfl rfl (by kernel_rfl) (by kernel_rfl) (by kernel_rfl) (fun _ _ _ h => rget_put 31 (by decide) (by decide) h) (Or.inl ⟨by rfl, ?_⟩) hS_wd ?_
      rotate_left
      · (intro wx hSw; (try dsimp only at hSw); go_simp; try with_reducible rfl)
      simp only [List.setIfInBounds_toArray, List.set_cons_zero, List.set_cons_succ]
      refine takeW 2 32 ?_ rfl rfl (by kernel_rfl) (by kernel_rfl) (by kernel_rfl) (fun _ _ _ h => rget_put 32 (by decide) (by decide) h) (Or.inl ⟨by rfl, ?_⟩) hS_wd ?_
      rotate_left
      · (intro wx hSw; (try dsimp only at hSw); go_simp; try with_reducible rfl)
      simp only [List.setIfInBounds_toArray, List.set_cons_zero, List.set_cons_succ]
      refine takeW 3 33 ?_ rfl rfl (by kernel_rfl) (by kernel_rfl) (by kernel_rfl) (fun _ _ _ h => rget_put 33 (by decide) (by decide) h) (Or.inl ⟨by rfl, ?_⟩) hS_wd ?_
      rotate_left
      · (intro wx hSw; (try dsimp only at hSw); go_simp; try with_reducible rfl)
      simp only [List.setIfInBounds_toArray, List.set_cons_zero, List.set_cons_succ]
      refine takeW 4 34 (.agg #[.slice p1 s.ps.length q1, .slice p2 s.ls.length q2]) rfl rfl (by kernel_rfl) (by kernel_rfl) (by kernel_rfl) (fun _ _ _ h => rget_put 34 (by decide) (by decide) h) (yields_loadL (by rfl) 42 (.tmp 33) rfl gh 2 rfl #[.slice p1 s.ps.length q1, .slice p2 s.ls.length q2] _ (fun _ h => range_of h.1 2 2) Tryz.underlying42 rfl Tryz.sizeDiskI) hS_wd ?_
      simp only [List.setIfInBounds_toArray, List.set_cons_zero, List.set_cons_succ]
      refine takeW 5 35 ?_ rfl rfl (by kernel_rfl) (by kernel_rfl) (by kernel_rfl) (fun _ _ _ h => rget_put 35 (by decide) (by decide) h) (Or.inl ⟨by rfl, ?_⟩) hS_wd ?_
      rotate_left
      · (intro wx hSw; (try dsimp only at hSw); go_simp; try with_reducible rfl)
      simp only [List.setIfInBounds_toArray, List.set_cons_zero, List.set_cons_succ]
      refine takeW 6 36 ?_ rfl rfl (by kernel_rfl) (by kernel_rfl) (by kernel_rfl) (fun _ _ _ h => rget_put 36 (by decide) (by decide) h) (Or.inl ⟨by rfl, ?_⟩) hS_wd ?_
      rotate_left
      · (intro wx hSw; (try dsimp only at hSw); have hx1 : wx.cell? ⟨g9, 1, none⟩ = some (.int .i64 m.root) := (cell_at hSw.2 1).1; go_simp; try with_reducible rfl)
      simp only [List.setIfInBounds_toArray, List.set_cons_zero, List.set_cons_succ]
      refine takeW 7 37 ?_ rfl rfl (by kernel_rfl) (by kernel_rfl) (by kernel_rfl) (fun _ _ _ h => rget_put 37 (by decide) (by decide) h) (Or.inl ⟨by rfl, ?_⟩) hS_wd ?_
      rotate_left
      · (intro wx hSw; (try dsimp only at hSw); go_simp; try with_reducible rfl)
      simp only [List.setIfInBounds_toArray, List.set_cons_zero, List.set_cons_succ]
      refine wpAnyH_ready (rs := [8]) (by kernel_rfl) (by simp) ?_
      refine AllReadyH.cons rfl (fun K hK => ?_) AllReadyH.nil
      refine step_call3 wd ?_ 21 Tryz.f21 Tryz.func21 ?_ ?_ (.tmp 34) (.tmp 36) (.tmp 37) #[42, 3, 9] ?_ (.agg #[.slice p1 s.ps.length q1, .slice p2 s.ls.length q2]) (.int .i64 m.root) (.string key) ?_ ?_ ?_ _ (HGk.out _ wd (HTb.out _ HB_wd.out) (disk_of_own (sep_get HS_wd.out 3 rfl))) ?_
      · exact rfl
      · decide
      · exact Option.some_ne_none _
      · exact rfl
      · exact rfl
      · exact rfl
      · exact rfl
      rintro e w3 ⟨rfl, hb⟩
      refine ⟨_, rfl, ?_⟩
      have HS_w3 := hide (sep_below HS_wd.out hb)
      have HB_w3 : Hid (Below w.heap.size w w3) := hide (HB_wd.out.trans (hb.mono HB_wd.out.size))
      have hS_w3 : (fun wx => wx.heap[gh]? = some (Obj.cells #[.int .i32 1, .int .u32 0, .slice p1 s.ps.length q1, .slice p2 s.ls.length q2, .int .i64 s.m.tx, .int .i64 s.m.root, .int .i64 s.m.next, .slice p3 s.m.fs.length q3, .slice p4 s.rs.length q4, .int .i64 s.tm.tx, .int .i64 s.tm.root, .int .i64 s.tm.next, .slice p5 s.tm.fs.length q5, .slice p6 s.tk.ps.length q6, .slice p7 s.tk.ls.length q7, .int .i64 s.tk.next, .slice p8 s.tk.us.length q8, .slice p9 s.tk.gs.length q9, .slice p10 s.tk.fs.length q10, .int .i64 s.tr, .bool s.wr, .bool s.fl, .map (some gm)] 80) ∧ wx.heap[g9]? = some (Obj.cells #[.int .i64 m.tx, .int .i64 m.root, .int .i64 m.next, .slice ya m.fs.length yc] 45)) w3 := ⟨sep_get HS_w3.out 1 rfl, sep_get HS_w3.out 0 rfl⟩
      clear hb
      refine hK.out (Act.put _ (some 38) _) _ hS_w3 (fun _ => ?_)
      clear hK K
      simp only [Act.put, List.setIfInBounds_toArray, List.set_cons_zero, List.set_cons_succ]
      refine takeW 9 29 ?_ rfl rfl (by kernel_rfl) (by kernel_rfl) (by kernel_rfl) (fun _ _ _ h => rget_put 29 (by decide) (by decide) h) (Or.inl ⟨by rfl, ?_⟩) hS_w3 ?_
      rotate_left
      · (intro wx hSw; (try dsimp only at hSw); go_simp; try with_reducible rfl)
      simp only [List.setIfInBounds_toArray, List.set_cons_zero, List.set_cons_succ]
      refine takeW 10 39 ?_ rfl rfl (by kernel_rfl) (by kernel_rfl) (by kernel_rfl) (fun _ _ _ h => rget_put 39 (by decide) (by decide) h) (Or.inl ⟨by rfl, ?_⟩) hS_w3 ?_
      rotate_left
      · (intro wx hSw; (try dsimp only at hSw); go_simp; try with_reducible rfl)
      simp only [List.setIfInBounds_toArray, List.set_cons_zero, List.set_cons_succ]
      refine takeW 11 40 ?_ rfl rfl (by kernel_rfl) (by kernel_rfl) (by kernel_rfl) (fun _ _ _ h => rget_put 40 (by decide) (by decide) h) (Or.inl ⟨by rfl, ?_⟩) hS_w3 ?_
      rotate_left
      · (intro wx hSw; (try dsimp only at hSw); go_simp; try with_reducible rfl)
      simp only [List.setIfInBounds_toArray, List.set_cons_zero, List.set_cons_succ]
      refine takeW 12 11 ?_ rfl rfl (by kernel_rfl) (by kernel_rfl) (by kernel_rfl) (fun _ _ _ h => rget_put 11 (by decide) (by decide) h) (Or.inl ⟨by rfl, ?_⟩) hS_w3 ?_
      rotate_left
      · (intro wx hSw; (try dsimp only at hSw); go_simp; try with_reducible rfl)
      simp only [List.setIfInBounds_toArray, List.set_cons_zero, List.set_cons_succ]
      refine takeW 13 12 ?_ rfl rfl (by kernel_rfl) (by kernel_rfl) (by kernel_rfl) (fun _ _ _ h => rget_put 12 (by decide) (by decide) h) (Or.inl ⟨by rfl, ?_⟩) hS_w3 ?_
      rotate_left
      · (intro wx hSw; (try dsimp only at hSw); go_simp; try with_reducible rfl)
      simp only [List.setIfInBounds_toArray, List.set_cons_zero, List.set_cons_succ]
      refine wpAnyH_done (by kernel_rfl) ?_ _
      clear hS_w3 hS_wd
      go_wp2_with fail
      have hcf : w3.cell? ⟨gh, 0, none⟩ = some (.int .i32 1) := (cell_at (sep_get HS_w3.out 1 rfl : w3.heap[gh]? = some (Obj.cells #[.int .i32 1, .int .u32 0, .slice p1 s.ps.length q1, .slice p2 s.ls.length q2, .int .i64 s.m.tx, .int .i64 s.m.root, .int .i64 s.m.next, .slice p3 s.m.fs.length q3, .slice p4 s.rs.length q4, .int .i64 s.tm.tx, .int .i64 s.tm.root, .int .i64 s.tm.next, .slice p5 s.tm.fs.length q5, .slice p6 s.tk.ps.length q6, .slice p7 s.tk.ls.length q7, .int .i64 s.tk.next, .slice p8 s.tk.us.length q8, .slice p9 s.tk.gs.length q9, .slice p10 s.tk.fs.length q10, .int .i64 s.tr, .bool s.wr, .bool s.fl, .map (some gm)] 80)) 0).1
      have hzf : w3.frozen? ⟨gh, 0, none⟩ = false := (cell_at (sep_get HS_w3.out 1 rfl : w3.heap[gh]? = some (Obj.cells #[.int .i32 1, .int .u32 0, .slice p1 s.ps.length q1, .slice p2 s.ls.length q2, .int .i64 s.m.tx, .int .i64 s.m.root, .int .i64 s.m.next, .slice p3 s.m.fs.length q3, .slice p4 s.rs.length q4, .int .i64 s.tm.tx, .int .i64 s.tm.root, .int .i64 s.tm.next, .slice p5 s.tm.fs.length q5, .slice p6 s.tk.ps.length q6, .slice p7 s.tk.ls.length q7, .int .i64 s.tk.next, .slice p8 s.tk.us.length q8, .slice p9 s.tk.gs.length q9, .slice p10 s.tk.fs.length q10, .int .i64 s.tr, .bool s.wr, .bool s.fl, .map (some gm)] 80)) 0).2
      refine leaves_cons (f := 20) (args := #[.pointer (some ⟨gh, 0, none⟩)]) (by simp) (by simp [go_sem]) ?_
      refine (unlock_deferred muLib ⟨gh, 0, none⟩ .returning w3 hcf hzf).mono ?_
      rintro e u' w'' ⟨rfl, rfl, rfl⟩
      rw [HR.out]
      exact ⟨_, results_tmp2 rfl _ _ _, rfl, HB_w3.out.setCell (p := ⟨gh, 0, none⟩) HGH.out (.int .i32 0)⟩
    | some val =>
      rw [hgk] at HGk HR0
      have HR : Hid (rget s id key = (val, 0)) := HR0
      clear hgk HR0
      simp only [getO] at HGk
      obtain ⟨wd, hwd⟩ : ∃ wd, wd = w2.drew := ⟨_, rfl⟩
      have HS_wd := hide (sep_drew HS_w2.out)
      have HB_wd := hide HB_w2.out.drew
      rw [← hwd] at HS_wd HB_wd
      have hS_wd : (fun wx => wx.heap[gh]? = some (Obj.cells #[.int .i32 1, .int .u32 0, .slice p1 s.ps.length q1, .slice p2 s.ls.length q2, .int .i64 s.m.tx, .int .i64 s.m.root, .int .i64 s.m.next, .slice p3 s.m.fs.length q3, .slice p4 s.rs.length q4, .int .i64 s.tm.tx, .int .i64 s.tm.root, .int .i64 s.tm.next, .slice p5 s.tm.fs.length q5, .slice p6 s.tk.ps.length q6, .slice p7 s.tk.ls.length q7, .int .i64 s.tk.next, .slice p8 s.tk.us.length q8, .slice p9 s.tk.gs.length q9, .slice p10 s.tk.fs.length q10, .int .i64 s.tr, .bool s.wr, .bool s.fl, .map (some gm)] 80) ∧ wx.heap[g9]? = some (Obj.cells #[.int .i64 m.tx, .int .i64 m.root, .int .i64 m.next, .slice ya m.fs.length yc] 45)) wd := ⟨sep_get HS_wd.out 1 rfl, sep_get HS_wd.out 0 rfl⟩
      refine wp_region_held_drew (S := fun wx => wx.heap[gh]? = some (Obj.cells #[.int .i32 1, .int .u32 0, .slice p1 s.ps.length q1, .slice p2 s.ls.length q2, .int .i64 s.m.tx, .int .i64 s.m.root, .int .i64 s.m.next, .slice p3 s.m.fs.length q3, .slice p4 s.rs.length q4, .int .i64 s.tm.tx, .int .i64 s.tm.root, .int .i64 s.tm.next, .slice p5 s.tm.fs.length q5, .slice p6 s.tk.ps.length q6, .slice p7 s.tk.ls.length q7, .int .i64 s.tk.next, .slice p8 s.tk.us.length q8, .slice p9 s.tk.gs.length q9, .slice p10 s.tk.fs.length q10, .int .i64 s.tr, .bool s.wr, .bool s.fl, .map (some gm)] 80) ∧ wx.heap[g9]? = some (Obj.cells #[.int .i64 m.tx, .int .i64 m.root, .int .i64 m.next, .slice ya m.fs.length yc] 45)) (by kernel_rfl) (by rw [← hwd]; exact hS_wd) (fun _ => ?_)
      rw [← hwd]
      clear hwd
      refine takeW 0 30 ?_ rfl rfl (by kernel_rfl) (by kernel_rfl) (by kernel_rfl) (fun _ _ _ h => rget_put 30 (by decide) (by decide) h) (Or.inl ⟨by rfl, ?_⟩) hS_wd ?_
      rotate_left
      · (intro wx hSw; (try dsimp only at hSw); go_simp; try with_reducible rfl)
      simp only [List.setIfInBounds_toArray, List.set_cons_zero, List.set_cons_succ]
      refine takeW 1 31 ?_ rfl rfl (by kernel_rfl) (by kernel_rfl) (by kernel_rfl) (fun _ _ _ h => rget_put 31 (by decide) (by decide) h) (Or.inl ⟨by rfl, ?_⟩) hS_wd ?_
      rotate_left
      · (intro wx hSw; (try dsimp only at hSw); go_simp; try with_reducible rfl)
      simp only [List.setIfInBounds_toArray, List.set_cons_zero, List.set_cons_succ]
      refine takeW 2 32 ?_ rfl rfl (by kernel_rfl) (by kernel_rfl) (by kernel_rfl) (fun _ _ _ h => rget_put 32 (by decide) (by decide) h) (Or.inl ⟨by rfl, ?_⟩) hS_wd ?_
      rotate_left
      · (intro wx hSw; (try dsimp only at hSw); go_simp; try with_reducible rfl)
      simp only [List.setIfInBounds_toArray, List.set_cons_zero, List.set_cons_succ]
      refine takeW 3 33 ?_ rfl rfl (by kernel_rfl) (by kernel_rfl) (by kernel_rfl) (fun _ _ _ h => rget_put 33 (by decide) (by decide) h) (Or.inl ⟨by rfl, ?_⟩) hS_wd ?_
      rotate_left
      · (intro wx hSw; (try dsimp only at hSw); go_simp; try with_reducible rfl)
      simp only [List.setIfInBounds_toArray, List.set_cons_zero, List.set_cons_succ]
      refine takeW 4 34 (.agg #[.slice p1 s.ps.length q1, .slice p2 s.ls.length q2]) rfl rfl (by kernel_rfl) (by kernel_rfl) (by kernel_rfl) (fun _ _ _ h => rget_put 34 (by decide) (by decide) h) (yields_loadL (by rfl) 42 (.tmp 33) rfl gh 2 rfl #[.slice p1 s.ps.length q1, .slice p2 s.ls.length q2] _ (fun _ h => range_of h.1 2 2) Tryz.underlying42 rfl Tryz.sizeDiskI) hS_wd ?_
      simp only [List.setIfInBounds_toArray, List.set_cons_zero, List.set_cons_succ]
      refine takeW 5 35 ?_ rfl rfl (by kernel_rfl) (by kernel_rfl) (by kernel_rfl) (fun _ _ _ h => rget_put 35 (by decide) (by decide) h) (Or.inl ⟨by rfl, ?_⟩) hS_wd ?_
      rotate_left
      · (intro wx hSw; (try dsimp only at hSw); go_simp; try with_reducible rfl)
      simp only [List.setIfInBounds_toArray, List.set_cons_zero, List.set_cons_succ]
      refine takeW 6 36 ?_ rfl rfl (by kernel_rfl) (by kernel_rfl) (by kernel_rfl) (fun _ _ _ h => rget_put 36 (by decide) (by decide) h) (Or.inl ⟨by rfl, ?_⟩) hS_wd ?_
      rotate_left
      · (intro wx hSw; (try dsimp only at hSw); have hx1 : wx.cell? ⟨g9, 1, none⟩ = some (.int .i64 m.root) := (cell_at hSw.2 1).1; go_simp; try with_reducible rfl)
      simp only [List.setIfInBounds_toArray, List.set_cons_zero, List.set_cons_succ]
      refine takeW 7 37 ?_ rfl rfl (by kernel_rfl) (by kernel_rfl) (by kernel_rfl) (fun _ _ _ h => rget_put 37 (by decide) (by decide) h) (Or.inl ⟨by rfl, ?_⟩) hS_wd ?_
      rotate_left
      · (intro wx hSw; (try dsimp only at hSw); go_simp; try with_reducible rfl)
      simp only [List.setIfInBounds_toArray, List.set_cons_zero, List.set_cons_succ]
      refine wpAnyH_ready (rs := [8]) (by kernel_rfl) (by simp) ?_
      refine AllReadyH.cons rfl (fun K hK => ?_) AllReadyH.nil
      refine step_call3 wd ?_ 21 Tryz.f21 Tryz.func21 ?_ ?_ (.tmp 34) (.tmp 36) (.tmp 37) #[42, 3, 9] ?_ (.agg #[.slice p1 s.ps.length q1, .slice p2 s.ls.length q2]) (.int .i64 m.root) (.string key) ?_ ?_ ?_ _ (HGk.out _ wd (HTb.out _ HB_wd.out) (disk_of_own (sep_get HS_wd.out 3 rfl))) ?_
      · exact rfl
      · decide
      · exact Option.some_ne_none _
      · exact rfl
      · exact rfl
      · exact rfl
      · exact rfl
      rintro e w3 ⟨rfl, hb⟩
      refine ⟨_, rfl, ?_⟩
      have HS_w3 := hide (sep_below HS_wd.out hb)
      have HB_w3 : Hid (Below w.heap.size w w3) := hide (HB_wd.out.trans (hb.mono HB_wd.out.size))
      have hS_w3 : (fun wx => wx.heap[gh]? = some (Obj.cells #[.int .i32 1, .int .u32 0, .slice p1 s.ps.length q1, .slice p2 s.ls.length q2, .int .i64 s.m.tx, .int .i64 s.m.root, .int .i64 s.m.next, .slice p3 s.m.fs.length q3, .slice p4 s.rs.length q4, .int .i64 s.tm.tx, .int .i64 s.tm.root, .int .i64 s.tm.next, .slice p5 s.tm.fs.length q5, .slice p6 s.tk.ps.length q6, .slice p7 s.tk.ls.length q7, .int .i64 s.tk.next, .slice p8 s.tk.us.length q8, .slice p9 s.tk.gs.length q9, .slice p10 s.tk.fs.length q10, .int .i64 s.tr, .bool s.wr, .bool s.fl, .map (some gm)] 80) ∧ wx.heap[g9]? = some (Obj.cells #[.int .i64 m.tx, .int .i64 m.root, .int .i64 m.next, .slice ya m.fs.length yc] 45)) w3 := ⟨sep_get HS_w3.out 1 rfl, sep_get HS_w3.out 0 rfl⟩
      clear hb
      refine hK.out (Act.put _ (some 38) _) _ hS_w3 (fun _ => ?_)
      clear hK K
      simp only [Act.put, List.setIfInBounds_toArray, List.set_cons_zero, List.set_cons_succ]
      refine takeW 9 29 ?_ rfl rfl (by kernel_rfl) (by kernel_rfl) (by kernel_rfl) (fun _ _ _ h => rget_put 29 (by decide) (by decide) h) (Or.inl ⟨by rfl, ?_⟩) hS_w3 ?_
      rotate_left
      · (intro wx hSw; (try dsimp only at hSw); go_simp; try with_reducible rfl)
      simp only [List.setIfInBounds_toArray, List.set_cons_zero, List.set_cons_succ]
      refine takeW 10 39 ?_ rfl rfl (by kernel_rfl) (by kernel_rfl) (by kernel_rfl) (fun _ _ _ h => rget_put 39 (by decide) (by decide) h) (Or.inl ⟨by rfl, ?_⟩) hS_w3 ?_
      rotate_left
      · (intro wx hSw; (try dsimp only at hSw); go_simp; try with_reducible rfl)
      simp only [List.setIfInBounds_toArray, List.set_cons_zero, List.set_cons_succ]
      refine takeW 11 40 ?_ rfl rfl (by kernel_rfl) (by kernel_rfl) (by kernel_rfl) (fun _ _ _ h => rget_put 40 (by decide) (by decide) h) (Or.inl ⟨by rfl, ?_⟩) hS_w3 ?_
      rotate_left
      · (intro wx hSw; (try dsimp only at hSw); go_simp; try with_reducible rfl)
      simp only [List.setIfInBounds_toArray, List.set_cons_zero, List.set_cons_succ]
      refine takeW 12 11 ?_ rfl rfl (by kernel_rfl) (by kernel_rfl) (by kernel_rfl) (fun _ _ _ h => rget_put 11 (by decide) (by decide) h) (Or.inl ⟨by rfl, ?_⟩) hS_w3 ?_
      rotate_left
      · (intro wx hSw; (try dsimp only at hSw); go_simp; try with_reducible rfl)
      simp only [List.setIfInBounds_toArray, List.set_cons_zero, List.set_cons_succ]
      refine takeW 13 12 ?_ rfl rfl (by kernel_rfl) (by kernel_rfl) (by kernel_rfl) (fun _ _ _ h => rget_put 12 (by decide) (by decide) h) (Or.inl ⟨by rfl, ?_⟩) hS_w3 ?_
      rotate_left
      · (intro wx hSw; (try dsimp only at hSw); go_simp; try with_reducible rfl)
      simp only [List.setIfInBounds_toArray, List.set_cons_zero, List.set_cons_succ]
      refine wpAnyH_done (by kernel_rfl) ?_ _
      clear hS_w3 hS_wd
      go_wp2_with fail
      have hcf : w3.cell? ⟨gh, 0, none⟩ = some (.int .i32 1) := (cell_at (sep_get HS_w3.out 1 rfl : w3.heap[gh]? = some (Obj.cells #[.int .i32 1, .int .u32 0, .slice p1 s.ps.length q1, .slice p2 s.ls.length q2, .int .i64 s.m.tx, .int .i64 s.m.root, .int .i64 s.m.next, .slice p3 s.m.fs.length q3, .slice p4 s.rs.length q4, .int .i64 s.tm.tx, .int .i64 s.tm.root, .int .i64 s.tm.next, .slice p5 s.tm.fs.length q5, .slice p6 s.tk.ps.length q6, .slice p7 s.tk.ls.length q7, .int .i64 s.tk.next, .slice p8 s.tk.us.length q8, .slice p9 s.tk.gs.length q9, .slice p10 s.tk.fs.length q10, .int .i64 s.tr, .bool s.wr, .bool s.fl, .map (some gm)] 80)) 0).1
      have hzf : w3.frozen? ⟨gh, 0, none⟩ = false := (cell_at (sep_get HS_w3.out 1 rfl : w3.heap[gh]? = some (Obj.cells #[.int .i32 1, .int .u32 0, .slice p1 s.ps.length q1, .slice p2 s.ls.length q2, .int .i64 s.m.tx, .int .i64 s.m.root, .int .i64 s.m.next, .slice p3 s.m.fs.length q3, .slice p4 s.rs.length q4, .int .i64 s.tm.tx, .int .i64 s.tm.root, .int .i64 s.tm.next, .slice p5 s.tm.fs.length q5, .slice p6 s.tk.ps.length q6, .slice p7 s.tk.ls.length q7, .int .i64 s.tk.next, .slice p8 s.tk.us.length q8, .slice p9 s.tk.gs.length q9, .slice p10 s.tk.fs.length q10, .int .i64 s.tr, .bool s.wr, .bool s.fl, .map (some gm)] 80)) 0).2
      refine leaves_cons (f := 20) (args := #[.pointer (some ⟨gh, 0, none⟩)]) (by simp) (by simp [go_sem]) ?_
      refine (unlock_deferred muLib ⟨gh, 0, none⟩ .returning w3 hcf hzf).mono ?_
      rintro e u' w'' ⟨rfl, rfl, rfl⟩
      rw [HR.out]
      exact ⟨_, results_tmp2 rfl _ _ _, rfl, HB_w3.out.setCell (p := ⟨gh, 0, none⟩) HGH.out (.int .i32 0)⟩
end Go.Proofs.YtbokjfjdjgopeaaGreatDoor
