/-
  PutNode of the program and of the specification by contracts.
-/
import Derived.Test.YtacmpggigdlmmaaDoorBtA
import Derived.Test.YtacmpggigdlmmaaDoorBtB
import Derived.Test.YtacmpggigdlmmaaDoorImplWriteN
import Derived.Test.YtacmpggigdlmmaaDoorImplNodeText
import Derived.Test.YtacmpggigdlmmaaDoorNodeSpec2
namespace Go.Proofs.YtacmpggigdlmmaaDoor
open Go.RowKit

theorem diskD {w : World} {B B' : Nat} {v : Value} {ps ps' : List ByteArray} {ls : List (Int × ByteArray)} (hp : ps' = ps) (h : DiskOwn w B v ps ls) (hB : B' ≤ B) : DiskOwn w B' v ps' ls := by
  subst hp
  obtain ⟨vp, vl, e, h1, h2⟩ := h
  exact ⟨vp, vl, e, own_down h1 hB, own_down h2 hB⟩

set_option maxHeartbeats 8000000 in
set_option maxRecDepth 100000 in
theorem implPutNode_any (v : Value) (k : Wk) (hk : k.small) (nv0 : Value) (lf : Bool) (ks vs : List ByteArray) (cs : List Int) (n1 : ks.length ≤ 1048576) (n2 : vs.length ≤ 1048576) (n3 : cs.length ≤ 1048576) (n4 : ∀ s ∈ ks, s.size ≤ 1048576) (n5 : ∀ s ∈ vs, s.size ≤ 1048576) (w : World) (hT : SumTab w) (hd : WorkAt w v k) (hn : NodeAt w nv0 lf ks vs cs) :
    Calls Tryd.prog 70 #[v, nv0] w fun e w' => ∃ v', e = .returned (.tuple #[v', .int .i64 (putP k lf ks vs cs)]) ∧ WorkOwn w' w.heap.size v' (putK k lf ks vs cs) ∧ Below w.heap.size w w' := by
  have HNt := hide (fun wx ht h => implNodeText_any nv0 lf ks vs cs n1 n2 n3 n4 n5 wx ht h)
  have HCp := hide (fun u wx h => implWCopy_any u k hk wx h)
  have HGp := hide (fun u wx h => implGivePage_any u k hk wx h)
  have HWp := hide (fun u page wx h => implWritePage_any u k.ps k.ls page (nodeO lf ks vs cs) (Nat.le_trans (nodeO_small lf ks vs cs) (by omega)) hk.1 hk.2.2.1 hk.2.1 hk.2.2.2.1 wx h)
  have HGd := hide (give_disk k)
  have HD := hide hd
  have HN := hide hn
  have HT := hide hT
  clear hT
  obtain ⟨vp, vl, vu, vg, vf, rfl, -⟩ := hd
  obtain ⟨nk, nv, nc, rfl, -⟩ := hn
  clear hk n1 n2 n3 n4 n5
  obtain ⟨t, ht⟩ : ∃ t, t = nodeO lf ks vs cs := ⟨_, rfl⟩
  rw [← ht] at HNt HWp
  have HTx := hide ht
  clear ht
  obtain ⟨w0, hw0⟩ : ∃ w0, w0 = ((w.alloc (Obj.cells #[vp, vl, .int .i64 k.next, vu, vg, vf] 36)).alloc (Obj.cells #[.bool lf, nk, nv, nc] 55)).alloc (Obj.cells #[.slice none 0 0, .slice none 0 0, .int .i64 0, .slice none 0 0, .slice none 0 0, .slice none 0 0] 36) := ⟨_, rfl⟩
  have hb0 : Below w.heap.size w w0 := by rw [hw0]; exact (((Below.refl w.heap.size w).alloc (Nat.le_refl _) _).alloc (by simp) _).alloc (by simp; omega) _
  obtain ⟨q0, q1, q2, hs0⟩ := three_allocs w (Obj.cells #[vp, vl, .int .i64 k.next, vu, vg, vf] 36) (Obj.cells #[.bool lf, nk, nv, nc] 55) (Obj.cells #[.slice none 0 0, .slice none 0 0, .int .i64 0, .slice none 0 0, .slice none 0 0, .slice none 0 0] 36)
  rw [← hw0] at q0 q1 q2 hs0
  obtain ⟨a0, ha0⟩ : ∃ a, a = w.heap.size := ⟨_, rfl⟩
  rw [← ha0] at q0 q1 q2 hs0
  have HA : Hid (a0 = w.heap.size ∧ w0.heap.size = a0 + 3) := hide ⟨ha0, hs0⟩
  have HB_w0 := hide hb0
  have Hbox_w0 := hide (held_blk q0)
  have Hnbx_w0 := hide (held_blk q1)
  have Hres_w0 := hide (held_blk q2)
  clear hb0 q0 q1 q2 hs0
  cases hok : nodeOkB lf ks vs cs with
  | false =>
    have HNo := hide (put_no (k := k) (lf := lf) (ks := ks) (vs := vs) (cs := cs) (by unfold putB; rw [hok]; rfl))
    rw [hok] at HNt
    go_enter Tryd.func70, Tryd.ntmps70
    go_wp2_with fail
    rw [← hw0, ← ha0]
    clear hw0 ha0
    refine (HNt.out _ (sumTab_below HT.out HB_w0.out) (node_below HN.out HB_w0.out)).mono ?_
    rintro e w1 ⟨rfl, hb⟩
    have Hbox_w1 := hide (held_below Hbox_w0.out hb)
    have Hnbx_w1 := hide (held_below Hnbx_w0.out hb)
    have Hres_w1 := hide (held_below Hres_w0.out hb)
    have HB_w1 : Hid (Below w.heap.size w w1) := hide (HB_w0.out.trans (hb.mono HB_w0.out.size))
    clear hb
    obtain ⟨ffb0, ffb1, ffb2, ffb3, ffb4, ffb5⟩ := blk6h Hbox_w1.out
    go_wp2_with fail
    clear ffb0 ffb1 ffb2 ffb3 ffb4 ffb5
    refine (HCp.out _ _ (work_below HD.out HB_w1.out)).mono ?_
    rintro e w1q ⟨u, rfl, hnw, hb⟩
    have Hbox_w1q := hide (held_below Hbox_w1.out hb)
    have Hnbx_w1q := hide (held_below Hnbx_w1.out hb)
    have Hres_w1q := hide (held_below Hres_w1.out hb)
    have HB_w1q : Hid (Below w.heap.size w w1q) := hide (HB_w1.out.trans (hb.mono HB_w1.out.size))
    have HZq : Hid (w1.heap.size ≤ w1q.heap.size) := hide hb.size
    clear hb
    obtain ⟨xa9, ca9, xb9, cb9, xc9, cc9, xd9, cd9, xe9, ce9, rfl⟩ := nw_form hnw
    have HRt := hide (ret_work (w := w) Hres_w1q.out.is (nw_own hnw) (by have := Hres_w1.out.le; have := HA.out; omega) (by have := HA.out; omega) HB_w1q.out)
    clear hnw
    obtain ⟨ffr0, ffr1, ffr2, ffr3, ffr4, ffr5⟩ := blk6h Hres_w1q.out
    have zz0 := (cell_at Hres_w1q.out.is 0).2
    have zz1 := (cell_at Hres_w1q.out.is 1).2
    have zz2 := (cell_at Hres_w1q.out.is 2).2
    have zz3 := (cell_at Hres_w1q.out.is 3).2
    have zz4 := (cell_at Hres_w1q.out.is 4).2
    have zz5 := (cell_at Hres_w1q.out.is 5).2
    go_wp2_with fail
    obtain ⟨f0, f1, f2, f3, f4, f5⟩ := blk6c HRt.out.1
    refine bodyPost_ret (v := .tuple #[.agg #[.slice xa9 k.ps.length ca9, .slice xb9 k.ls.length cb9, .int .i64 k.next, .slice xc9 k.us.length cc9, .slice xd9 k.gs.length cd9, .slice xe9 k.fs.length ce9], .int .i64 0]) (by simp [results, Tryd.results70, go_sem, f0, f1, f2, f3, f4, f5]) rfl ⟨_, by rw [HNo.out.2], by rw [HNo.out.1]; exact HRt.out.2.1, HRt.out.2.2⟩
  | true =>
    obtain ⟨pg, hpg⟩ : ∃ pg, pg = giveP k := ⟨_, rfl⟩
    obtain ⟨kg, hkg⟩ : ∃ kg, kg = giveK k := ⟨_, rfl⟩
    rw [← hpg, ← hkg] at HGp
    rw [← hkg] at HGd
    have HP := hide (⟨hpg, hkg⟩ : _ ∧ _)
    clear hpg hkg
    by_cases hp : pg = 0
    · have HNo := hide (put_no (k := k) (lf := lf) (ks := ks) (vs := vs) (cs := cs) (by unfold putB; rw [← HP.out.1, hp, hok]; simp))
      subst hp
      rw [hok] at HNt
      go_enter Tryd.func70, Tryd.ntmps70
      go_wp2_with fail
      rw [← hw0, ← ha0]
      clear hw0 ha0
      refine (HNt.out _ (sumTab_below HT.out HB_w0.out) (node_below HN.out HB_w0.out)).mono ?_
      rintro e w1 ⟨rfl, hb⟩
      have Hbox_w1 := hide (held_below Hbox_w0.out hb)
      have Hnbx_w1 := hide (held_below Hnbx_w0.out hb)
      have Hres_w1 := hide (held_below Hres_w0.out hb)
      have HB_w1 : Hid (Below w.heap.size w w1) := hide (HB_w0.out.trans (hb.mono HB_w0.out.size))
      clear hb
      obtain ⟨ffb0, ffb1, ffb2, ffb3, ffb4, ffb5⟩ := blk6h Hbox_w1.out
      go_wp2_with fail
      clear ffb0 ffb1 ffb2 ffb3 ffb4 ffb5
      refine (HGp.out _ _ (work_below HD.out HB_w1.out)).mono ?_
      rintro e w2 ⟨u, rfl, hown, hb⟩
      have Hbox_w2 := hide (held_below Hbox_w1.out hb)
      have Hnbx_w2 := hide (held_below Hnbx_w1.out hb)
      have Hres_w2 := hide (held_below Hres_w1.out hb)
      have HB_w2 : Hid (Below w.heap.size w w2) := hide (HB_w1.out.trans (hb.mono HB_w1.out.size))
      have HZ2 : Hid (w1.heap.size ≤ w2.heap.size) := hide hb.size
      clear hb
      have Hd3_w2 := hide (held_work hown)
      obtain ⟨xa3, ca3, xb3, cb3, xc3, cc3, xd3, cd3, xe3, ce3, rfl⟩ := work_form hown
      clear hown
      obtain ⟨g, hg⟩ : ∃ g, g = w2.heap.size := ⟨_, rfl⟩
      obtain ⟨w3, hnw⟩ : ∃ wx, wx = w2.alloc (Obj.cells #[.slice xa3 kg.ps.length ca3, .slice xb3 kg.ls.length cb3, .int .i64 kg.next, .slice xc3 kg.us.length cc3, .slice xd3 kg.gs.length cd3, .slice xe3 kg.fs.length ce3] 36) := ⟨_, rfl⟩
      have hnv := new_blk w2 #[.slice xa3 kg.ps.length ca3, .slice xb3 kg.ls.length cb3, .int .i64 kg.next, .slice xc3 kg.us.length cc3, .slice xd3 kg.gs.length cd3, .slice xe3 kg.fs.length ce3] 36
      rw [← hnw, ← hg] at hnv
      have hbv : Below w2.heap.size w2 w3 := by rw [← hg]; exact hnv.1
      have Hg_w3 := hide hnv.2
      have Hgt : Hid (w2.heap.size = g) := hide hg.symm
      have Hbox_w3 := hide (held_below Hbox_w2.out hbv)
      have Hnbx_w3 := hide (held_below Hnbx_w2.out hbv)
      have Hres_w3 := hide (held_below Hres_w2.out hbv)
      have Hd3_w3 := hide (held_below Hd3_w2.out hbv)
      have HB_w3 : Hid (Below w.heap.size w w3) := hide (HB_w2.out.trans (hbv.mono HB_w2.out.size))
      clear hnv hbv
      obtain ⟨ffb0, ffb1, ffb2, ffb3, ffb4, ffb5⟩ := blk6h Hbox_w3.out
      rw [hnw] at ffb0 ffb1 ffb2 ffb3 ffb4 ffb5
      go_wp2_with fail
      rw [← hnw]
      clear hnw hg ffb0 ffb1 ffb2 ffb3 ffb4 ffb5
      refine (HCp.out _ _ (work_below HD.out HB_w3.out)).mono ?_
      rintro e w3q ⟨u, rfl, hnw, hb⟩
      have Hbox_w3q := hide (held_below Hbox_w3.out hb)
      have Hnbx_w3q := hide (held_below Hnbx_w3.out hb)
      have Hres_w3q := hide (held_below Hres_w3.out hb)
      have Hd3_w3q := hide (held_below Hd3_w3.out hb)
      have Hg_w3q := hide (held_below Hg_w3.out hb)
      have HB_w3q : Hid (Below w.heap.size w w3q) := hide (HB_w3.out.trans (hb.mono HB_w3.out.size))
      have HZq : Hid (w3.heap.size ≤ w3q.heap.size) := hide hb.size
      clear hb
      obtain ⟨xa9, ca9, xb9, cb9, xc9, cc9, xd9, cd9, xe9, ce9, rfl⟩ := nw_form hnw
      have HRt := hide (ret_work (w := w) Hres_w3q.out.is (nw_own hnw) (by have := Hres_w3.out.le; have := HA.out; omega) (by have := HA.out; omega) HB_w3q.out)
      clear hnw
      obtain ⟨ffr0, ffr1, ffr2, ffr3, ffr4, ffr5⟩ := blk6h Hres_w3q.out
      have zz0 := (cell_at Hres_w3q.out.is 0).2
      have zz1 := (cell_at Hres_w3q.out.is 1).2
      have zz2 := (cell_at Hres_w3q.out.is 2).2
      have zz3 := (cell_at Hres_w3q.out.is 3).2
      have zz4 := (cell_at Hres_w3q.out.is 4).2
      have zz5 := (cell_at Hres_w3q.out.is 5).2
      go_wp2_with fail
      obtain ⟨f0, f1, f2, f3, f4, f5⟩ := blk6c HRt.out.1
      refine bodyPost_ret (v := .tuple #[.agg #[.slice xa9 k.ps.length ca9, .slice xb9 k.ls.length cb9, .int .i64 k.next, .slice xc9 k.us.length cc9, .slice xd9 k.gs.length cd9, .slice xe9 k.fs.length ce9], .int .i64 0]) (by simp [results, Tryd.results70, go_sem, f0, f1, f2, f3, f4, f5]) rfl ⟨_, by rw [HNo.out.2], by rw [HNo.out.1]; exact HRt.out.2.1, HRt.out.2.2⟩
    · cases hwo : writeOk k.ps k.ls pg t with
      | false =>
        have HNo := hide (put_no (k := k) (lf := lf) (ks := ks) (vs := vs) (cs := cs) (by unfold putB; rw [← HP.out.1, ← HTx.out, hwo]; simp))
        have HWp2 := hide (fun u wx h => HWp.out u pg wx h)
        rw [hwo] at HWp2
        rw [hok] at HNt
        go_enter Tryd.func70, Tryd.ntmps70
        go_wp2_with fail
        rw [← hw0, ← ha0]
        clear hw0 ha0
        refine (HNt.out _ (sumTab_below HT.out HB_w0.out) (node_below HN.out HB_w0.out)).mono ?_
        rintro e w1 ⟨rfl, hb⟩
        have Hbox_w1 := hide (held_below Hbox_w0.out hb)
        have Hnbx_w1 := hide (held_below Hnbx_w0.out hb)
        have Hres_w1 := hide (held_below Hres_w0.out hb)
        have HB_w1 : Hid (Below w.heap.size w w1) := hide (HB_w0.out.trans (hb.mono HB_w0.out.size))
        clear hb
        obtain ⟨ffb0, ffb1, ffb2, ffb3, ffb4, ffb5⟩ := blk6h Hbox_w1.out
        go_wp2_with fail
        clear ffb0 ffb1 ffb2 ffb3 ffb4 ffb5
        refine (HGp.out _ _ (work_below HD.out HB_w1.out)).mono ?_
        rintro e w2 ⟨u, rfl, hown, hb⟩
        have Hbox_w2 := hide (held_below Hbox_w1.out hb)
        have Hnbx_w2 := hide (held_below Hnbx_w1.out hb)
        have Hres_w2 := hide (held_below Hres_w1.out hb)
        have HB_w2 : Hid (Below w.heap.size w w2) := hide (HB_w1.out.trans (hb.mono HB_w1.out.size))
        have HZ2 : Hid (w1.heap.size ≤ w2.heap.size) := hide hb.size
        clear hb
        have Hd3_w2 := hide (held_work hown)
        obtain ⟨xa3, ca3, xb3, cb3, xc3, cc3, xd3, cd3, xe3, ce3, rfl⟩ := work_form hown
        clear hown
        obtain ⟨g, hg⟩ : ∃ g, g = w2.heap.size := ⟨_, rfl⟩
        obtain ⟨w3, hnw⟩ : ∃ wx, wx = w2.alloc (Obj.cells #[.slice xa3 kg.ps.length ca3, .slice xb3 kg.ls.length cb3, .int .i64 kg.next, .slice xc3 kg.us.length cc3, .slice xd3 kg.gs.length cd3, .slice xe3 kg.fs.length ce3] 36) := ⟨_, rfl⟩
        have hnv := new_blk w2 #[.slice xa3 kg.ps.length ca3, .slice xb3 kg.ls.length cb3, .int .i64 kg.next, .slice xc3 kg.us.length cc3, .slice xd3 kg.gs.length cd3, .slice xe3 kg.fs.length ce3] 36
        rw [← hnw, ← hg] at hnv
        have hbv : Below w2.heap.size w2 w3 := by rw [← hg]; exact hnv.1
        have Hg_w3 := hide hnv.2
        have Hgt : Hid (w2.heap.size = g) := hide hg.symm
        have Hbox_w3 := hide (held_below Hbox_w2.out hbv)
        have Hnbx_w3 := hide (held_below Hnbx_w2.out hbv)
        have Hres_w3 := hide (held_below Hres_w2.out hbv)
        have Hd3_w3 := hide (held_below Hd3_w2.out hbv)
        have HB_w3 : Hid (Below w.heap.size w w3) := hide (HB_w2.out.trans (hbv.mono HB_w2.out.size))
        clear hnv hbv
        go_wp2_with fail
        rw [← hnw, ← hg]
        clear hnw hg
        refine (HWp2.out _ _ ?hda).mono ?_
        case hda => have h := (work_of_own Hd3_w3.out.is.1); obtain ⟨vp', vl', vu', vg', vf', e, hd, -⟩ := h; obtain ⟨rfl, rfl, -⟩ := agg6 e; rw [HGd.out.1, HGd.out.2] at hd ⊢; exact hd
        rintro e w4 ⟨ud, rfl, hownd, hb⟩
        have HZ4 : Hid (w3.heap.size ≤ w4.heap.size) := hide hb.size
        have Hbox_w4 := hide (held_below Hbox_w3.out hb)
        have Hnbx_w4 := hide (held_below Hnbx_w3.out hb)
        have Hres_w4 := hide (held_below Hres_w3.out hb)
        have Hd3_w4 := hide (held_below Hd3_w3.out hb)
        have Hg_w4 := hide (held_below Hg_w3.out hb)
        have HB_w4 : Hid (Below w.heap.size w w4) := hide (HB_w3.out.trans (hb.mono HB_w3.out.size))
        clear hb
        obtain ⟨xd, zd, yd, kd, rfl⟩ := disk_form hownd
        have HDd := hide hownd
        clear hownd
        obtain ⟨ffv0, ffv1, ffv2, ffv3, ffv4, ffv5⟩ := blk6h Hg_w4.out
        have zv0 := (cell_at Hg_w4.out.is 0).2
        have zv1 := (cell_at Hg_w4.out.is 1).2
        obtain ⟨ffb0, ffb1, ffb2, ffb3, ffb4, ffb5⟩ := blk6h Hbox_w4.out
        obtain ⟨w5, hw5⟩ : ∃ w5, w5 = (w4.setCell ⟨g, 0, none⟩ (.slice xd k.ps.length zd)).setCell ⟨g, 1, none⟩ (.slice yd (writeL k.ps k.ls pg t).length kd) := ⟨_, rfl⟩
        have hk5 : Kept w4 w5 (fun j => j = g) := by rw [hw5]; exact kept_trans (kept_setCell _ _ _ _) (kept_setCell _ _ _ _) (fun _ _ h => h)
        have Hbox_w5 := hide (held_kept Hbox_w4.out hk5 (fun j h1 h2 h => by have := HA.out; have := Hgt.out; have := Hres_w2.out.le; omega))
        have Hres_w5 := hide (held_kept Hres_w4.out hk5 (fun j h1 h2 h => by have := HA.out; have := Hgt.out; have := Hres_w2.out.le; omega))
        have HB_w5 : Hid (Below w.heap.size w w5) := hide (HB_w4.out.trans (below_of_kept hk5 HB_w4.out.size (fun j h => by have := HA.out; have := Hgt.out; have := Hres_w2.out.le; omega)))
        clear ffb0 ffb1 ffb2 ffb3 ffb4 ffb5
        obtain ⟨ffb0, ffb1, ffb2, ffb3, ffb4, ffb5⟩ := blk6h Hbox_w5.out
        rw [hw5] at ffb0 ffb1 ffb2 ffb3 ffb4 ffb5
        clear hk5
        go_wp2_with fail
        rw [← hw5]
        clear hw5 zv0 zv1 ffv0 ffv1 ffv2 ffv3 ffv4 ffv5 ffb0 ffb1 ffb2 ffb3 ffb4 ffb5
        refine (HCp.out _ _ (work_below HD.out HB_w5.out)).mono ?_
        rintro e w5q ⟨u, rfl, hnw, hb⟩
        have Hbox_w5q := hide (held_below Hbox_w5.out hb)
        have Hres_w5q := hide (held_below Hres_w5.out hb)
        have HB_w5q : Hid (Below w.heap.size w w5q) := hide (HB_w5.out.trans (hb.mono HB_w5.out.size))
        have HZq : Hid (w5.heap.size ≤ w5q.heap.size) := hide hb.size
        clear hb
        obtain ⟨xa9, ca9, xb9, cb9, xc9, cc9, xd9, cd9, xe9, ce9, rfl⟩ := nw_form hnw
        have HRt := hide (ret_work (w := w) Hres_w5q.out.is (nw_own hnw) (by have := Hres_w5.out.le; have := HA.out; omega) (by have := HA.out; omega) HB_w5q.out)
        clear hnw
        obtain ⟨ffr0, ffr1, ffr2, ffr3, ffr4, ffr5⟩ := blk6h Hres_w5q.out
        have zz0 := (cell_at Hres_w5q.out.is 0).2
        have zz1 := (cell_at Hres_w5q.out.is 1).2
        have zz2 := (cell_at Hres_w5q.out.is 2).2
        have zz3 := (cell_at Hres_w5q.out.is 3).2
        have zz4 := (cell_at Hres_w5q.out.is 4).2
        have zz5 := (cell_at Hres_w5q.out.is 5).2
        go_wp2_with fail
        obtain ⟨f0, f1, f2, f3, f4, f5⟩ := blk6c HRt.out.1
        refine bodyPost_ret (v := .tuple #[.agg #[.slice xa9 k.ps.length ca9, .slice xb9 k.ls.length cb9, .int .i64 k.next, .slice xc9 k.us.length cc9, .slice xd9 k.gs.length cd9, .slice xe9 k.fs.length ce9], .int .i64 0]) (by simp [results, Tryd.results70, go_sem, f0, f1, f2, f3, f4, f5]) rfl ⟨_, by rw [HNo.out.2], by rw [HNo.out.1]; exact HRt.out.2.1, HRt.out.2.2⟩
      | true =>
        have HYes := hide (put_yes (k := k) (lf := lf) (ks := ks) (vs := vs) (cs := cs) (by unfold putB; rw [← HP.out.1, ← HTx.out, hwo, hok]; simp [hp]))
        have HWp2 := hide (fun u wx h => HWp.out u pg wx h)
        rw [hwo] at HWp2
        rw [hok] at HNt
        go_enter Tryd.func70, Tryd.ntmps70
        go_wp2_with fail
        rw [← hw0, ← ha0]
        clear hw0 ha0
        refine (HNt.out _ (sumTab_below HT.out HB_w0.out) (node_below HN.out HB_w0.out)).mono ?_
        rintro e w1 ⟨rfl, hb⟩
        have Hbox_w1 := hide (held_below Hbox_w0.out hb)
        have Hnbx_w1 := hide (held_below Hnbx_w0.out hb)
        have Hres_w1 := hide (held_below Hres_w0.out hb)
        have HB_w1 : Hid (Below w.heap.size w w1) := hide (HB_w0.out.trans (hb.mono HB_w0.out.size))
        clear hb
        obtain ⟨ffb0, ffb1, ffb2, ffb3, ffb4, ffb5⟩ := blk6h Hbox_w1.out
        go_wp2_with fail
        clear ffb0 ffb1 ffb2 ffb3 ffb4 ffb5
        refine (HGp.out _ _ (work_below HD.out HB_w1.out)).mono ?_
        rintro e w2 ⟨u, rfl, hown, hb⟩
        have Hbox_w2 := hide (held_below Hbox_w1.out hb)
        have Hnbx_w2 := hide (held_below Hnbx_w1.out hb)
        have Hres_w2 := hide (held_below Hres_w1.out hb)
        have HB_w2 : Hid (Below w.heap.size w w2) := hide (HB_w1.out.trans (hb.mono HB_w1.out.size))
        have HZ2 : Hid (w1.heap.size ≤ w2.heap.size) := hide hb.size
        clear hb
        have Hd3_w2 := hide (held_work hown)
        obtain ⟨xa3, ca3, xb3, cb3, xc3, cc3, xd3, cd3, xe3, ce3, rfl⟩ := work_form hown
        clear hown
        obtain ⟨g, hg⟩ : ∃ g, g = w2.heap.size := ⟨_, rfl⟩
        obtain ⟨w3, hnw⟩ : ∃ wx, wx = w2.alloc (Obj.cells #[.slice xa3 kg.ps.length ca3, .slice xb3 kg.ls.length cb3, .int .i64 kg.next, .slice xc3 kg.us.length cc3, .slice xd3 kg.gs.length cd3, .slice xe3 kg.fs.length ce3] 36) := ⟨_, rfl⟩
        have hnv := new_blk w2 #[.slice xa3 kg.ps.length ca3, .slice xb3 kg.ls.length cb3, .int .i64 kg.next, .slice xc3 kg.us.length cc3, .slice xd3 kg.gs.length cd3, .slice xe3 kg.fs.length ce3] 36
        rw [← hnw, ← hg] at hnv
        have hbv : Below w2.heap.size w2 w3 := by rw [← hg]; exact hnv.1
        have Hg_w3 := hide hnv.2
        have Hgt : Hid (w2.heap.size = g) := hide hg.symm
        have Hbox_w3 := hide (held_below Hbox_w2.out hbv)
        have Hnbx_w3 := hide (held_below Hnbx_w2.out hbv)
        have Hres_w3 := hide (held_below Hres_w2.out hbv)
        have Hd3_w3 := hide (held_below Hd3_w2.out hbv)
        have HB_w3 : Hid (Below w.heap.size w w3) := hide (HB_w2.out.trans (hbv.mono HB_w2.out.size))
        clear hnv hbv
        go_wp2_with fail
        rw [← hnw, ← hg]
        clear hnw hg
        refine (HWp2.out _ _ ?hda).mono ?_
        case hda => have h := (work_of_own Hd3_w3.out.is.1); obtain ⟨vp', vl', vu', vg', vf', e, hd, -⟩ := h; obtain ⟨rfl, rfl, -⟩ := agg6 e; rw [HGd.out.1, HGd.out.2] at hd ⊢; exact hd
        rintro e w4 ⟨ud, rfl, hownd, hb⟩
        have HZ4 : Hid (w3.heap.size ≤ w4.heap.size) := hide hb.size
        have Hbox_w4 := hide (held_below Hbox_w3.out hb)
        have Hnbx_w4 := hide (held_below Hnbx_w3.out hb)
        have Hres_w4 := hide (held_below Hres_w3.out hb)
        have Hd3_w4 := hide (held_below Hd3_w3.out hb)
        have Hg_w4 := hide (held_below Hg_w3.out hb)
        have HB_w4 : Hid (Below w.heap.size w w4) := hide (HB_w3.out.trans (hb.mono HB_w3.out.size))
        clear hb
        obtain ⟨xd, zd, yd, kd, rfl⟩ := disk_form hownd
        have HDd := hide hownd
        clear hownd
        obtain ⟨ffv0, ffv1, ffv2, ffv3, ffv4, ffv5⟩ := blk6h Hg_w4.out
        have zv0 := (cell_at Hg_w4.out.is 0).2
        have zv1 := (cell_at Hg_w4.out.is 1).2
        have hfin := put_fin (w := w) (kg := kg) (ls' := writeL k.ps k.ls pg t) (U := g) Hg_w4.out.is Hres_w4.out.is Hd3_w4.out.is.1 (fun j hj => by have := Hd3_w4.out.is.2 j hj; have := Hgt.out; omega) (Nat.le_refl _) (diskD HGd.out.1 HDd.out (by have := Hg_w3.out.le; omega)) (by have := Hres_w1.out.le; omega) (by have := HZ2.out; have := Hgt.out; omega) (by have := HA.out; omega) HB_w4.out
        obtain ⟨w6, hw6⟩ : ∃ w6, w6 = (w4.setCell ⟨g, 0, none⟩ (.slice xd k.ps.length zd)).setCell ⟨g, 1, none⟩ (.slice yd (writeL k.ps k.ls pg t).length kd) := ⟨_, rfl⟩
        rw [← hw6] at hfin
        have HRt := hide (ret_work (w := w) hfin.2.1 hfin.2.2.1 (by have := Hres_w1.out.le; omega) (by have := HA.out; omega) hfin.2.2.2)
        obtain ⟨vv0, vv1, vv2, vv3, vv4, vv5⟩ := blk6c hfin.1
        obtain ⟨rr0, rr1, rr2, rr3, rr4, rr5⟩ := blk6c hfin.2.1
        have zz0 := (cell_at hfin.2.1 0).2
        have zz1 := (cell_at hfin.2.1 1).2
        have zz2 := (cell_at hfin.2.1 2).2
        have zz3 := (cell_at hfin.2.1 3).2
        have zz4 := (cell_at hfin.2.1 4).2
        have zz5 := (cell_at hfin.2.1 5).2
        rw [hw6] at vv0 vv1 vv2 vv3 vv4 vv5 rr0 rr1 rr2 rr3 rr4 rr5 zz0 zz1 zz2 zz3 zz4 zz5
        have HW6 := hide hw6
        clear hfin hw6
        go_wp2_with fail
        rw [← HW6.out]
        obtain ⟨f0, f1, f2, f3, f4, f5⟩ := blk6c HRt.out.1
        refine bodyPost_ret (v := .tuple #[.agg #[.slice xd k.ps.length zd, .slice yd (writeL k.ps k.ls pg t).length kd, .int .i64 kg.next, .slice xc3 kg.us.length cc3, .slice xd3 kg.gs.length cd3, .slice xe3 kg.fs.length ce3], .int .i64 pg]) (by simp [results, Tryd.results70, go_sem, f0, f1, f2, f3, f4, f5]) rfl ⟨_, by rw [HYes.out.2, ← HP.out.1], by rw [HYes.out.1, ← HP.out.1, ← HP.out.2, ← HTx.out]; exact HRt.out.2.1, HRt.out.2.2⟩

set_option maxHeartbeats 8000000 in
set_option maxRecDepth 100000 in
theorem specPutNode_any (v : Value) (k : Wk) (hk : k.small) (nv0 : Value) (lf : Bool) (ks vs : List ByteArray) (cs : List Int) (n1 : ks.length ≤ 1048576) (n2 : vs.length ≤ 1048576) (n3 : cs.length ≤ 1048576) (n4 : ∀ s ∈ ks, s.size ≤ 1048576) (n5 : ∀ s ∈ vs, s.size ≤ 1048576) (w : World) (hd : WorkAt w v k) (hn : NodeAt w nv0 lf ks vs cs) :
    Calls Tryd.prog 19 #[v, nv0] w fun e w' => ∃ v', e = .returned (.tuple #[v', .int .i64 (putP k lf ks vs cs)]) ∧ WorkOwn w' w.heap.size v' (putK k lf ks vs cs) ∧ Below w.heap.size w w' := by
  have HNt := hide (fun wx h => specNodeText_any nv0 lf ks vs cs n1 n2 n3 n4 n5 wx h)
  have HCp := hide (fun u wx h => specWCopy_any u k hk wx h)
  have HGp := hide (fun u wx h => specGivePage_any u k hk wx h)
  have HWp := hide (fun u page wx h => specWritePage_any u k.ps k.ls page (nodeO lf ks vs cs) (Nat.le_trans (nodeO_small lf ks vs cs) (by omega)) hk.1 hk.2.2.1 hk.2.1 hk.2.2.2.1 wx h)
  have HGd := hide (give_disk k)
  have HD := hide hd
  have HN := hide hn
  obtain ⟨vp, vl, vu, vg, vf, rfl, -⟩ := hd
  obtain ⟨nk, nv, nc, rfl, -⟩ := hn
  clear hk n1 n2 n3 n4 n5
  obtain ⟨t, ht⟩ : ∃ t, t = nodeO lf ks vs cs := ⟨_, rfl⟩
  rw [← ht] at HNt HWp
  have HTx := hide ht
  clear ht
  obtain ⟨w0, hw0⟩ : ∃ w0, w0 = ((w.alloc (Obj.cells #[vp, vl, .int .i64 k.next, vu, vg, vf] 36)).alloc (Obj.cells #[.bool lf, nk, nv, nc] 55)).alloc (Obj.cells #[.slice none 0 0, .slice none 0 0, .int .i64 0, .slice none 0 0, .slice none 0 0, .slice none 0 0] 36) := ⟨_, rfl⟩
  have hb0 : Below w.heap.size w w0 := by rw [hw0]; exact (((Below.refl w.heap.size w).alloc (Nat.le_refl _) _).alloc (by simp) _).alloc (by simp; omega) _
  obtain ⟨q0, q1, q2, hs0⟩ := three_allocs w (Obj.cells #[vp, vl, .int .i64 k.next, vu, vg, vf] 36) (Obj.cells #[.bool lf, nk, nv, nc] 55) (Obj.cells #[.slice none 0 0, .slice none 0 0, .int .i64 0, .slice none 0 0, .slice none 0 0, .slice none 0 0] 36)
  rw [← hw0] at q0 q1 q2 hs0
  obtain ⟨a0, ha0⟩ : ∃ a, a = w.heap.size := ⟨_, rfl⟩
  rw [← ha0] at q0 q1 q2 hs0
  have HA : Hid (a0 = w.heap.size ∧ w0.heap.size = a0 + 3) := hide ⟨ha0, hs0⟩
  have HB_w0 := hide hb0
  have Hbox_w0 := hide (held_blk q0)
  have Hnbx_w0 := hide (held_blk q1)
  have Hres_w0 := hide (held_blk q2)
  clear hb0 q0 q1 q2 hs0
  cases hok : nodeOkB lf ks vs cs with
  | false =>
    have HNo := hide (put_no (k := k) (lf := lf) (ks := ks) (vs := vs) (cs := cs) (by unfold putB; rw [hok]; rfl))
    rw [hok] at HNt
    go_enter Tryd.func19, Tryd.ntmps19
    go_wp2_with fail
    rw [← hw0, ← ha0]
    clear hw0 ha0
    refine (HNt.out _ (node_below HN.out HB_w0.out)).mono ?_
    rintro e w1 ⟨rfl, hb⟩
    have Hbox_w1 := hide (held_below Hbox_w0.out hb)
    have Hnbx_w1 := hide (held_below Hnbx_w0.out hb)
    have Hres_w1 := hide (held_below Hres_w0.out hb)
    have HB_w1 : Hid (Below w.heap.size w w1) := hide (HB_w0.out.trans (hb.mono HB_w0.out.size))
    clear hb
    obtain ⟨ffb0, ffb1, ffb2, ffb3, ffb4, ffb5⟩ := blk6h Hbox_w1.out
    go_wp2_with fail
    clear ffb0 ffb1 ffb2 ffb3 ffb4 ffb5
    refine (HCp.out _ _ (work_below HD.out HB_w1.out)).mono ?_
    rintro e w1q ⟨u, rfl, hnw, hb⟩
    have Hbox_w1q := hide (held_below Hbox_w1.out hb)
    have Hnbx_w1q := hide (held_below Hnbx_w1.out hb)
    have Hres_w1q := hide (held_below Hres_w1.out hb)
    have HB_w1q : Hid (Below w.heap.size w w1q) := hide (HB_w1.out.trans (hb.mono HB_w1.out.size))
    have HZq : Hid (w1.heap.size ≤ w1q.heap.size) := hide hb.size
    clear hb
    obtain ⟨xa9, ca9, xb9, cb9, xc9, cc9, xd9, cd9, xe9, ce9, rfl⟩ := nw_form hnw
    have HRt := hide (ret_work (w := w) Hres_w1q.out.is (nw_own hnw) (by have := Hres_w1.out.le; have := HA.out; omega) (by have := HA.out; omega) HB_w1q.out)
    clear hnw
    obtain ⟨ffr0, ffr1, ffr2, ffr3, ffr4, ffr5⟩ := blk6h Hres_w1q.out
    have zz0 := (cell_at Hres_w1q.out.is 0).2
    have zz1 := (cell_at Hres_w1q.out.is 1).2
    have zz2 := (cell_at Hres_w1q.out.is 2).2
    have zz3 := (cell_at Hres_w1q.out.is 3).2
    have zz4 := (cell_at Hres_w1q.out.is 4).2
    have zz5 := (cell_at Hres_w1q.out.is 5).2
    go_wp2_with fail
    obtain ⟨f0, f1, f2, f3, f4, f5⟩ := blk6c HRt.out.1
    refine bodyPost_ret (v := .tuple #[.agg #[.slice xa9 k.ps.length ca9, .slice xb9 k.ls.length cb9, .int .i64 k.next, .slice xc9 k.us.length cc9, .slice xd9 k.gs.length cd9, .slice xe9 k.fs.length ce9], .int .i64 0]) (by simp [results, Tryd.results19, go_sem, f0, f1, f2, f3, f4, f5]) rfl ⟨_, by rw [HNo.out.2], by rw [HNo.out.1]; exact HRt.out.2.1, HRt.out.2.2⟩
  | true =>
    obtain ⟨pg, hpg⟩ : ∃ pg, pg = giveP k := ⟨_, rfl⟩
    obtain ⟨kg, hkg⟩ : ∃ kg, kg = giveK k := ⟨_, rfl⟩
    rw [← hpg, ← hkg] at HGp
    rw [← hkg] at HGd
    have HP := hide (⟨hpg, hkg⟩ : _ ∧ _)
    clear hpg hkg
    by_cases hp : pg = 0
    · have HNo := hide (put_no (k := k) (lf := lf) (ks := ks) (vs := vs) (cs := cs) (by unfold putB; rw [← HP.out.1, hp, hok]; simp))
      subst hp
      rw [hok] at HNt
      go_enter Tryd.func19, Tryd.ntmps19
      go_wp2_with fail
      rw [← hw0, ← ha0]
      clear hw0 ha0
      refine (HNt.out _ (node_below HN.out HB_w0.out)).mono ?_
      rintro e w1 ⟨rfl, hb⟩
      have Hbox_w1 := hide (held_below Hbox_w0.out hb)
      have Hnbx_w1 := hide (held_below Hnbx_w0.out hb)
      have Hres_w1 := hide (held_below Hres_w0.out hb)
      have HB_w1 : Hid (Below w.heap.size w w1) := hide (HB_w0.out.trans (hb.mono HB_w0.out.size))
      clear hb
      obtain ⟨ffb0, ffb1, ffb2, ffb3, ffb4, ffb5⟩ := blk6h Hbox_w1.out
      go_wp2_with fail
      clear ffb0 ffb1 ffb2 ffb3 ffb4 ffb5
      refine (HGp.out _ _ (work_below HD.out HB_w1.out)).mono ?_
      rintro e w2 ⟨u, rfl, hown, hb⟩
      have Hbox_w2 := hide (held_below Hbox_w1.out hb)
      have Hnbx_w2 := hide (held_below Hnbx_w1.out hb)
      have Hres_w2 := hide (held_below Hres_w1.out hb)
      have HB_w2 : Hid (Below w.heap.size w w2) := hide (HB_w1.out.trans (hb.mono HB_w1.out.size))
      have HZ2 : Hid (w1.heap.size ≤ w2.heap.size) := hide hb.size
      clear hb
      have Hd3_w2 := hide (held_work hown)
      obtain ⟨xa3, ca3, xb3, cb3, xc3, cc3, xd3, cd3, xe3, ce3, rfl⟩ := work_form hown
      clear hown
      obtain ⟨g, hg⟩ : ∃ g, g = w2.heap.size := ⟨_, rfl⟩
      obtain ⟨w3, hnw⟩ : ∃ wx, wx = w2.alloc (Obj.cells #[.slice xa3 kg.ps.length ca3, .slice xb3 kg.ls.length cb3, .int .i64 kg.next, .slice xc3 kg.us.length cc3, .slice xd3 kg.gs.length cd3, .slice xe3 kg.fs.length ce3] 36) := ⟨_, rfl⟩
      have hnv := new_blk w2 #[.slice xa3 kg.ps.length ca3, .slice xb3 kg.ls.length cb3, .int .i64 kg.next, .slice xc3 kg.us.length cc3, .slice xd3 kg.gs.length cd3, .slice xe3 kg.fs.length ce3] 36
      rw [← hnw, ← hg] at hnv
      have hbv : Below w2.heap.size w2 w3 := by rw [← hg]; exact hnv.1
      have Hg_w3 := hide hnv.2
      have Hgt : Hid (w2.heap.size = g) := hide hg.symm
      have Hbox_w3 := hide (held_below Hbox_w2.out hbv)
      have Hnbx_w3 := hide (held_below Hnbx_w2.out hbv)
      have Hres_w3 := hide (held_below Hres_w2.out hbv)
      have Hd3_w3 := hide (held_below Hd3_w2.out hbv)
      have HB_w3 : Hid (Below w.heap.size w w3) := hide (HB_w2.out.trans (hbv.mono HB_w2.out.size))
      clear hnv hbv
      obtain ⟨ffb0, ffb1, ffb2, ffb3, ffb4, ffb5⟩ := blk6h Hbox_w3.out
      rw [hnw] at ffb0 ffb1 ffb2 ffb3 ffb4 ffb5
      go_wp2_with fail
      rw [← hnw]
      clear hnw hg ffb0 ffb1 ffb2 ffb3 ffb4 ffb5
      refine (HCp.out _ _ (work_below HD.out HB_w3.out)).mono ?_
      rintro e w3q ⟨u, rfl, hnw, hb⟩
      have Hbox_w3q := hide (held_below Hbox_w3.out hb)
      have Hnbx_w3q := hide (held_below Hnbx_w3.out hb)
      have Hres_w3q := hide (held_below Hres_w3.out hb)
      have Hd3_w3q := hide (held_below Hd3_w3.out hb)
      have Hg_w3q := hide (held_below Hg_w3.out hb)
      have HB_w3q : Hid (Below w.heap.size w w3q) := hide (HB_w3.out.trans (hb.mono HB_w3.out.size))
      have HZq : Hid (w3.heap.size ≤ w3q.heap.size) := hide hb.size
      clear hb
      obtain ⟨xa9, ca9, xb9, cb9, xc9, cc9, xd9, cd9, xe9, ce9, rfl⟩ := nw_form hnw
      have HRt := hide (ret_work (w := w) Hres_w3q.out.is (nw_own hnw) (by have := Hres_w3.out.le; have := HA.out; omega) (by have := HA.out; omega) HB_w3q.out)
      clear hnw
      obtain ⟨ffr0, ffr1, ffr2, ffr3, ffr4, ffr5⟩ := blk6h Hres_w3q.out
      have zz0 := (cell_at Hres_w3q.out.is 0).2
      have zz1 := (cell_at Hres_w3q.out.is 1).2
      have zz2 := (cell_at Hres_w3q.out.is 2).2
      have zz3 := (cell_at Hres_w3q.out.is 3).2
      have zz4 := (cell_at Hres_w3q.out.is 4).2
      have zz5 := (cell_at Hres_w3q.out.is 5).2
      go_wp2_with fail
      obtain ⟨f0, f1, f2, f3, f4, f5⟩ := blk6c HRt.out.1
      refine bodyPost_ret (v := .tuple #[.agg #[.slice xa9 k.ps.length ca9, .slice xb9 k.ls.length cb9, .int .i64 k.next, .slice xc9 k.us.length cc9, .slice xd9 k.gs.length cd9, .slice xe9 k.fs.length ce9], .int .i64 0]) (by simp [results, Tryd.results19, go_sem, f0, f1, f2, f3, f4, f5]) rfl ⟨_, by rw [HNo.out.2], by rw [HNo.out.1]; exact HRt.out.2.1, HRt.out.2.2⟩
    · cases hwo : writeOk k.ps k.ls pg t with
      | false =>
        have HNo := hide (put_no (k := k) (lf := lf) (ks := ks) (vs := vs) (cs := cs) (by unfold putB; rw [← HP.out.1, ← HTx.out, hwo]; simp))
        have HWp2 := hide (fun u wx h => HWp.out u pg wx h)
        rw [hwo] at HWp2
        rw [hok] at HNt
        go_enter Tryd.func19, Tryd.ntmps19
        go_wp2_with fail
        rw [← hw0, ← ha0]
        clear hw0 ha0
        refine (HNt.out _ (node_below HN.out HB_w0.out)).mono ?_
        rintro e w1 ⟨rfl, hb⟩
        have Hbox_w1 := hide (held_below Hbox_w0.out hb)
        have Hnbx_w1 := hide (held_below Hnbx_w0.out hb)
        have Hres_w1 := hide (held_below Hres_w0.out hb)
        have HB_w1 : Hid (Below w.heap.size w w1) := hide (HB_w0.out.trans (hb.mono HB_w0.out.size))
        clear hb
        obtain ⟨ffb0, ffb1, ffb2, ffb3, ffb4, ffb5⟩ := blk6h Hbox_w1.out
        go_wp2_with fail
        clear ffb0 ffb1 ffb2 ffb3 ffb4 ffb5
        refine (HGp.out _ _ (work_below HD.out HB_w1.out)).mono ?_
        rintro e w2 ⟨u, rfl, hown, hb⟩
        have Hbox_w2 := hide (held_below Hbox_w1.out hb)
        have Hnbx_w2 := hide (held_below Hnbx_w1.out hb)
        have Hres_w2 := hide (held_below Hres_w1.out hb)
        have HB_w2 : Hid (Below w.heap.size w w2) := hide (HB_w1.out.trans (hb.mono HB_w1.out.size))
        have HZ2 : Hid (w1.heap.size ≤ w2.heap.size) := hide hb.size
        clear hb
        have Hd3_w2 := hide (held_work hown)
        obtain ⟨xa3, ca3, xb3, cb3, xc3, cc3, xd3, cd3, xe3, ce3, rfl⟩ := work_form hown
        clear hown
        obtain ⟨g, hg⟩ : ∃ g, g = w2.heap.size := ⟨_, rfl⟩
        obtain ⟨w3, hnw⟩ : ∃ wx, wx = w2.alloc (Obj.cells #[.slice xa3 kg.ps.length ca3, .slice xb3 kg.ls.length cb3, .int .i64 kg.next, .slice xc3 kg.us.length cc3, .slice xd3 kg.gs.length cd3, .slice xe3 kg.fs.length ce3] 36) := ⟨_, rfl⟩
        have hnv := new_blk w2 #[.slice xa3 kg.ps.length ca3, .slice xb3 kg.ls.length cb3, .int .i64 kg.next, .slice xc3 kg.us.length cc3, .slice xd3 kg.gs.length cd3, .slice xe3 kg.fs.length ce3] 36
        rw [← hnw, ← hg] at hnv
        have hbv : Below w2.heap.size w2 w3 := by rw [← hg]; exact hnv.1
        have Hg_w3 := hide hnv.2
        have Hgt : Hid (w2.heap.size = g) := hide hg.symm
        have Hbox_w3 := hide (held_below Hbox_w2.out hbv)
        have Hnbx_w3 := hide (held_below Hnbx_w2.out hbv)
        have Hres_w3 := hide (held_below Hres_w2.out hbv)
        have Hd3_w3 := hide (held_below Hd3_w2.out hbv)
        have HB_w3 : Hid (Below w.heap.size w w3) := hide (HB_w2.out.trans (hbv.mono HB_w2.out.size))
        clear hnv hbv
        go_wp2_with fail
        rw [← hnw, ← hg]
        clear hnw hg
        refine (HWp2.out _ _ ?hda).mono ?_
        case hda => have h := (work_of_own Hd3_w3.out.is.1); obtain ⟨vp', vl', vu', vg', vf', e, hd, -⟩ := h; obtain ⟨rfl, rfl, -⟩ := agg6 e; rw [HGd.out.1, HGd.out.2] at hd ⊢; exact hd
        rintro e w4 ⟨ud, rfl, hownd, hb⟩
        have HZ4 : Hid (w3.heap.size ≤ w4.heap.size) := hide hb.size
        have Hbox_w4 := hide (held_below Hbox_w3.out hb)
        have Hnbx_w4 := hide (held_below Hnbx_w3.out hb)
        have Hres_w4 := hide (held_below Hres_w3.out hb)
        have Hd3_w4 := hide (held_below Hd3_w3.out hb)
        have Hg_w4 := hide (held_below Hg_w3.out hb)
        have HB_w4 : Hid (Below w.heap.size w w4) := hide (HB_w3.out.trans (hb.mono HB_w3.out.size))
        clear hb
        obtain ⟨xd, zd, yd, kd, rfl⟩ := disk_form hownd
        have HDd := hide hownd
        clear hownd
        obtain ⟨w5, hw5⟩ : ∃ w5, w5 = w4.alloc (Obj.cells #[.slice xd k.ps.length zd, .slice yd (writeL k.ps k.ls pg t).length kd] 34) := ⟨_, rfl⟩
        have hb5 : Below w4.heap.size w4 w5 := by rw [hw5]; exact (Below.refl _ _).alloc (Nat.le_refl _) _
        have Hbox_w5 := hide (held_below Hbox_w4.out hb5)
        have Hnbx_w5 := hide (held_below Hnbx_w4.out hb5)
        have Hres_w5 := hide (held_below Hres_w4.out hb5)
        have Hd3_w5 := hide (held_below Hd3_w4.out hb5)
        have Hg_w5 := hide (held_below Hg_w4.out hb5)
        have HB_w5 : Hid (Below w.heap.size w w5) := hide (HB_w4.out.trans (hb5.mono HB_w4.out.size))
        clear hb5
        obtain ⟨ffb0, ffb1, ffb2, ffb3, ffb4, ffb5⟩ := blk6h Hbox_w5.out
        rw [hw5] at ffb0 ffb1 ffb2 ffb3 ffb4 ffb5
        go_wp2_with fail
        rw [← hw5]
        clear hw5 ffb0 ffb1 ffb2 ffb3 ffb4 ffb5
        refine (HCp.out _ _ (work_below HD.out HB_w5.out)).mono ?_
        rintro e w5q ⟨u, rfl, hnw, hb⟩
        have Hbox_w5q := hide (held_below Hbox_w5.out hb)
        have Hnbx_w5q := hide (held_below Hnbx_w5.out hb)
        have Hres_w5q := hide (held_below Hres_w5.out hb)
        have Hd3_w5q := hide (held_below Hd3_w5.out hb)
        have Hg_w5q := hide (held_below Hg_w5.out hb)
        have HB_w5q : Hid (Below w.heap.size w w5q) := hide (HB_w5.out.trans (hb.mono HB_w5.out.size))
        have HZq : Hid (w5.heap.size ≤ w5q.heap.size) := hide hb.size
        clear hb
        obtain ⟨xa9, ca9, xb9, cb9, xc9, cc9, xd9, cd9, xe9, ce9, rfl⟩ := nw_form hnw
        have HRt := hide (ret_work (w := w) Hres_w5q.out.is (nw_own hnw) (by have := Hres_w5.out.le; have := HA.out; omega) (by have := HA.out; omega) HB_w5q.out)
        clear hnw
        obtain ⟨ffr0, ffr1, ffr2, ffr3, ffr4, ffr5⟩ := blk6h Hres_w5q.out
        have zz0 := (cell_at Hres_w5q.out.is 0).2
        have zz1 := (cell_at Hres_w5q.out.is 1).2
        have zz2 := (cell_at Hres_w5q.out.is 2).2
        have zz3 := (cell_at Hres_w5q.out.is 3).2
        have zz4 := (cell_at Hres_w5q.out.is 4).2
        have zz5 := (cell_at Hres_w5q.out.is 5).2
        go_wp2_with fail
        obtain ⟨f0, f1, f2, f3, f4, f5⟩ := blk6c HRt.out.1
        refine bodyPost_ret (v := .tuple #[.agg #[.slice xa9 k.ps.length ca9, .slice xb9 k.ls.length cb9, .int .i64 k.next, .slice xc9 k.us.length cc9, .slice xd9 k.gs.length cd9, .slice xe9 k.fs.length ce9], .int .i64 0]) (by simp [results, Tryd.results19, go_sem, f0, f1, f2, f3, f4, f5]) rfl ⟨_, by rw [HNo.out.2], by rw [HNo.out.1]; exact HRt.out.2.1, HRt.out.2.2⟩
      | true =>
        have HYes := hide (put_yes (k := k) (lf := lf) (ks := ks) (vs := vs) (cs := cs) (by unfold putB; rw [← HP.out.1, ← HTx.out, hwo, hok]; simp [hp]))
        have HWp2 := hide (fun u wx h => HWp.out u pg wx h)
        rw [hwo] at HWp2
        rw [hok] at HNt
        go_enter Tryd.func19, Tryd.ntmps19
        go_wp2_with fail
        rw [← hw0, ← ha0]
        clear hw0 ha0
        refine (HNt.out _ (node_below HN.out HB_w0.out)).mono ?_
        rintro e w1 ⟨rfl, hb⟩
        have Hbox_w1 := hide (held_below Hbox_w0.out hb)
        have Hnbx_w1 := hide (held_below Hnbx_w0.out hb)
        have Hres_w1 := hide (held_below Hres_w0.out hb)
        have HB_w1 : Hid (Below w.heap.size w w1) := hide (HB_w0.out.trans (hb.mono HB_w0.out.size))
        clear hb
        obtain ⟨ffb0, ffb1, ffb2, ffb3, ffb4, ffb5⟩ := blk6h Hbox_w1.out
        go_wp2_with fail
        clear ffb0 ffb1 ffb2 ffb3 ffb4 ffb5
        refine (HGp.out _ _ (work_below HD.out HB_w1.out)).mono ?_
        rintro e w2 ⟨u, rfl, hown, hb⟩
        have Hbox_w2 := hide (held_below Hbox_w1.out hb)
        have Hnbx_w2 := hide (held_below Hnbx_w1.out hb)
        have Hres_w2 := hide (held_below Hres_w1.out hb)
        have HB_w2 : Hid (Below w.heap.size w w2) := hide (HB_w1.out.trans (hb.mono HB_w1.out.size))
        have HZ2 : Hid (w1.heap.size ≤ w2.heap.size) := hide hb.size
        clear hb
        have Hd3_w2 := hide (held_work hown)
        obtain ⟨xa3, ca3, xb3, cb3, xc3, cc3, xd3, cd3, xe3, ce3, rfl⟩ := work_form hown
        clear hown
        obtain ⟨g, hg⟩ : ∃ g, g = w2.heap.size := ⟨_, rfl⟩
        obtain ⟨w3, hnw⟩ : ∃ wx, wx = w2.alloc (Obj.cells #[.slice xa3 kg.ps.length ca3, .slice xb3 kg.ls.length cb3, .int .i64 kg.next, .slice xc3 kg.us.length cc3, .slice xd3 kg.gs.length cd3, .slice xe3 kg.fs.length ce3] 36) := ⟨_, rfl⟩
        have hnv := new_blk w2 #[.slice xa3 kg.ps.length ca3, .slice xb3 kg.ls.length cb3, .int .i64 kg.next, .slice xc3 kg.us.length cc3, .slice xd3 kg.gs.length cd3, .slice xe3 kg.fs.length ce3] 36
        rw [← hnw, ← hg] at hnv
        have hbv : Below w2.heap.size w2 w3 := by rw [← hg]; exact hnv.1
        have Hg_w3 := hide hnv.2
        have Hgt : Hid (w2.heap.size = g) := hide hg.symm
        have Hbox_w3 := hide (held_below Hbox_w2.out hbv)
        have Hnbx_w3 := hide (held_below Hnbx_w2.out hbv)
        have Hres_w3 := hide (held_below Hres_w2.out hbv)
        have Hd3_w3 := hide (held_below Hd3_w2.out hbv)
        have HB_w3 : Hid (Below w.heap.size w w3) := hide (HB_w2.out.trans (hbv.mono HB_w2.out.size))
        clear hnv hbv
        go_wp2_with fail
        rw [← hnw, ← hg]
        clear hnw hg
        refine (HWp2.out _ _ ?hda).mono ?_
        case hda => have h := (work_of_own Hd3_w3.out.is.1); obtain ⟨vp', vl', vu', vg', vf', e, hd, -⟩ := h; obtain ⟨rfl, rfl, -⟩ := agg6 e; rw [HGd.out.1, HGd.out.2] at hd ⊢; exact hd
        rintro e w4 ⟨ud, rfl, hownd, hb⟩
        have HZ4 : Hid (w3.heap.size ≤ w4.heap.size) := hide hb.size
        have Hbox_w4 := hide (held_below Hbox_w3.out hb)
        have Hnbx_w4 := hide (held_below Hnbx_w3.out hb)
        have Hres_w4 := hide (held_below Hres_w3.out hb)
        have Hd3_w4 := hide (held_below Hd3_w3.out hb)
        have Hg_w4 := hide (held_below Hg_w3.out hb)
        have HB_w4 : Hid (Below w.heap.size w w4) := hide (HB_w3.out.trans (hb.mono HB_w3.out.size))
        clear hb
        obtain ⟨xd, zd, yd, kd, rfl⟩ := disk_form hownd
        have HDd := hide hownd
        clear hownd
        obtain ⟨ffv0, ffv1, ffv2, ffv3, ffv4, ffv5⟩ := blk6h Hg_w4.out
        have zv0 := (cell_at Hg_w4.out.is 0).2
        have zv1 := (cell_at Hg_w4.out.is 1).2
        obtain ⟨w5, hw5⟩ : ∃ w5, w5 = w4.alloc (Obj.cells #[.slice xd k.ps.length zd, .slice yd (writeL k.ps k.ls pg t).length kd] 34) := ⟨_, rfl⟩
        have hb5 : Below w4.heap.size w4 w5 := by rw [hw5]; exact (Below.refl _ _).alloc (Nat.le_refl _) _
        have HDd5 := hide (diskOwn_below HDd.out hb5)
        clear zv0 zv1 ffv0 ffv1 ffv2 ffv3 ffv4 ffv5
        have Hbox_w5 := hide (held_below Hbox_w4.out hb5)
        have Hnbx_w5 := hide (held_below Hnbx_w4.out hb5)
        have Hres_w5 := hide (held_below Hres_w4.out hb5)
        have Hd3_w5 := hide (held_below Hd3_w4.out hb5)
        have Hg_w5 := hide (held_below Hg_w4.out hb5)
        have HB_w5 : Hid (Below w.heap.size w w5) := hide (HB_w4.out.trans (hb5.mono HB_w4.out.size))
        clear hb5
        obtain ⟨ffv0, ffv1, ffv2, ffv3, ffv4, ffv5⟩ := blk6h Hg_w5.out
        have zv0 := (cell_at Hg_w5.out.is 0).2
        have zv1 := (cell_at Hg_w5.out.is 1).2
        rw [hw5] at zv0 zv1 ffv0 ffv1 ffv2 ffv3 ffv4 ffv5
        have hfin := put_fin (w := w) (kg := kg) (ls' := writeL k.ps k.ls pg t) (U := g) Hg_w5.out.is Hres_w5.out.is Hd3_w5.out.is.1 (fun j hj => by have := Hd3_w5.out.is.2 j hj; have := Hgt.out; omega) (Nat.le_refl _) (diskD HGd.out.1 HDd5.out (by have := Hg_w3.out.le; omega)) (by have := Hres_w1.out.le; omega) (by have := HZ2.out; have := Hgt.out; omega) (by have := HA.out; omega) HB_w5.out
        obtain ⟨w6, hw6⟩ : ∃ w6, w6 = (w5.setCell ⟨g, 0, none⟩ (.slice xd k.ps.length zd)).setCell ⟨g, 1, none⟩ (.slice yd (writeL k.ps k.ls pg t).length kd) := ⟨_, rfl⟩
        rw [← hw6] at hfin
        have HRt := hide (ret_work (w := w) hfin.2.1 hfin.2.2.1 (by have := Hres_w1.out.le; omega) (by have := HA.out; omega) hfin.2.2.2)
        obtain ⟨vv0, vv1, vv2, vv3, vv4, vv5⟩ := blk6c hfin.1
        obtain ⟨rr0, rr1, rr2, rr3, rr4, rr5⟩ := blk6c hfin.2.1
        have zz0 := (cell_at hfin.2.1 0).2
        have zz1 := (cell_at hfin.2.1 1).2
        have zz2 := (cell_at hfin.2.1 2).2
        have zz3 := (cell_at hfin.2.1 3).2
        have zz4 := (cell_at hfin.2.1 4).2
        have zz5 := (cell_at hfin.2.1 5).2
        rw [hw6, hw5] at vv0 vv1 vv2 vv3 vv4 vv5 rr0 rr1 rr2 rr3 rr4 rr5 zz0 zz1 zz2 zz3 zz4 zz5
        have HW6 := hide hw6
        have HW5 := hide hw5
        clear hfin hw6 hw5
        go_wp2_with fail
        rw [← HW5.out]
        rw [← HW6.out]
        obtain ⟨f0, f1, f2, f3, f4, f5⟩ := blk6c HRt.out.1
        refine bodyPost_ret (v := .tuple #[.agg #[.slice xd k.ps.length zd, .slice yd (writeL k.ps k.ls pg t).length kd, .int .i64 kg.next, .slice xc3 kg.us.length cc3, .slice xd3 kg.gs.length cd3, .slice xe3 kg.fs.length ce3], .int .i64 pg]) (by simp [results, Tryd.results19, go_sem, f0, f1, f2, f3, f4, f5]) rfl ⟨_, by rw [HYes.out.2, ← HP.out.1], by rw [HYes.out.1, ← HP.out.1, ← HP.out.2, ← HTx.out]; exact HRt.out.2.1, HRt.out.2.2⟩

end Go.Proofs.YtacmpggigdlmmaaDoor
