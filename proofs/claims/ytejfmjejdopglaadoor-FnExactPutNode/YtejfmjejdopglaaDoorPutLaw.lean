/-
  laws.FnExactPutNode by contracts: it returns true at every work and every node.
-/
import Derived.Test.YtejfmjejdopglaaDoorPutJ
import Derived.Test.YtejfmjejdopglaaDoorNode2
import Derived.Deep.RegionHeld3
namespace Go.Proofs.YtejfmjejdopglaaDoor
open Go.RowKit

set_option maxHeartbeats 16000000 in
set_option maxRecDepth 100000 in
theorem lawPutNode (v : Value) (k : Wk) (hf : k.fits) (nv0 : Value) (lf : Bool) (ks vs : List ByteArray) (cs : List Int) (bk : ks.length ≤ maxLen) (bl : ∀ s ∈ ks, s.size ≤ maxLen) (bv : vs.length ≤ maxLen) (bw : ∀ s ∈ vs, s.size ≤ maxLen) (bc : cs.length ≤ maxLen) (w : World) (hd : WorkAt w v k) (hT : SumTab w) (hn : NodeAt w nv0 lf ks vs cs) :
    Calls Tryd.prog 7 #[v, nv0] w fun e w' => e = .returned (.bool true) ∧ Below w.heap.size w w' := by
  have HSz := hide (fun wx h => szWork_any v k hf 1048576 (Nat.le_refl _) wx h)
  clear hf
  have HD := hide hd
  obtain ⟨vp, vl, vu, vg, vf, rfl, -⟩ := hd
  have HSn := hide (fun left hl wx h => szNode_any nv0 lf ks vs cs bk bl bv bw bc left hl wx h)
  have HN := hide hn
  have HT := hide hT
  clear bk bl bv bw bc hT
  obtain ⟨nk, nv, nc, rfl, -⟩ := hn
  obtain ⟨wz, hwz⟩ : ∃ wz, wz = w.alloc (Obj.cells #[vp, vl, .int .i64 k.next, vu, vg, vf] 48) := ⟨_, rfl⟩
  obtain ⟨w0, hw0⟩ : ∃ w0, w0 = wz.alloc (Obj.cells #[.bool lf, nk, nv, nc] 50) := ⟨_, rfl⟩
  have hz := new_blk w #[vp, vl, .int .i64 k.next, vu, vg, vf] 48
  rw [← hwz] at hz
  have hzn := new_blk wz #[.bool lf, nk, nv, nc] 50
  rw [← hw0] at hzn
  have hsz : wz.heap.size = w.heap.size + 1 := by rw [hwz, World.size_alloc]
  rw [hsz] at hzn
  have HB_w0 : Hid (Below w.heap.size w w0) := hide (hz.1.trans (Below.mono hzn.1 (by omega)))
  have Hbox_w0 : Hid (Held w0 w.heap.size (w.heap.size + 1) (IsBlk w.heap.size #[vp, vl, .int .i64 k.next, vu, vg, vf] 48)) := hide (held_below hz.2 (by rw [hsz]; exact hzn.1))
  have Hnbx_w0 : Hid (Held w0 (w.heap.size + 1) (w.heap.size + 1 + 1) (IsBlk (w.heap.size + 1) #[.bool lf, nk, nv, nc] 50)) := hide hzn.2
  rw [hwz] at hw0
  clear hz hzn hsz hwz
  by_cases hbk : k.bulk ≤ 1048576
  · obtain ⟨r, hr⟩ : ∃ r : Nat, szOut 1048576 k.bulk = (r : Int) := ⟨_, szOut_yes hbk⟩
    have hrb : r ≤ 1048576 := by rw [szOut_yes hbk] at hr; omega
    have hrk : r + k.bulk = 1048576 := by rw [szOut_yes hbk] at hr; omega
    rw [hr] at HSz
    by_cases hbn : bulkN ks vs cs ≤ r
    rotate_left
    · have HSn2 := hide (fun wx h => HSn.out r hrb wx h)
      rw [szOut_no (by omega)] at HSn2
      clear hr hrk
      go_enter Tryd.func7, Tryd.ntmps7
      go_wp2_with fail
      rw [← hw0]
      clear hw0
      refine (HSz.out _ (work_below HD.out HB_w0.out)).mono ?_
      rintro e w1 ⟨rfl, hb⟩
      have Hnb_w1 := hide (held_below Hnbx_w0.out hb)
      have HB_w1 : Hid (Below w.heap.size w w1) := hide (HB_w0.out.trans (hb.mono HB_w0.out.size))
      clear hb
      obtain ⟨cn0, cn1, cn2, cn3⟩ := blk4h Hnb_w1.out
      go_wp2_with fail
      refine (HSn2.out _ (node_below HN.out HB_w1.out)).mono ?_
      rintro e w2 ⟨rfl, hb⟩
      go_wp2_with fail
      go_ret
      exact ⟨rfl, HB_w1.out.trans (hb.mono HB_w1.out.size)⟩
    obtain ⟨hn1, hn4, hn2, hn5, hn3⟩ := bulkN_in (Nat.le_trans hbn hrb)
    have hsm := bulkW_in hbk
    have HTo := hide (fun wx h => toWork_any (.agg #[vp, vl, .int .i64 k.next, vu, vg, vf]) k hbk wx h)
    have HTn := hide (fun wx h => toNode_any (.agg #[.bool lf, nk, nv, nc]) lf ks vs cs hn1 hn2 hn3 wx h)
    have HSp := hide (fun u un wx h hn => specPutNode_any u k hsm un lf ks vs cs hn1 hn2 hn3 hn4 hn5 wx h hn)
    have HIm := hide (fun u un wx ht h hn => implPutNode_any u k hsm un lf ks vs cs hn1 hn2 hn3 hn4 hn5 wx ht h hn)
    have HEn := hide (fun u u' wx h h' => eqNode_same u u' lf ks vs cs hn1 hn2 hn3 wx h h')
    have hrs : (putK k lf ks vs cs).small := putK_small hbk
    obtain ⟨kr, hkr⟩ : ∃ kr, kr = putK k lf ks vs cs := ⟨_, rfl⟩
    obtain ⟨pg, hpg⟩ : ∃ pg, pg = putP k lf ks vs cs := ⟨_, rfl⟩
    rw [← hkr, ← hpg] at HSp HIm
    rw [← hkr] at hrs
    have HEx := hide (fun u u' wx h h' => eqWork_same u u' k hsm wx h h')
    have HEr := hide (fun u u' wx h h' => eqWork_same u u' kr hrs wx h h')
    have HMx := hide (fun u B wx h => markWork_any u k B 1 hsm (by omega) (by omega) wx h)
    have HMr := hide (fun u B wx h => markWork_any u kr B 1 hrs (by omega) (by omega) wx h)
    have HHr := hide (fun u wx h => heldWork_any u kr.ps.length kr.ls.length kr.us.length kr.gs.length kr.fs.length 1 kr.next hrs.1 hrs.2.2.1 hrs.2.2.2.2.1 hrs.2.2.2.2.2.1 hrs.2.2.2.2.2.2 (by omega) (by omega) wx h)
    obtain ⟨kx, hkx⟩ : ∃ kx, kx = 1 + k.ps.length + k.ls.length * 2 + k.us.length + k.gs.length + k.fs.length := ⟨_, rfl⟩
    obtain ⟨kz, hkz⟩ : ∃ kz, kz = 1 + kr.ps.length + kr.ls.length * 2 + kr.us.length + kr.gs.length + kr.fs.length := ⟨_, rfl⟩
    rw [← hkx] at HMx
    rw [← hkz] at HMr HHr
    have HKx := hide hkx
    have hkxl : kx ≤ 40000000 := by obtain ⟨q1, -, q3, -, q5, q6, q7⟩ := hsm; omega
    have hkzl : kz ≤ 40000000 := by obtain ⟨q1, -, q3, -, q5, q6, q7⟩ := hrs; omega
    have HMn := hide (fun u B k0 h0 h1 wx h => markNode_any u lf ks vs cs B k0 hn1 hn2 hn3 h0 h1 wx h)
    have hnl : ks.length ≤ 1048576 ∧ vs.length ≤ 1048576 ∧ cs.length ≤ 1048576 := ⟨hn1, hn2, hn3⟩
    clear hsm hrs hbk hr hkr hpg hkx hkz hrk hn1 hn2 hn3 hn4 hn5
    go_enter Tryd.func7, Tryd.ntmps7
    go_wp2_with fail
    rw [← hw0]
    clear hw0
    refine (HSz.out _ (work_below HD.out HB_w0.out)).mono ?_
    rintro e w1 ⟨rfl, hb⟩
    have Hnbx_w1 := hide (held_below Hnbx_w0.out hb)
    have Hbox_w1 := hide (held_below Hbox_w0.out hb)
    have HB_w1 : Hid (Below w.heap.size w w1) := hide (HB_w0.out.trans (hb.mono HB_w0.out.size))
    clear hb
    obtain ⟨ffn0, ffn1, ffn2, ffn3⟩ := blk4h Hnbx_w1.out
    go_wp2_with fail
    clear ffn0 ffn1 ffn2 ffn3
    refine (HSn.out _ hrb _ (node_below HN.out HB_w1.out)).mono ?_
    rintro e w1b ⟨rfl, hb⟩
    rw [szOut_yes hbn]
    have Hnbx_w1b := hide (held_below Hnbx_w1.out hb)
    have Hbox_w1b := hide (held_below Hbox_w1.out hb)
    have HB_w1b : Hid (Below w.heap.size w w1b) := hide (HB_w1.out.trans (hb.mono HB_w1.out.size))
    clear hb
    obtain ⟨r2, hr2⟩ : ∃ r2 : Nat, r2 = r - bulkN ks vs cs := ⟨_, rfl⟩
    have hr2b : r2 ≤ 1048576 := by omega
    rw [← hr2]
    clear hr2 hbn hrb
    obtain ⟨ffb0, ffb1, ffb2, ffb3, ffb4, ffb5⟩ := blk6h Hbox_w1b.out
    obtain ⟨ffn0, ffn1, ffn2, ffn3⟩ := blk4h Hnbx_w1b.out
    go_wp2_with fail
    clear ffb0 ffb1 ffb2 ffb3 ffb4 ffb5 ffn0 ffn1 ffn2 ffn3
    obtain ⟨wd, hwd⟩ : ∃ wd, wd = w1b.drew := ⟨_, rfl⟩
    have hbd : Below w1b.heap.size w1b wd := by rw [hwd]; exact (Below.refl _ _).drew
    have Hnbx_wd := hide (held_below Hnbx_w1b.out hbd)
    have Hbox_wd := hide (held_below Hbox_w1b.out hbd)
    have HB_wd : Hid (Below w.heap.size w wd) := hide (HB_w1b.out.trans (hbd.mono HB_w1b.out.size))
    clear hbd
    have HSx : Hid (∀ wx, Below wd.heap.size wd wx → wx.cell? ⟨w.heap.size, 0, none⟩ = some (vp) ∧ wx.cell? ⟨w.heap.size, 1, none⟩ = some (vl) ∧ wx.cell? ⟨w.heap.size, 2, none⟩ = some (.int .i64 k.next) ∧ wx.cell? ⟨w.heap.size, 3, none⟩ = some (vu) ∧ wx.cell? ⟨w.heap.size, 4, none⟩ = some (vg) ∧ wx.cell? ⟨w.heap.size, 5, none⟩ = some (vf) ∧ wx.cell? ⟨w.heap.size + 1, 0, none⟩ = some (.bool lf) ∧ wx.cell? ⟨w.heap.size + 1, 1, none⟩ = some (nk) ∧ wx.cell? ⟨w.heap.size + 1, 2, none⟩ = some (nv) ∧ wx.cell? ⟨w.heap.size + 1, 3, none⟩ = some (nc)) := hide (fun wx hb => by
      have h1 := (held_below Hbox_wd.out hb).is
      have h2 := (held_below Hnbx_wd.out hb).is
      exact ⟨(cell_at h1 0).1, (cell_at h1 1).1, (cell_at h1 2).1, (cell_at h1 3).1, (cell_at h1 4).1, (cell_at h1 5).1, (cell_at h2 0).1, (cell_at h2 1).1, (cell_at h2 2).1, (cell_at h2 3).1⟩)
    refine wp_region_held_drew (S := fun wx => wx.cell? ⟨w.heap.size, 0, none⟩ = some (vp) ∧ wx.cell? ⟨w.heap.size, 1, none⟩ = some (vl) ∧ wx.cell? ⟨w.heap.size, 2, none⟩ = some (.int .i64 k.next) ∧ wx.cell? ⟨w.heap.size, 3, none⟩ = some (vu) ∧ wx.cell? ⟨w.heap.size, 4, none⟩ = some (vg) ∧ wx.cell? ⟨w.heap.size, 5, none⟩ = some (vf) ∧ wx.cell? ⟨w.heap.size + 1, 0, none⟩ = some (.bool lf) ∧ wx.cell? ⟨w.heap.size + 1, 1, none⟩ = some (nk) ∧ wx.cell? ⟨w.heap.size + 1, 2, none⟩ = some (nv) ∧ wx.cell? ⟨w.heap.size + 1, 3, none⟩ = some (nc)) (by kernel_rfl) (by rw [← hwd]; exact HSx.out _ (Below.refl _ _)) (fun _ => ?_)
    rw [← hwd]
    clear hwd
    refine takeW 0 28 ?_ rfl rfl (by kernel_rfl) (by kernel_rfl) (by kernel_rfl) (fun _ _ _ h => h) (Or.inl ⟨by rfl, ?_⟩) (HSx.out _ (Below.refl _ _)) ?_
    rotate_left
    · (intro wx hSw; (try dsimp only at hSw); go_simp; try with_reducible rfl)
    simp only [List.setIfInBounds_toArray, List.set_cons_zero, List.set_cons_succ]
    refine takeW 2 30 ?_ rfl rfl (by kernel_rfl) (by kernel_rfl) (by kernel_rfl) (fun _ _ _ h => h) (Or.inl ⟨by rfl, ?_⟩) (HSx.out _ (Below.refl _ _)) ?_
    rotate_left
    · (intro wx hSw; (try dsimp only at hSw); go_simp; try with_reducible rfl)
    simp only [List.setIfInBounds_toArray, List.set_cons_zero, List.set_cons_succ]
    refine put_walkT (k := k) (kr := kr) (lf := lf) (ks := ks) (vs := vs) (cs := cs) (pg := pg) 6 27 28 29 30 31 32 33 34 _ ⟨by decide, by decide, by decide, by decide, by decide, by decide, by decide, by decide, by decide, by decide, by decide, by decide, by decide, by decide, by decide, by decide, by decide, by decide, by decide, by decide, by decide⟩ rfl rfl rfl rfl rfl rfl rfl rfl rfl (by decide) (by decide) (by decide) (by decide) (by decide) (by decide) (by decide) (by decide) (by decide) (by decide) (by decide) (by decide) (by decide) (by decide) (fun W hl => HSx.out W hl) (fun _ _ _ _ h => h) (fun _ _ _ _ h => h) (fun _ _ _ _ h => h) 29 30 28 Tryd.func29 Tryd.func30 Tryd.func28 (by decide) (by decide) (by decide) (Option.some_ne_none _) (Option.some_ne_none _) (Option.some_ne_none _) #[48] #[50] #[54, 58] (fun W hl => HTo.out W (work_below HD.out (HB_wd.out.trans (hl.mono HB_wd.out.size)))) (fun W hl => HTn.out W (node_below HN.out (HB_wd.out.trans (hl.mono HB_wd.out.size)))) (fun W u un hl h hn => HSp.out u un W h hn) rfl rfl rfl rfl rfl rfl rfl rfl rfl rfl rfl rfl rfl rfl rfl rfl rfl rfl rfl rfl rfl rfl rfl rfl rfl rfl rfl rfl (by kernel_rfl) (by kernel_rfl) (by kernel_rfl) (by kernel_rfl) (by kernel_rfl) (by kernel_rfl) (by kernel_rfl) (by kernel_rfl) (by kernel_rfl) (by kernel_rfl) (by kernel_rfl) (by kernel_rfl) (by kernel_rfl) (by kernel_rfl) (by kernel_rfl) (by kernel_rfl) (by kernel_rfl) (by kernel_rfl) (by kernel_rfl) (by kernel_rfl) ?_
    intro wW g4 u tq1 tq2 hl hu hgb hg0 hne
    simp only [ch, List.setIfInBounds_toArray, List.set_cons_zero, List.set_cons_succ]
    obtain ⟨xa4, ca4, xb4, cb4, xc4, cc4, xd4, cd4, xe4, ce4, rfl⟩ := work_form hu
    obtain ⟨rr0, rr1, rr2, rr3, rr4, rr5⟩ := blk6c hgb
    have zz0 := (cell_at hgb 0).2
    have zz1 := (cell_at hgb 1).2
    have zz2 := (cell_at hgb 2).2
    have zz3 := (cell_at hgb 3).2
    have zz4 := (cell_at hgb 4).2
    have zz5 := (cell_at hgb 5).2
    obtain ⟨w4, hw4⟩ : ∃ w4, w4 = set6 wW g4 (.slice xa4 kr.ps.length ca4) (.slice xb4 kr.ls.length cb4) (.int .i64 kr.next) (.slice xc4 kr.us.length cc4) (.slice xd4 kr.gs.length cd4) (.slice xe4 kr.fs.length ce4) := ⟨_, rfl⟩
    have hk4 : Kept wW w4 (fun j => j = g4) := by rw [hw4]; exact set6_kept _ _ _ _ _ _ _ _
    have hb4 : Below wd.heap.size wd w4 := hl.trans (below_of_kept hk4 hl.size (fun j e => by omega))
    have Hd4_w4 := hide (held_work (workOwn_kept hu hk4 (fun j hj => hne j hj)))
    have Hg4_w4 : Hid (Held w4 g4 (g4 + 1) (IsBlk g4 #[.slice xa4 kr.ps.length ca4, .slice xb4 kr.ls.length cb4, .int .i64 kr.next, .slice xc4 kr.us.length cc4, .slice xd4 kr.gs.length cd4, .slice xe4 kr.fs.length ce4] 54)) := hide (held_blk (by rw [hw4]; exact set6_blk hgb))
    have HG4 : Hid (wd.heap.size ≤ g4) := hide hg0
    have Hnbx_w4 := hide (held_below Hnbx_wd.out hb4)
    have Hbox_w4 := hide (held_below Hbox_wd.out hb4)
    have HB_w4 : Hid (Below w.heap.size w w4) := hide (HB_wd.out.trans (hb4.mono HB_wd.out.size))
    have HS4 := hide (HSx.out w4 hb4)
    have HW4 := hide hw4
    rw [hw4] at HS4
    clear hl hu hgb hg0 hne hk4 hb4 hw4
    refine wpAnyH_ready (rs := [9]) (by kernel_rfl) (by simp) ?_
    refine AllReadyH.cons rfl (fun K hK => ?_) AllReadyH.nil
    go_simp
    refine hK.out _ _ HS4.out (fun _ => ?_)
    clear hK K rr0 rr1 rr2 rr3 rr4 rr5 zz0 zz1 zz2 zz3 zz4 zz5
    refine takeW 10 7 ?_ rfl rfl (by kernel_rfl) (by kernel_rfl) (by kernel_rfl) (fun _ _ _ h => h) (Or.inl ⟨by rfl, ?_⟩) HS4.out ?_
    rotate_left
    · (intro wx hSw; (try dsimp only at hSw); go_simp; try with_reducible rfl)
    simp only [List.setIfInBounds_toArray, List.set_cons_zero, List.set_cons_succ]
    refine wpAnyH_done (by kernel_rfl) ?_ _
    have hw4 : w4 = ((((((wW.setCell ⟨g4, 0, none⟩ (.slice xa4 kr.ps.length ca4)).setCell ⟨g4, 1, none⟩ (.slice xb4 kr.ls.length cb4)).setCell ⟨g4, 2, none⟩ (.int .i64 kr.next)).setCell ⟨g4, 3, none⟩ (.slice xc4 kr.us.length cc4)).setCell ⟨g4, 4, none⟩ (.slice xd4 kr.gs.length cd4)).setCell ⟨g4, 5, none⟩ (.slice xe4 kr.fs.length ce4)) := HW4.out
    rw [← hw4]
    clear hw4
    clear HS4 HW4 HSx
    obtain ⟨ffb0, ffb1, ffb2, ffb3, ffb4, ffb5⟩ := blk6h Hbox_w4.out
    go_wp2_with fail
    clear ffb0 ffb1 ffb2 ffb3 ffb4 ffb5
    refine (HTo.out _ (work_below HD.out HB_w4.out)).mono ?_
    rintro e w5 ⟨u5, rfl, hown, hb⟩
    have HZ5 : Hid (w4.heap.size ≤ w5.heap.size) := hide hb.size
    have Hnbx_w5 := hide (held_below Hnbx_w4.out hb)
    have Hbox_w5 := hide (held_below Hbox_w4.out hb)
    have Hd4_w5 := hide (held_below Hd4_w4.out hb)
    have Hg4_w5 := hide (held_below Hg4_w4.out hb)
    have HB_w5 : Hid (Below w.heap.size w w5) := hide (HB_w4.out.trans (hb.mono HB_w4.out.size))
    clear hb
    have Hd5_w5 := hide (held_work hown)
    obtain ⟨xa5, ca5, xb5, cb5, xc5, cc5, xd5, cd5, xe5, ce5, rfl⟩ := work_form hown
    clear hown
    obtain ⟨g5, hg⟩ : ∃ g, g = w5.heap.size := ⟨_, rfl⟩
    obtain ⟨w6, hnw⟩ : ∃ wx, wx = w5.alloc (Obj.cells #[.slice xa5 k.ps.length ca5, .slice xb5 k.ls.length cb5, .int .i64 k.next, .slice xc5 k.us.length cc5, .slice xd5 k.gs.length cd5, .slice xe5 k.fs.length ce5] 54) := ⟨_, rfl⟩
    have hnv := new_blk w5 #[.slice xa5 k.ps.length ca5, .slice xb5 k.ls.length cb5, .int .i64 k.next, .slice xc5 k.us.length cc5, .slice xd5 k.gs.length cd5, .slice xe5 k.fs.length ce5] 54
    rw [← hnw, ← hg] at hnv
    have hbv : Below w5.heap.size w5 w6 := by rw [← hg]; exact hnv.1
    have Hg5_w6 := hide hnv.2
    have Hgt5 : Hid (w5.heap.size = g5) := hide hg.symm
    have Hnbx_w6 := hide (held_below Hnbx_w5.out hbv)
    have Hbox_w6 := hide (held_below Hbox_w5.out hbv)
    have Hd4_w6 := hide (held_below Hd4_w5.out hbv)
    have Hg4_w6 := hide (held_below Hg4_w5.out hbv)
    have Hd5_w6 := hide (held_below Hd5_w5.out hbv)
    have HB_w6 : Hid (Below w.heap.size w w6) := hide (HB_w5.out.trans (hbv.mono HB_w5.out.size))
    clear hnv hbv
    obtain ⟨ffn0, ffn1, ffn2, ffn3⟩ := blk4h Hnbx_w6.out
    rw [hnw] at ffn0 ffn1 ffn2 ffn3
    go_wp2_with fail
    rw [← hnw, ← hg]
    clear hnw hg ffn0 ffn1 ffn2 ffn3
    refine (HTn.out _ (node_below HN.out HB_w6.out)).mono ?_
    rintro e w6n ⟨un6, rfl, hown, hb⟩
    have HZ6n : Hid (w6.heap.size ≤ w6n.heap.size) := hide hb.size
    have Hnbx_w6n := hide (held_below Hnbx_w6.out hb)
    have Hbox_w6n := hide (held_below Hbox_w6.out hb)
    have Hd4_w6n := hide (held_below Hd4_w6.out hb)
    have Hg4_w6n := hide (held_below Hg4_w6.out hb)
    have Hd5_w6n := hide (held_below Hd5_w6.out hb)
    have Hg5_w6n := hide (held_below Hg5_w6.out hb)
    have HB_w6n : Hid (Below w.heap.size w w6n) := hide (HB_w6.out.trans (hb.mono HB_w6.out.size))
    clear hb
    have Hdn_w6n := hide (held_node hown)
    obtain ⟨y1, z1, y2, z2, y3, z3, rfl⟩ := node_form hown
    clear hown
    obtain ⟨gn, hg⟩ : ∃ g, g = w6n.heap.size := ⟨_, rfl⟩
    obtain ⟨w6v, hnw⟩ : ∃ wx, wx = w6n.alloc (Obj.cells #[.bool lf, .slice y1 ks.length z1, .slice y2 vs.length z2, .slice y3 cs.length z3] 58) := ⟨_, rfl⟩
    have hnv := new_blk w6n #[.bool lf, .slice y1 ks.length z1, .slice y2 vs.length z2, .slice y3 cs.length z3] 58
    rw [← hnw, ← hg] at hnv
    have hbv : Below w6n.heap.size w6n w6v := by rw [← hg]; exact hnv.1
    have Hgn_w6v := hide hnv.2
    have Hgtn : Hid (w6n.heap.size = gn) := hide hg.symm
    have Hnbx_w6v := hide (held_below Hnbx_w6n.out hbv)
    have Hbox_w6v := hide (held_below Hbox_w6n.out hbv)
    have Hd4_w6v := hide (held_below Hd4_w6n.out hbv)
    have Hg4_w6v := hide (held_below Hg4_w6n.out hbv)
    have Hd5_w6v := hide (held_below Hd5_w6n.out hbv)
    have Hg5_w6v := hide (held_below Hg5_w6n.out hbv)
    have Hdn_w6v := hide (held_below Hdn_w6n.out hbv)
    have HB_w6v : Hid (Below w.heap.size w w6v) := hide (HB_w6n.out.trans (hbv.mono HB_w6n.out.size))
    clear hnv hbv
    have HDx := hide (work_of_own Hd5_w6v.out.is.1)
    have HNx := hide (node_of_own Hdn_w6v.out.is.1)
    have HTx := hide (sumTab_below HT.out HB_w6v.out)
    obtain ⟨ffx0, ffx1, ffx2, ffx3, ffx4, ffx5⟩ := blk6h Hg5_w6v.out
    rw [hnw] at ffx0 ffx1 ffx2 ffx3 ffx4 ffx5
    go_wp2_with fail
    rw [← hnw, ← hg]
    clear hnw hg ffx0 ffx1 ffx2 ffx3 ffx4 ffx5
    refine (HIm.out _ _ _ HTx.out HDx.out HNx.out).mono ?_
    rintro e w7 ⟨u7, rfl, hown, hb⟩
    have HZ7 : Hid (w6v.heap.size ≤ w7.heap.size) := hide hb.size
    have Hnbx_w7 := hide (held_below Hnbx_w6v.out hb)
    have Hbox_w7 := hide (held_below Hbox_w6v.out hb)
    have Hd4_w7 := hide (held_below Hd4_w6v.out hb)
    have Hg4_w7 := hide (held_below Hg4_w6v.out hb)
    have Hd5_w7 := hide (held_below Hd5_w6v.out hb)
    have Hg5_w7 := hide (held_below Hg5_w6v.out hb)
    have Hdn_w7 := hide (held_below Hdn_w6v.out hb)
    have Hgn_w7 := hide (held_below Hgn_w6v.out hb)
    have HB_w7 : Hid (Below w.heap.size w w7) := hide (HB_w6v.out.trans (hb.mono HB_w6v.out.size))
    clear hb HDx HNx HTx
    have Hd6_w7 := hide (held_work hown)
    obtain ⟨xa6, ca6, xb6, cb6, xc6, cc6, xd6, cd6, xe6, ce6, rfl⟩ := work_form hown
    clear hown
    obtain ⟨g6, hg⟩ : ∃ g, g = w7.heap.size := ⟨_, rfl⟩
    obtain ⟨w8, hnw⟩ : ∃ wx, wx = w7.alloc (Obj.cells #[.slice xa6 kr.ps.length ca6, .slice xb6 kr.ls.length cb6, .int .i64 kr.next, .slice xc6 kr.us.length cc6, .slice xd6 kr.gs.length cd6, .slice xe6 kr.fs.length ce6] 54) := ⟨_, rfl⟩
    have hnv := new_blk w7 #[.slice xa6 kr.ps.length ca6, .slice xb6 kr.ls.length cb6, .int .i64 kr.next, .slice xc6 kr.us.length cc6, .slice xd6 kr.gs.length cd6, .slice xe6 kr.fs.length ce6] 54
    rw [← hnw, ← hg] at hnv
    have hbv : Below w7.heap.size w7 w8 := by rw [← hg]; exact hnv.1
    have Hg6_w8 := hide hnv.2
    have Hgt6 : Hid (w7.heap.size = g6) := hide hg.symm
    have Hnbx_w8 := hide (held_below Hnbx_w7.out hbv)
    have Hbox_w8 := hide (held_below Hbox_w7.out hbv)
    have Hd4_w8 := hide (held_below Hd4_w7.out hbv)
    have Hg4_w8 := hide (held_below Hg4_w7.out hbv)
    have Hd5_w8 := hide (held_below Hd5_w7.out hbv)
    have Hg5_w8 := hide (held_below Hg5_w7.out hbv)
    have Hdn_w8 := hide (held_below Hdn_w7.out hbv)
    have Hgn_w8 := hide (held_below Hgn_w7.out hbv)
    have Hd6_w8 := hide (held_below Hd6_w7.out hbv)
    have HB_w8 : Hid (Below w.heap.size w w8) := hide (HB_w7.out.trans (hbv.mono HB_w7.out.size))
    clear hnv hbv
    obtain ⟨ffk0, ffk1, ffk2, ffk3, ffk4, ffk5⟩ := blk6h Hg4_w8.out
    rw [hnw] at ffk0 ffk1 ffk2 ffk3 ffk4 ffk5
    go_wp2_with fail
    rw [← hnw, ← hg]
    clear hnw hg ffk0 ffk1 ffk2 ffk3 ffk4 ffk5
    refine (HEr.out _ _ _ (work_of_own Hd6_w8.out.is.1) (work_of_own Hd4_w8.out.is.1)).mono ?_
    rintro e w9 ⟨rfl, hb⟩
    have Hnbx_w9 := hide (held_below Hnbx_w8.out hb)
    have Hbox_w9 := hide (held_below Hbox_w8.out hb)
    have Hd4_w9 := hide (held_below Hd4_w8.out hb)
    have Hg4_w9 := hide (held_below Hg4_w8.out hb)
    have Hd5_w9 := hide (held_below Hd5_w8.out hb)
    have Hg5_w9 := hide (held_below Hg5_w8.out hb)
    have Hdn_w9 := hide (held_below Hdn_w8.out hb)
    have Hgn_w9 := hide (held_below Hgn_w8.out hb)
    have Hd6_w9 := hide (held_below Hd6_w8.out hb)
    have Hg6_w9 := hide (held_below Hg6_w8.out hb)
    have HB_w9 : Hid (Below w.heap.size w w9) := hide (HB_w8.out.trans (hb.mono HB_w8.out.size))
    clear hb
    obtain ⟨ffb0, ffb1, ffb2, ffb3, ffb4, ffb5⟩ := blk6h Hbox_w9.out
    obtain ⟨ffx0, ffx1, ffx2, ffx3, ffx4, ffx5⟩ := blk6h Hg5_w9.out
    go_wp2_with fail
    have hSall : ∀ wx, Below w9.heap.size w9 wx → wx.cell? ⟨w.heap.size, 0, none⟩ = some (vp) ∧ wx.cell? ⟨w.heap.size, 1, none⟩ = some (vl) ∧ wx.cell? ⟨w.heap.size, 2, none⟩ = some (.int .i64 k.next) ∧ wx.cell? ⟨w.heap.size, 3, none⟩ = some (vu) ∧ wx.cell? ⟨w.heap.size, 4, none⟩ = some (vg) ∧ wx.cell? ⟨w.heap.size, 5, none⟩ = some (vf) ∧ wx.cell? ⟨g5, 0, none⟩ = some (.slice xa5 k.ps.length ca5) ∧ wx.cell? ⟨g5, 1, none⟩ = some (.slice xb5 k.ls.length cb5) ∧ wx.cell? ⟨g5, 2, none⟩ = some (.int .i64 k.next) ∧ wx.cell? ⟨g5, 3, none⟩ = some (.slice xc5 k.us.length cc5) ∧ wx.cell? ⟨g5, 4, none⟩ = some (.slice xd5 k.gs.length cd5) ∧ wx.cell? ⟨g5, 5, none⟩ = some (.slice xe5 k.fs.length ce5) := fun wx hb => by
      have h1 := (held_below Hbox_w9.out hb).is
      have h2 := (held_below Hg5_w9.out hb).is
      exact ⟨(cell_at h1 0).1, (cell_at h1 1).1, (cell_at h1 2).1, (cell_at h1 3).1, (cell_at h1 4).1, (cell_at h1 5).1, (cell_at h2 0).1, (cell_at h2 1).1, (cell_at h2 2).1, (cell_at h2 3).1, (cell_at h2 4).1, (cell_at h2 5).1⟩
    have HSall := hide hSall
    have hS0 := HSall.out w9 (Below.refl _ _)
    clear hSall ffb0 ffb1 ffb2 ffb3 ffb4 ffb5 ffx0 ffx1 ffx2 ffx3 ffx4 ffx5
    go_region_held3 (fun wx => wx.cell? ⟨w.heap.size, 0, none⟩ = some (vp) ∧ wx.cell? ⟨w.heap.size, 1, none⟩ = some (vl) ∧ wx.cell? ⟨w.heap.size, 2, none⟩ = some (.int .i64 k.next) ∧ wx.cell? ⟨w.heap.size, 3, none⟩ = some (vu) ∧ wx.cell? ⟨w.heap.size, 4, none⟩ = some (vg) ∧ wx.cell? ⟨w.heap.size, 5, none⟩ = some (vf) ∧ wx.cell? ⟨g5, 0, none⟩ = some (.slice xa5 k.ps.length ca5) ∧ wx.cell? ⟨g5, 1, none⟩ = some (.slice xb5 k.ls.length cb5) ∧ wx.cell? ⟨g5, 2, none⟩ = some (.int .i64 k.next) ∧ wx.cell? ⟨g5, 3, none⟩ = some (.slice xc5 k.us.length cc5) ∧ wx.cell? ⟨g5, 4, none⟩ = some (.slice xd5 k.gs.length cd5) ∧ wx.cell? ⟨g5, 5, none⟩ = some (.slice xe5 k.fs.length ce5)) (first | exact hS0 | exact hS8 | exact hS9) (first | (go_at_call 29; refine (HTo.out _ ?_).mono ?_; exact work_below HD.out HB_w9.out.drew; rintro e w10 ⟨u10, rfl, hown, hbA⟩; have hA8 : Below w9.heap.size w9 w10 := (Below.refl _ _).drew.trans hbA; have hS8 := HSall.out _ hA8) | (go_at_call 32; refine (HEx.out _ _ _ ?_ ?_).mono ?_; exact work_below (work_of_own Hd5_w9.out.is.1) hA8; exact work_of_own hown; rintro e w11 ⟨rfl, hbC⟩; have hA9 : Below w9.heap.size w9 w11 := hA8.trans (hbC.mono hA8.size); have hS9 := HSall.out _ hA9))
    have hb := hA9
    have Hnbx_w11 := hide (held_below Hnbx_w9.out hb)
    have Hbox_w11 := hide (held_below Hbox_w9.out hb)
    have Hd4_w11 := hide (held_below Hd4_w9.out hb)
    have Hg4_w11 := hide (held_below Hg4_w9.out hb)
    have Hd5_w11 := hide (held_below Hd5_w9.out hb)
    have Hg5_w11 := hide (held_below Hg5_w9.out hb)
    have Hdn_w11 := hide (held_below Hdn_w9.out hb)
    have Hgn_w11 := hide (held_below Hgn_w9.out hb)
    have Hd6_w11 := hide (held_below Hd6_w9.out hb)
    have Hg6_w11 := hide (held_below Hg6_w9.out hb)
    have HB_w11 : Hid (Below w.heap.size w w11) := hide (HB_w9.out.trans (hb.mono HB_w9.out.size))
    clear hb hA8 hA9 hbA hbC hown hS0 hS8 hS9 HSall
    obtain ⟨ffb0, ffb1, ffb2, ffb3⟩ := blk4h Hnbx_w11.out
    obtain ⟨ffx0, ffx1, ffx2, ffx3⟩ := blk4h Hgn_w11.out
    go_wp2_with fail
    have hSall : ∀ wx, Below w11.heap.size w11 wx → wx.cell? ⟨w.heap.size + 1, 0, none⟩ = some (.bool lf) ∧ wx.cell? ⟨w.heap.size + 1, 1, none⟩ = some (nk) ∧ wx.cell? ⟨w.heap.size + 1, 2, none⟩ = some (nv) ∧ wx.cell? ⟨w.heap.size + 1, 3, none⟩ = some (nc) ∧ wx.cell? ⟨gn, 0, none⟩ = some (.bool lf) ∧ wx.cell? ⟨gn, 1, none⟩ = some (.slice y1 ks.length z1) ∧ wx.cell? ⟨gn, 2, none⟩ = some (.slice y2 vs.length z2) ∧ wx.cell? ⟨gn, 3, none⟩ = some (.slice y3 cs.length z3) := fun wx hb => by
      have h1 := (held_below Hnbx_w11.out hb).is
      have h2 := (held_below Hgn_w11.out hb).is
      exact ⟨(cell_at h1 0).1, (cell_at h1 1).1, (cell_at h1 2).1, (cell_at h1 3).1, (cell_at h2 0).1, (cell_at h2 1).1, (cell_at h2 2).1, (cell_at h2 3).1⟩
    have HSall := hide hSall
    have hS0 := HSall.out w11 (Below.refl _ _)
    clear hSall ffb0 ffb1 ffb2 ffb3 ffx0 ffx1 ffx2 ffx3
    go_region_held3 (fun wx => wx.cell? ⟨w.heap.size + 1, 0, none⟩ = some (.bool lf) ∧ wx.cell? ⟨w.heap.size + 1, 1, none⟩ = some (nk) ∧ wx.cell? ⟨w.heap.size + 1, 2, none⟩ = some (nv) ∧ wx.cell? ⟨w.heap.size + 1, 3, none⟩ = some (nc) ∧ wx.cell? ⟨gn, 0, none⟩ = some (.bool lf) ∧ wx.cell? ⟨gn, 1, none⟩ = some (.slice y1 ks.length z1) ∧ wx.cell? ⟨gn, 2, none⟩ = some (.slice y2 vs.length z2) ∧ wx.cell? ⟨gn, 3, none⟩ = some (.slice y3 cs.length z3)) (first | exact hS0 | exact hS8 | exact hS9) (first | (go_at_call 30; refine (HTn.out _ ?_).mono ?_; exact node_below HN.out HB_w11.out.drew; rintro e w10n ⟨u10, rfl, hown, hbA⟩; have hA8 : Below w11.heap.size w11 w10n := (Below.refl _ _).drew.trans hbA; have hS8 := HSall.out _ hA8) | (go_at_call 33; refine (HEn.out _ _ _ ?_ ?_).mono ?_; exact node_below (node_of_own Hdn_w11.out.is.1) hA8; exact node_of_own hown; rintro e w11n ⟨rfl, hbC⟩; have hA9 : Below w11.heap.size w11 w11n := hA8.trans (hbC.mono hA8.size); have hS9 := HSall.out _ hA9))
    have hb := hA9
    have Hnbx_w11n := hide (held_below Hnbx_w11.out hb)
    have Hbox_w11n := hide (held_below Hbox_w11.out hb)
    have Hd4_w11n := hide (held_below Hd4_w11.out hb)
    have Hg4_w11n := hide (held_below Hg4_w11.out hb)
    have Hd5_w11n := hide (held_below Hd5_w11.out hb)
    have Hg5_w11n := hide (held_below Hg5_w11.out hb)
    have Hdn_w11n := hide (held_below Hdn_w11.out hb)
    have Hgn_w11n := hide (held_below Hgn_w11.out hb)
    have Hd6_w11n := hide (held_below Hd6_w11.out hb)
    have Hg6_w11n := hide (held_below Hg6_w11.out hb)
    have HB_w11n : Hid (Below w.heap.size w w11n) := hide (HB_w11.out.trans (hb.mono HB_w11.out.size))
    clear hb hA8 hA9 hbA hbC hown hS0 hS8 hS9 HSall
    have HL : Hid (w.heap.size + 2 ≤ wd.heap.size ∧ wd.heap.size ≤ g4 ∧ g4 + 1 ≤ w4.heap.size ∧ w4.heap.size ≤ w5.heap.size ∧ w5.heap.size = g5 ∧ g5 + 1 ≤ w6.heap.size ∧ w6.heap.size ≤ w6n.heap.size ∧ w6n.heap.size = gn ∧ gn + 1 ≤ w6v.heap.size ∧ w6v.heap.size ≤ w7.heap.size ∧ w7.heap.size = g6) := hide ⟨Hnbx_wd.out.le, HG4.out, Hg4_w4.out.le, HZ5.out, Hgt5.out, Hg5_w6.out.le, HZ6n.out, Hgtn.out, Hgn_w6v.out.le, HZ7.out, Hgt6.out⟩
    obtain ⟨ffx0, ffx1, ffx2, ffx3, ffx4, ffx5⟩ := blk6h Hg5_w11n.out
    go_wp2_with fail
    clear ffx0 ffx1 ffx2 ffx3 ffx4 ffx5
    have hin5 : ∀ j, workBlocks (.agg #[.slice xa5 k.ps.length ca5, .slice xb5 k.ls.length cb5, .int .i64 k.next, .slice xc5 k.us.length cc5, .slice xd5 k.gs.length cd5, .slice xe5 k.fs.length ce5]) j → w4.heap.size ≤ j ∧ j < w5.heap.size := fun j h => ⟨(workOwn_lt Hd5_w11n.out.is.1 j h).1, Hd5_w11n.out.is.2 j h⟩
    refine (HMx.out _ _ _ Hd5_w11n.out.is.1).mono ?_
    rintro e w12 ⟨rfl, hownM, hk⟩
    have Hnbx_w12 := hide (held_kept Hnbx_w11n.out hk (fun k h1 h2 h => by have h3 := hin5 k h; have h4 := HL.out; omega))
    have Hbox_w12 := hide (held_kept Hbox_w11n.out hk (fun k h1 h2 h => by have h3 := hin5 k h; have h4 := HL.out; omega))
    have Hd4_w12 := hide (held_kept Hd4_w11n.out hk (fun k h1 h2 h => by have h3 := hin5 k h; have h4 := HL.out; omega))
    have Hg4_w12 := hide (held_kept Hg4_w11n.out hk (fun k h1 h2 h => by have h3 := hin5 k h; have h4 := HL.out; omega))
    have Hg5_w12 := hide (held_kept Hg5_w11n.out hk (fun k h1 h2 h => by have h3 := hin5 k h; have h4 := HL.out; omega))
    have Hdn_w12 := hide (held_kept Hdn_w11n.out hk (fun k h1 h2 h => by have h3 := hin5 k h; have h4 := HL.out; omega))
    have Hgn_w12 := hide (held_kept Hgn_w11n.out hk (fun k h1 h2 h => by have h3 := hin5 k h; have h4 := HL.out; omega))
    have Hd6_w12 := hide (held_kept Hd6_w11n.out hk (fun k h1 h2 h => by have h3 := hin5 k h; have h4 := HL.out; omega))
    have Hg6_w12 := hide (held_kept Hg6_w11n.out hk (fun k h1 h2 h => by have h3 := hin5 k h; have h4 := HL.out; omega))
    have HB_w12 : Hid (Below w.heap.size w w12) := hide (HB_w11n.out.trans (below_of_kept hk HB_w11n.out.size (fun k h => by have h3 := hin5 k h; have h4 := HL.out; omega)))
    clear hk hownM hin5
    obtain ⟨ffx0, ffx1, ffx2, ffx3⟩ := blk4h Hgn_w12.out
    go_wp2_with fail
    clear ffx0 ffx1 ffx2 ffx3
    have hinn : ∀ j, nodeBlocks (.agg #[.bool lf, .slice y1 ks.length z1, .slice y2 vs.length z2, .slice y3 cs.length z3]) j → w6.heap.size ≤ j ∧ j < w6n.heap.size := fun j h => ⟨(nodeOwn_lt Hdn_w12.out.is.1 j h).1, Hdn_w12.out.is.2 j h⟩
    obtain ⟨ky, hky⟩ : ∃ ky, ky = kx + ks.length + vs.length + cs.length := ⟨_, rfl⟩
    have hkyl : ky ≤ 80000000 := by omega
    have hkx0 : 0 < kx := by rw [HKx.out]; omega
    refine (HMn.out _ _ kx hkx0 (by omega) _ Hdn_w12.out.is.1).mono ?_
    rintro e w12n ⟨rfl, hownM, hk⟩
    rw [← hky]
    have Hnbx_w12n := hide (held_kept Hnbx_w12.out hk (fun k h1 h2 h => by have h3 := hinn k h; have h4 := HL.out; omega))
    have Hbox_w12n := hide (held_kept Hbox_w12.out hk (fun k h1 h2 h => by have h3 := hinn k h; have h4 := HL.out; omega))
    have Hd4_w12n := hide (held_kept Hd4_w12.out hk (fun k h1 h2 h => by have h3 := hinn k h; have h4 := HL.out; omega))
    have Hg4_w12n := hide (held_kept Hg4_w12.out hk (fun k h1 h2 h => by have h3 := hinn k h; have h4 := HL.out; omega))
    have Hg5_w12n := hide (held_kept Hg5_w12.out hk (fun k h1 h2 h => by have h3 := hinn k h; have h4 := HL.out; omega))
    have Hgn_w12n := hide (held_kept Hgn_w12.out hk (fun k h1 h2 h => by have h3 := hinn k h; have h4 := HL.out; omega))
    have Hd6_w12n := hide (held_kept Hd6_w12.out hk (fun k h1 h2 h => by have h3 := hinn k h; have h4 := HL.out; omega))
    have Hg6_w12n := hide (held_kept Hg6_w12.out hk (fun k h1 h2 h => by have h3 := hinn k h; have h4 := HL.out; omega))
    have HB_w12n : Hid (Below w.heap.size w w12n) := hide (HB_w12.out.trans (below_of_kept hk HB_w12.out.size (fun k h => by have h3 := hinn k h; have h4 := HL.out; omega)))
    clear hk hownM hinn hky hkx0
    obtain ⟨ffg0, ffg1, ffg2, ffg3, ffg4, ffg5⟩ := blk6h Hg6_w12n.out
    obtain ⟨ffk0, ffk1, ffk2, ffk3, ffk4, ffk5⟩ := blk6h Hg4_w12n.out
    go_wp2_with fail
    clear ffg0 ffg1 ffg2 ffg3 ffg4 ffg5 ffk0 ffk1 ffk2 ffk3 ffk4 ffk5
    refine (HEr.out _ _ _ (work_of_own Hd6_w12n.out.is.1) (work_of_own Hd4_w12n.out.is.1)).mono ?_
    rintro e w13 ⟨rfl, hb⟩
    have Hnbx_w13 := hide (held_below Hnbx_w12n.out hb)
    have Hbox_w13 := hide (held_below Hbox_w12n.out hb)
    have Hd4_w13 := hide (held_below Hd4_w12n.out hb)
    have Hg4_w13 := hide (held_below Hg4_w12n.out hb)
    have Hg5_w13 := hide (held_below Hg5_w12n.out hb)
    have Hgn_w13 := hide (held_below Hgn_w12n.out hb)
    have Hd6_w13 := hide (held_below Hd6_w12n.out hb)
    have Hg6_w13 := hide (held_below Hg6_w12n.out hb)
    have HB_w13 : Hid (Below w.heap.size w w13) := hide (HB_w12n.out.trans (hb.mono HB_w12n.out.size))
    clear hb
    obtain ⟨ffg0, ffg1, ffg2, ffg3, ffg4, ffg5⟩ := blk6h Hg6_w13.out
    go_wp2_with fail
    clear ffg0 ffg1 ffg2 ffg3 ffg4 ffg5
    have hin6 : ∀ j, workBlocks (.agg #[.slice xa6 kr.ps.length ca6, .slice xb6 kr.ls.length cb6, .int .i64 kr.next, .slice xc6 kr.us.length cc6, .slice xd6 kr.gs.length cd6, .slice xe6 kr.fs.length ce6]) j → w6v.heap.size ≤ j ∧ j < w7.heap.size := fun j h => ⟨(workOwn_lt Hd6_w13.out.is.1 j h).1, Hd6_w13.out.is.2 j h⟩
    refine (HMr.out _ _ _ Hd6_w13.out.is.1).mono ?_
    rintro e w14 ⟨rfl, hownM, hk⟩
    have HdM_w14 := hide (held_workA Hd6_w13.out hownM hk.2.2.2.1)
    have Hnbx_w14 := hide (held_kept Hnbx_w13.out hk (fun k h1 h2 h => by have h3 := hin6 k h; have h4 := HL.out; omega))
    have Hbox_w14 := hide (held_kept Hbox_w13.out hk (fun k h1 h2 h => by have h3 := hin6 k h; have h4 := HL.out; omega))
    have Hd4_w14 := hide (held_kept Hd4_w13.out hk (fun k h1 h2 h => by have h3 := hin6 k h; have h4 := HL.out; omega))
    have Hg4_w14 := hide (held_kept Hg4_w13.out hk (fun k h1 h2 h => by have h3 := hin6 k h; have h4 := HL.out; omega))
    have Hg5_w14 := hide (held_kept Hg5_w13.out hk (fun k h1 h2 h => by have h3 := hin6 k h; have h4 := HL.out; omega))
    have Hgn_w14 := hide (held_kept Hgn_w13.out hk (fun k h1 h2 h => by have h3 := hin6 k h; have h4 := HL.out; omega))
    have Hg6_w14 := hide (held_kept Hg6_w13.out hk (fun k h1 h2 h => by have h3 := hin6 k h; have h4 := HL.out; omega))
    have HB_w14 : Hid (Below w.heap.size w w14) := hide (HB_w13.out.trans (below_of_kept hk HB_w13.out.size (fun k h => by have h3 := hin6 k h; have h4 := HL.out; omega)))
    clear hk hownM hin6
    obtain ⟨ffg0, ffg1, ffg2, ffg3, ffg4, ffg5⟩ := blk6h Hg6_w14.out
    go_wp2_with fail
    clear ffg0 ffg1 ffg2 ffg3 ffg4 ffg5
    refine (HHr.out _ _ (work_of_own HdM_w14.out.is.1)).mono ?_
    rintro e w15 ⟨rfl, hb⟩
    have Hnbx_w15 := hide (held_below Hnbx_w14.out hb)
    have Hbox_w15 := hide (held_below Hbox_w14.out hb)
    have Hd4_w15 := hide (held_below Hd4_w14.out hb)
    have Hg4_w15 := hide (held_below Hg4_w14.out hb)
    have Hg5_w15 := hide (held_below Hg5_w14.out hb)
    have Hgn_w15 := hide (held_below Hgn_w14.out hb)
    have Hg6_w15 := hide (held_below Hg6_w14.out hb)
    have HdM_w15 := hide (held_below HdM_w14.out hb)
    have HB_w15 : Hid (Below w.heap.size w w15) := hide (HB_w14.out.trans (hb.mono HB_w14.out.size))
    clear hb
    obtain ⟨ffb0, ffb1, ffb2, ffb3, ffb4, ffb5⟩ := blk6h Hbox_w15.out
    obtain ⟨ffn0, ffn1, ffn2, ffn3⟩ := blk4h Hnbx_w15.out
    go_wp2_with fail
    clear ffb0 ffb1 ffb2 ffb3 ffb4 ffb5 ffn0 ffn1 ffn2 ffn3
    obtain ⟨we, hwd⟩ : ∃ wd, wd = w15.drew := ⟨_, rfl⟩
    have hbd : Below w15.heap.size w15 we := by rw [hwd]; exact (Below.refl _ _).drew
    have Hnbx_we := hide (held_below Hnbx_w15.out hbd)
    have Hbox_we := hide (held_below Hbox_w15.out hbd)
    have Hd4_we := hide (held_below Hd4_w15.out hbd)
    have Hg4_we := hide (held_below Hg4_w15.out hbd)
    have Hg5_we := hide (held_below Hg5_w15.out hbd)
    have Hgn_we := hide (held_below Hgn_w15.out hbd)
    have Hg6_we := hide (held_below Hg6_w15.out hbd)
    have HdM_we := hide (held_below HdM_w15.out hbd)
    have HB_we : Hid (Below w.heap.size w we) := hide (HB_w15.out.trans (hbd.mono HB_w15.out.size))
    clear hbd
    have HSx : Hid (∀ wx, Below we.heap.size we wx → wx.cell? ⟨w.heap.size, 0, none⟩ = some (vp) ∧ wx.cell? ⟨w.heap.size, 1, none⟩ = some (vl) ∧ wx.cell? ⟨w.heap.size, 2, none⟩ = some (.int .i64 k.next) ∧ wx.cell? ⟨w.heap.size, 3, none⟩ = some (vu) ∧ wx.cell? ⟨w.heap.size, 4, none⟩ = some (vg) ∧ wx.cell? ⟨w.heap.size, 5, none⟩ = some (vf) ∧ wx.cell? ⟨w.heap.size + 1, 0, none⟩ = some (.bool lf) ∧ wx.cell? ⟨w.heap.size + 1, 1, none⟩ = some (nk) ∧ wx.cell? ⟨w.heap.size + 1, 2, none⟩ = some (nv) ∧ wx.cell? ⟨w.heap.size + 1, 3, none⟩ = some (nc)) := hide (fun wx hb => by
      have h1 := (held_below Hbox_we.out hb).is
      have h2 := (held_below Hnbx_we.out hb).is
      exact ⟨(cell_at h1 0).1, (cell_at h1 1).1, (cell_at h1 2).1, (cell_at h1 3).1, (cell_at h1 4).1, (cell_at h1 5).1, (cell_at h2 0).1, (cell_at h2 1).1, (cell_at h2 2).1, (cell_at h2 3).1⟩)
    refine wp_region_held_drew (S := fun wx => wx.cell? ⟨w.heap.size, 0, none⟩ = some (vp) ∧ wx.cell? ⟨w.heap.size, 1, none⟩ = some (vl) ∧ wx.cell? ⟨w.heap.size, 2, none⟩ = some (.int .i64 k.next) ∧ wx.cell? ⟨w.heap.size, 3, none⟩ = some (vu) ∧ wx.cell? ⟨w.heap.size, 4, none⟩ = some (vg) ∧ wx.cell? ⟨w.heap.size, 5, none⟩ = some (vf) ∧ wx.cell? ⟨w.heap.size + 1, 0, none⟩ = some (.bool lf) ∧ wx.cell? ⟨w.heap.size + 1, 1, none⟩ = some (nk) ∧ wx.cell? ⟨w.heap.size + 1, 2, none⟩ = some (nv) ∧ wx.cell? ⟨w.heap.size + 1, 3, none⟩ = some (nc)) (by kernel_rfl) (by rw [← hwd]; exact HSx.out _ (Below.refl _ _)) (fun _ => ?_)
    rw [← hwd]
    clear hwd
    refine takeW 0 95 ?_ rfl rfl (by kernel_rfl) (by kernel_rfl) (by kernel_rfl) (fun _ _ _ h => h) (Or.inl ⟨by rfl, ?_⟩) (HSx.out _ (Below.refl _ _)) ?_
    rotate_left
    · (intro wx hSw; (try dsimp only at hSw); go_simp; try with_reducible rfl)
    simp only [List.setIfInBounds_toArray, List.set_cons_zero, List.set_cons_succ]
    refine takeW 2 97 ?_ rfl rfl (by kernel_rfl) (by kernel_rfl) (by kernel_rfl) (fun _ _ _ h => h) (Or.inl ⟨by rfl, ?_⟩) (HSx.out _ (Below.refl _ _)) ?_
    rotate_left
    · (intro wx hSw; (try dsimp only at hSw); go_simp; try with_reducible rfl)
    simp only [List.setIfInBounds_toArray, List.set_cons_zero, List.set_cons_succ]
    refine put_walkT (k := k) (kr := kr) (lf := lf) (ks := ks) (vs := vs) (cs := cs) (pg := pg) 15 94 95 96 97 98 99 100 101 _ ⟨by decide, by decide, by decide, by decide, by decide, by decide, by decide, by decide, by decide, by decide, by decide, by decide, by decide, by decide, by decide, by decide, by decide, by decide, by decide, by decide, by decide⟩ rfl rfl rfl rfl rfl rfl rfl rfl rfl (by decide) (by decide) (by decide) (by decide) (by decide) (by decide) (by decide) (by decide) (by decide) (by decide) (by decide) (by decide) (by decide) (by decide) (fun W hl => HSx.out W hl) (fun _ _ _ _ h => h) (fun _ _ _ _ h => h) (fun _ _ _ _ h => h) 29 30 31 Tryd.func29 Tryd.func30 Tryd.func31 (by decide) (by decide) (by decide) (Option.some_ne_none _) (Option.some_ne_none _) (Option.some_ne_none _) #[48] #[50] #[54, 58] (fun W hl => HTo.out W (work_below HD.out (HB_we.out.trans (hl.mono HB_we.out.size)))) (fun W hl => HTn.out W (node_below HN.out (HB_we.out.trans (hl.mono HB_we.out.size)))) (fun W u un hl h hn => HIm.out u un W (sumTab_below HT.out (HB_we.out.trans (hl.mono HB_we.out.size))) h hn) rfl rfl rfl rfl rfl rfl rfl rfl rfl rfl rfl rfl rfl rfl rfl rfl rfl rfl rfl rfl rfl rfl rfl rfl rfl rfl rfl rfl (by kernel_rfl) (by kernel_rfl) (by kernel_rfl) (by kernel_rfl) (by kernel_rfl) (by kernel_rfl) (by kernel_rfl) (by kernel_rfl) (by kernel_rfl) (by kernel_rfl) (by kernel_rfl) (by kernel_rfl) (by kernel_rfl) (by kernel_rfl) (by kernel_rfl) (by kernel_rfl) (by kernel_rfl) (by kernel_rfl) (by kernel_rfl) (by kernel_rfl) ?_
    intro wX g10 u tq1 tq2 hl hu hgb hg0 hne
    simp only [ch, List.setIfInBounds_toArray, List.set_cons_zero, List.set_cons_succ]
    obtain ⟨xa10, ca10, xb10, cb10, xc10, cc10, xd10, cd10, xe10, ce10, rfl⟩ := work_form hu
    obtain ⟨rr0, rr1, rr2, rr3, rr4, rr5⟩ := blk6c hgb
    have zz0 := (cell_at hgb 0).2
    have zz1 := (cell_at hgb 1).2
    have zz2 := (cell_at hgb 2).2
    have zz3 := (cell_at hgb 3).2
    have zz4 := (cell_at hgb 4).2
    have zz5 := (cell_at hgb 5).2
    obtain ⟨w18, hw4⟩ : ∃ w4, w4 = set6 wX g10 (.slice xa10 kr.ps.length ca10) (.slice xb10 kr.ls.length cb10) (.int .i64 kr.next) (.slice xc10 kr.us.length cc10) (.slice xd10 kr.gs.length cd10) (.slice xe10 kr.fs.length ce10) := ⟨_, rfl⟩
    have hk4 : Kept wX w18 (fun j => j = g10) := by rw [hw4]; exact set6_kept _ _ _ _ _ _ _ _
    have hb4 : Below we.heap.size we w18 := hl.trans (below_of_kept hk4 hl.size (fun j e => by omega))
    have Hd10_w18 := hide (held_work (workOwn_kept hu hk4 (fun j hj => hne j hj)))
    have Hg10_w18 : Hid (Held w18 g10 (g10 + 1) (IsBlk g10 #[.slice xa10 kr.ps.length ca10, .slice xb10 kr.ls.length cb10, .int .i64 kr.next, .slice xc10 kr.us.length cc10, .slice xd10 kr.gs.length cd10, .slice xe10 kr.fs.length ce10] 54)) := hide (held_blk (by rw [hw4]; exact set6_blk hgb))
    have HG10 : Hid (we.heap.size ≤ g10) := hide hg0
    have Hnbx_w18 := hide (held_below Hnbx_we.out hb4)
    have Hbox_w18 := hide (held_below Hbox_we.out hb4)
    have Hd4_w18 := hide (held_below Hd4_we.out hb4)
    have Hg4_w18 := hide (held_below Hg4_we.out hb4)
    have Hg5_w18 := hide (held_below Hg5_we.out hb4)
    have Hgn_w18 := hide (held_below Hgn_we.out hb4)
    have Hg6_w18 := hide (held_below Hg6_we.out hb4)
    have HdM_w18 := hide (held_below HdM_we.out hb4)
    have HB_w18 : Hid (Below w.heap.size w w18) := hide (HB_we.out.trans (hb4.mono HB_we.out.size))
    have HS4 := hide (HSx.out w18 hb4)
    have HW4 := hide hw4
    rw [hw4] at HS4
    clear hl hu hgb hg0 hne hk4 hb4 hw4
    refine wpAnyH_ready (rs := [9]) (by kernel_rfl) (by simp) ?_
    refine AllReadyH.cons rfl (fun K hK => ?_) AllReadyH.nil
    go_simp
    refine hK.out _ _ HS4.out (fun _ => ?_)
    clear hK K rr0 rr1 rr2 rr3 rr4 rr5 zz0 zz1 zz2 zz3 zz4 zz5
    refine takeW 10 16 ?_ rfl rfl (by kernel_rfl) (by kernel_rfl) (by kernel_rfl) (fun _ _ _ h => h) (Or.inl ⟨by rfl, ?_⟩) HS4.out ?_
    rotate_left
    · (intro wx hSw; (try dsimp only at hSw); go_simp; try with_reducible rfl)
    simp only [List.setIfInBounds_toArray, List.set_cons_zero, List.set_cons_succ]
    refine wpAnyH_done (by kernel_rfl) ?_ _
    have hw4 : w18 = ((((((wX.setCell ⟨g10, 0, none⟩ (.slice xa10 kr.ps.length ca10)).setCell ⟨g10, 1, none⟩ (.slice xb10 kr.ls.length cb10)).setCell ⟨g10, 2, none⟩ (.int .i64 kr.next)).setCell ⟨g10, 3, none⟩ (.slice xc10 kr.us.length cc10)).setCell ⟨g10, 4, none⟩ (.slice xd10 kr.gs.length cd10)).setCell ⟨g10, 5, none⟩ (.slice xe10 kr.fs.length ce10)) := HW4.out
    rw [← hw4]
    clear hw4
    clear HS4 HW4 HSx
    obtain ⟨ffh0, ffh1, ffh2, ffh3, ffh4, ffh5⟩ := blk6h Hg10_w18.out
    obtain ⟨ffk0, ffk1, ffk2, ffk3, ffk4, ffk5⟩ := blk6h Hg4_w18.out
    go_wp2_with fail
    clear ffh0 ffh1 ffh2 ffh3 ffh4 ffh5 ffk0 ffk1 ffk2 ffk3 ffk4 ffk5
    refine (HEr.out _ _ _ (work_of_own Hd10_w18.out.is.1) (work_of_own Hd4_w18.out.is.1)).mono ?_
    rintro e w19 ⟨rfl, hb⟩
    have Hnbx_w19 := hide (held_below Hnbx_w18.out hb)
    have Hbox_w19 := hide (held_below Hbox_w18.out hb)
    have Hd4_w19 := hide (held_below Hd4_w18.out hb)
    have Hg4_w19 := hide (held_below Hg4_w18.out hb)
    have Hg5_w19 := hide (held_below Hg5_w18.out hb)
    have Hgn_w19 := hide (held_below Hgn_w18.out hb)
    have Hg6_w19 := hide (held_below Hg6_w18.out hb)
    have HdM_w19 := hide (held_below HdM_w18.out hb)
    have Hd10_w19 := hide (held_below Hd10_w18.out hb)
    have Hg10_w19 := hide (held_below Hg10_w18.out hb)
    have HB_w19 : Hid (Below w.heap.size w w19) := hide (HB_w18.out.trans (hb.mono HB_w18.out.size))
    clear hb
    obtain ⟨ffg0, ffg1, ffg2, ffg3, ffg4, ffg5⟩ := blk6h Hg6_w19.out
    go_wp2_with fail
    clear ffg0 ffg1 ffg2 ffg3 ffg4 ffg5
    refine (HHr.out _ _ (work_of_own HdM_w19.out.is.1)).mono ?_
    rintro e w20 ⟨rfl, hb⟩
    have Hnbx_w20 := hide (held_below Hnbx_w19.out hb)
    have Hbox_w20 := hide (held_below Hbox_w19.out hb)
    have Hd4_w20 := hide (held_below Hd4_w19.out hb)
    have Hg4_w20 := hide (held_below Hg4_w19.out hb)
    have Hg5_w20 := hide (held_below Hg5_w19.out hb)
    have Hgn_w20 := hide (held_below Hgn_w19.out hb)
    have Hg6_w20 := hide (held_below Hg6_w19.out hb)
    have HdM_w20 := hide (held_below HdM_w19.out hb)
    have Hd10_w20 := hide (held_below Hd10_w19.out hb)
    have Hg10_w20 := hide (held_below Hg10_w19.out hb)
    have HB_w20 : Hid (Below w.heap.size w w20) := hide (HB_w19.out.trans (hb.mono HB_w19.out.size))
    clear hb
    go_wp2_with fail
    go_ret
    exact ⟨rfl, HB_w20.out⟩
  · rw [szOut_no (by omega)] at HSz
    go_enter Tryd.func7, Tryd.ntmps7
    go_wp2_with fail
    rw [← hw0]
    refine (HSz.out _ (work_below HD.out HB_w0.out)).mono ?_
    rintro e w1 ⟨rfl, hb1⟩
    clear hw0
    go_wp2_with fail
    go_ret
    exact ⟨rfl, HB_w0.out.trans (hb1.mono HB_w0.out.size)⟩
end Go.Proofs.YtejfmjejdopglaaDoor
