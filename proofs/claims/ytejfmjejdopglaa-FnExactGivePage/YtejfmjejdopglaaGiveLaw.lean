/-
  laws.FnExactGivePage by contracts: it returns true at every work.
-/
import Derived.Test.YtejfmjejdopglaaWorkEnv
import Derived.Test.YtejfmjejdopglaaGiveSpec
import Derived.Test.YtejfmjejdopglaaGiveImpl
import Derived.Deep.RegionHeld3
namespace Go.Proofs.Ytejfmjejdopglaa
open Go.RowKit

set_option maxHeartbeats 16000000 in
set_option maxRecDepth 100000 in
theorem lawGivePage (v : Value) (k : Wk) (hf : k.fits) (w : World) (hd : WorkAt w v k) :
    Calls Try.prog 4 #[v] w fun e w' => e = .returned (.bool true) ∧ Below w.heap.size w w' := by
  have HSz := hide (fun wx h => szWork_any v k hf 1048576 (Nat.le_refl _) wx h)
  clear hf
  have HD := hide hd
  obtain ⟨vp, vl, vu, vg, vf, rfl, -⟩ := hd
  obtain ⟨w0, hw0⟩ : ∃ w0, w0 = w.alloc (Obj.cells #[vp, vl, .int .i64 k.next, vu, vg, vf] 44) := ⟨_, rfl⟩
  have HB_w0 : Hid (Below w.heap.size w w0) := hide (by rw [hw0]; exact (new_blk w _ _).1)
  have Hbox_w0 : Hid (Held w0 w.heap.size (w.heap.size + 1) (IsBlk w.heap.size #[vp, vl, .int .i64 k.next, vu, vg, vf] 44)) := hide (by rw [hw0]; exact (new_blk w _ _).2)
  by_cases hbk : k.bulk ≤ 1048576
  · obtain ⟨r, hr⟩ : ∃ r : Nat, szOut 1048576 k.bulk = (r : Int) := ⟨_, szOut_yes hbk⟩
    rw [hr] at HSz
    have hsm := bulkW_in hbk
    have HTo := hide (fun wx h => toWork_any (.agg #[vp, vl, .int .i64 k.next, vu, vg, vf]) k hbk wx h)
    have HSp := hide (fun u wx h => specGivePage_any u k hsm wx h)
    have HIm := hide (fun u wx h => implGivePage_any u k hsm wx h)
    have hrs := give_small hbk
    obtain ⟨kr, hkr⟩ : ∃ kr, kr = giveK k := ⟨_, rfl⟩
    obtain ⟨pg, hpg⟩ : ∃ pg, pg = giveP k := ⟨_, rfl⟩
    rw [← hkr, ← hpg] at HSp HIm
    rw [← hkr] at hrs
    have HEx := hide (fun u u' wx h h' => eqWork_same u u' k hsm wx h h')
    have HEr := hide (fun u u' wx h h' => eqWork_same u u' kr hrs wx h h')
    have HMx := hide (fun u B wx h => markWork_any u k B 1 hsm (by omega) (by omega) wx h)
    have HMr := hide (fun u B wx h => markWork_any u kr B 1 hrs (by omega) (by omega) wx h)
    have HHr := hide (fun u wx h => heldWork_any u kr.ps.length kr.ls.length kr.us.length kr.gs.length kr.fs.length 1 kr.next hrs.1 hrs.2.2.1 hrs.2.2.2.2.1 hrs.2.2.2.2.2.1 hrs.2.2.2.2.2.2 (by omega) (by omega) wx h)
    obtain ⟨kx, hkx⟩ : ∃ kx, kx = 1 + k.ps.length + k.ls.length * 2 + k.us.length + k.gs.length + k.fs.length := ⟨_, rfl⟩
    obtain ⟨kz, hkz⟩ : ∃ kz, kz = 1 + kr.ps.length + kr.ls.length * 2 + kr.us.length + kr.gs.length + kr.fs.length := ⟨_, rfl⟩
    rw [← hkx] at HMx
    rw [← hkz] at HMr HHr
    have hkxl : kx ≤ 40000000 := by obtain ⟨q1, -, q3, -, q5, q6, q7⟩ := hsm; omega
    have hkzl : kz ≤ 40000000 := by obtain ⟨q1, -, q3, -, q5, q6, q7⟩ := hrs; omega
    clear hsm hrs hbk hr hkr hpg hkx hkz
    go_enter Try.func4, Try.ntmps4
    go_wp2_with fail
    rw [← hw0]
    clear hw0
    refine (HSz.out _ (work_below HD.out HB_w0.out)).mono ?_
    rintro e w1 ⟨rfl, hb⟩
    have Hbox_w1 := hide (held_below Hbox_w0.out hb)
    have HB_w1 : Hid (Below w.heap.size w w1) := hide (HB_w0.out.trans (hb.mono HB_w0.out.size))
    clear hb
    obtain ⟨ffb0, ffb1, ffb2, ffb3, ffb4, ffb5⟩ := blk6h Hbox_w1.out
    go_wp2_with fail
    clear ffb0 ffb1 ffb2 ffb3 ffb4 ffb5
    refine (HTo.out _ (work_below HD.out HB_w1.out)).mono ?_
    rintro e w2 ⟨u2, rfl, hown2, hb⟩
    have Hbox_w2 := hide (held_below Hbox_w1.out hb)
    have HB_w2 : Hid (Below w.heap.size w w2) := hide (HB_w1.out.trans (hb.mono HB_w1.out.size))
    clear hb
    have Hd2_w2 := hide (held_work hown2)
    clear hown2
    go_wp2_with fail
    refine (HSp.out u2 _ (work_of_own Hd2_w2.out.is.1)).mono ?_
    rintro e w3 ⟨u3, rfl, hown, hb⟩
    have HZ3 : Hid (w2.heap.size ≤ w3.heap.size) := hide hb.size
    have Hbox_w3 := hide (held_below Hbox_w2.out hb)
    have Hd2_w3 := hide (held_below Hd2_w2.out hb)
    have HB_w3 : Hid (Below w.heap.size w w3) := hide (HB_w2.out.trans (hb.mono HB_w2.out.size))
    clear hb
    have Hd4_w3 := hide (held_work hown)
    obtain ⟨xa4, ca4, xb4, cb4, xc4, cc4, xd4, cd4, xe4, ce4, rfl⟩ := work_form hown
    clear hown
    obtain ⟨g4, hg⟩ : ∃ g, g = w3.heap.size := ⟨_, rfl⟩
    obtain ⟨w4, hnw⟩ : ∃ wx, wx = w3.alloc (Obj.cells #[.slice xa4 kr.ps.length ca4, .slice xb4 kr.ls.length cb4, .int .i64 kr.next, .slice xc4 kr.us.length cc4, .slice xd4 kr.gs.length cd4, .slice xe4 kr.fs.length ce4] 33) := ⟨_, rfl⟩
    have hnv := new_blk w3 #[.slice xa4 kr.ps.length ca4, .slice xb4 kr.ls.length cb4, .int .i64 kr.next, .slice xc4 kr.us.length cc4, .slice xd4 kr.gs.length cd4, .slice xe4 kr.fs.length ce4] 33
    rw [← hnw, ← hg] at hnv
    have hbv : Below w3.heap.size w3 w4 := by rw [← hg]; exact hnv.1
    have Hg4_w4 := hide hnv.2
    have Hgt4 : Hid (w3.heap.size = g4) := hide hg.symm
    have Hbox_w4 := hide (held_below Hbox_w3.out hbv)
    have Hd4_w4 := hide (held_below Hd4_w3.out hbv)
    have HB_w4 : Hid (Below w.heap.size w w4) := hide (HB_w3.out.trans (hbv.mono HB_w3.out.size))
    clear hnv hbv
    obtain ⟨ffb0, ffb1, ffb2, ffb3, ffb4, ffb5⟩ := blk6h Hbox_w4.out
    rw [hnw] at ffb0 ffb1 ffb2 ffb3 ffb4 ffb5
    go_wp2_with fail
    rw [← hnw, ← hg]
    clear hnw hg ffb0 ffb1 ffb2 ffb3 ffb4 ffb5
    refine (HTo.out _ (work_below HD.out HB_w4.out)).mono ?_
    rintro e w5 ⟨u5, rfl, hown, hb⟩
    have HZ5 : Hid (w4.heap.size ≤ w5.heap.size) := hide hb.size
    have Hbox_w5 := hide (held_below Hbox_w4.out hb)
    have Hd4_w5 := hide (held_below Hd4_w4.out hb)
    have Hg4_w5 := hide (held_below Hg4_w4.out hb)
    have HB_w5 : Hid (Below w.heap.size w w5) := hide (HB_w4.out.trans (hb.mono HB_w4.out.size))
    clear hb
    have Hd5_w5 := hide (held_work hown)
    obtain ⟨xa5, ca5, xb5, cb5, xc5, cc5, xd5, cd5, xe5, ce5, rfl⟩ := work_form hown
    clear hown
    obtain ⟨g5, hg⟩ : ∃ g, g = w5.heap.size := ⟨_, rfl⟩
    obtain ⟨w6, hnw⟩ : ∃ wx, wx = w5.alloc (Obj.cells #[.slice xa5 k.ps.length ca5, .slice xb5 k.ls.length cb5, .int .i64 k.next, .slice xc5 k.us.length cc5, .slice xd5 k.gs.length cd5, .slice xe5 k.fs.length ce5] 33) := ⟨_, rfl⟩
    have hnv := new_blk w5 #[.slice xa5 k.ps.length ca5, .slice xb5 k.ls.length cb5, .int .i64 k.next, .slice xc5 k.us.length cc5, .slice xd5 k.gs.length cd5, .slice xe5 k.fs.length ce5] 33
    rw [← hnw, ← hg] at hnv
    have hbv : Below w5.heap.size w5 w6 := by rw [← hg]; exact hnv.1
    have Hg5_w6 := hide hnv.2
    have Hgt5 : Hid (w5.heap.size = g5) := hide hg.symm
    have Hbox_w6 := hide (held_below Hbox_w5.out hbv)
    have Hd4_w6 := hide (held_below Hd4_w5.out hbv)
    have Hg4_w6 := hide (held_below Hg4_w5.out hbv)
    have Hd5_w6 := hide (held_below Hd5_w5.out hbv)
    have HB_w6 : Hid (Below w.heap.size w w6) := hide (HB_w5.out.trans (hbv.mono HB_w5.out.size))
    clear hnv hbv
    have HDx := hide (work_of_own Hd5_w6.out.is.1)
    go_wp2_with fail
    rw [← hnw, ← hg]
    clear hnw hg
    refine (HIm.out _ _ HDx.out).mono ?_
    rintro e w7 ⟨u7, rfl, hown, hb⟩
    have HZ7 : Hid (w6.heap.size ≤ w7.heap.size) := hide hb.size
    have Hbox_w7 := hide (held_below Hbox_w6.out hb)
    have Hd4_w7 := hide (held_below Hd4_w6.out hb)
    have Hg4_w7 := hide (held_below Hg4_w6.out hb)
    have Hd5_w7 := hide (held_below Hd5_w6.out hb)
    have Hg5_w7 := hide (held_below Hg5_w6.out hb)
    have HB_w7 : Hid (Below w.heap.size w w7) := hide (HB_w6.out.trans (hb.mono HB_w6.out.size))
    clear hb HDx
    have Hd6_w7 := hide (held_work hown)
    obtain ⟨xa6, ca6, xb6, cb6, xc6, cc6, xd6, cd6, xe6, ce6, rfl⟩ := work_form hown
    clear hown
    obtain ⟨g6, hg⟩ : ∃ g, g = w7.heap.size := ⟨_, rfl⟩
    obtain ⟨w8, hnw⟩ : ∃ wx, wx = w7.alloc (Obj.cells #[.slice xa6 kr.ps.length ca6, .slice xb6 kr.ls.length cb6, .int .i64 kr.next, .slice xc6 kr.us.length cc6, .slice xd6 kr.gs.length cd6, .slice xe6 kr.fs.length ce6] 33) := ⟨_, rfl⟩
    have hnv := new_blk w7 #[.slice xa6 kr.ps.length ca6, .slice xb6 kr.ls.length cb6, .int .i64 kr.next, .slice xc6 kr.us.length cc6, .slice xd6 kr.gs.length cd6, .slice xe6 kr.fs.length ce6] 33
    rw [← hnw, ← hg] at hnv
    have hbv : Below w7.heap.size w7 w8 := by rw [← hg]; exact hnv.1
    have Hg6_w8 := hide hnv.2
    have Hgt6 : Hid (w7.heap.size = g6) := hide hg.symm
    have Hbox_w8 := hide (held_below Hbox_w7.out hbv)
    have Hd4_w8 := hide (held_below Hd4_w7.out hbv)
    have Hg4_w8 := hide (held_below Hg4_w7.out hbv)
    have Hd5_w8 := hide (held_below Hd5_w7.out hbv)
    have Hg5_w8 := hide (held_below Hg5_w7.out hbv)
    have Hd6_w8 := hide (held_below Hd6_w7.out hbv)
    have HB_w8 : Hid (Below w.heap.size w w8) := hide (HB_w7.out.trans (hbv.mono HB_w7.out.size))
    clear hnv hbv
    obtain ⟨ffk0, ffk1, ffk2, ffk3, ffk4, ffk5⟩ := blk6h Hg4_w8.out
    rw [hnw] at ffk0 ffk1 ffk2 ffk3 ffk4 ffk5
    go_wp2_with fail
    rw [← hnw, ← hg]
    clear hnw hg ffk0 ffk1 ffk2 ffk3 ffk4 ffk5
    refine (HEr.out _ _ _ (work_of_own Hd6_w8.out.is.1) (work_of_own Hd4_w8.out.is.1)).mono ?_
    rintro e w9 ⟨rfl, hb⟩
    have Hbox_w9 := hide (held_below Hbox_w8.out hb)
    have Hd4_w9 := hide (held_below Hd4_w8.out hb)
    have Hg4_w9 := hide (held_below Hg4_w8.out hb)
    have Hd5_w9 := hide (held_below Hd5_w8.out hb)
    have Hg5_w9 := hide (held_below Hg5_w8.out hb)
    have Hd6_w9 := hide (held_below Hd6_w8.out hb)
    have Hg6_w9 := hide (held_below Hg6_w8.out hb)
    have HB_w9 : Hid (Below w.heap.size w w9) := hide (HB_w8.out.trans (hb.mono HB_w8.out.size))
    clear hb
    obtain ⟨ffb0, ffb1, ffb2, ffb3, ffb4, ffb5⟩ := blk6h Hbox_w9.out
    obtain ⟨ffx0, ffx1, ffx2, ffx3, ffx4, ffx5⟩ := blk6h Hg5_w9.out
    go_wp2_with fail
    have hSall : ∀ wx, Below w9.heap.size w9 wx → wx.cell? ⟨w.heap.size, 0, none⟩ = some (vp) ∧ wx.cell? ⟨w.heap.size, 1, none⟩ = some (vl) ∧ wx.cell? ⟨w.heap.size, 2, none⟩ = some (.int .i64 k.next) ∧ wx.cell? ⟨w.heap.size, 3, none⟩ = some (vu) ∧ wx.cell? ⟨w.heap.size, 4, none⟩ = some (vg) ∧ wx.cell? ⟨w.heap.size, 5, none⟩ = some (vf) ∧ wx.cell? ⟨g5, 0, none⟩ = some (.slice xa5 k.ps.length ca5) ∧ wx.cell? ⟨g5, 1, none⟩ = some (.slice xb5 k.ls.length cb5) ∧ wx.cell? ⟨g5, 2, none⟩ = some (.int .i64 k.next) ∧ wx.cell? ⟨g5, 3, none⟩ = some (.slice xc5 k.us.length cc5) ∧ wx.cell? ⟨g5, 4, none⟩ = some (.slice xd5 k.gs.length cd5) ∧ wx.cell? ⟨g5, 5, none⟩ = some (.slice xe5 k.fs.length ce5) := fun wx hb => by
      have h1 := (held_below Hbox_w9.out hb).is
      have h2 := (held_below Hg5_w9.out hb).is
      exact ⟨(cell_at h1 0).1, (cell_at h1 1).1, (cell_at h1 2).1, (cell_at h1 3).1, (cell_at h1 4).1, (cell_at h1 5).1, (cell_at h2 0).1, (cell_at h2 1).1, (cell_at h2 2).1, (cell_at h2 3).1, (cell_at h2 4).1, (cell_at h2 5).1⟩
    have HSall := hide hSall
    have hS0 := HSall.out w9 (Below.refl _ _)
    clear hSall ffb0 ffb1 ffb2 ffb3 ffb4 ffb5 ffx0 ffx1 ffx2 ffx3 ffx4 ffx5
    go_region_held3 (fun wx => wx.cell? ⟨w.heap.size, 0, none⟩ = some (vp) ∧ wx.cell? ⟨w.heap.size, 1, none⟩ = some (vl) ∧ wx.cell? ⟨w.heap.size, 2, none⟩ = some (.int .i64 k.next) ∧ wx.cell? ⟨w.heap.size, 3, none⟩ = some (vu) ∧ wx.cell? ⟨w.heap.size, 4, none⟩ = some (vg) ∧ wx.cell? ⟨w.heap.size, 5, none⟩ = some (vf) ∧ wx.cell? ⟨g5, 0, none⟩ = some (.slice xa5 k.ps.length ca5) ∧ wx.cell? ⟨g5, 1, none⟩ = some (.slice xb5 k.ls.length cb5) ∧ wx.cell? ⟨g5, 2, none⟩ = some (.int .i64 k.next) ∧ wx.cell? ⟨g5, 3, none⟩ = some (.slice xc5 k.us.length cc5) ∧ wx.cell? ⟨g5, 4, none⟩ = some (.slice xd5 k.gs.length cd5) ∧ wx.cell? ⟨g5, 5, none⟩ = some (.slice xe5 k.fs.length ce5)) (first | exact hS0 | exact hS8 | exact hS9) (first | (go_at_call 11; refine (HTo.out _ ?_).mono ?_; exact work_below HD.out HB_w9.out.drew; rintro e w10 ⟨u10, rfl, hown, hbA⟩; have hA8 : Below w9.heap.size w9 w10 := (Below.refl _ _).drew.trans hbA; have hS8 := HSall.out _ hA8) | (go_at_call 12; refine (HEx.out _ _ _ ?_ ?_).mono ?_; exact work_below (work_of_own Hd5_w9.out.is.1) hA8; exact work_of_own hown; rintro e w11 ⟨rfl, hbC⟩; have hA9 : Below w9.heap.size w9 w11 := hA8.trans (hbC.mono hA8.size); have hS9 := HSall.out _ hA9))
    have hb := hA9
    have Hbox_w11 := hide (held_below Hbox_w9.out hb)
    have Hd4_w11 := hide (held_below Hd4_w9.out hb)
    have Hg4_w11 := hide (held_below Hg4_w9.out hb)
    have Hd5_w11 := hide (held_below Hd5_w9.out hb)
    have Hg5_w11 := hide (held_below Hg5_w9.out hb)
    have Hd6_w11 := hide (held_below Hd6_w9.out hb)
    have Hg6_w11 := hide (held_below Hg6_w9.out hb)
    have HB_w11 : Hid (Below w.heap.size w w11) := hide (HB_w9.out.trans (hb.mono HB_w9.out.size))
    clear hb hA8 hA9 hbA hbC hown hS0 hS8 hS9 HSall
    have HL : Hid (w.heap.size + 1 ≤ w2.heap.size ∧ w2.heap.size ≤ w3.heap.size ∧ w3.heap.size = g4 ∧ g4 + 1 ≤ w4.heap.size ∧ w4.heap.size ≤ w5.heap.size ∧ w5.heap.size = g5 ∧ g5 + 1 ≤ w6.heap.size ∧ w6.heap.size ≤ w7.heap.size ∧ w7.heap.size = g6) := hide ⟨Hbox_w2.out.le, HZ3.out, Hgt4.out, Hg4_w4.out.le, HZ5.out, Hgt5.out, Hg5_w6.out.le, HZ7.out, Hgt6.out⟩
    obtain ⟨ffx0, ffx1, ffx2, ffx3, ffx4, ffx5⟩ := blk6h Hg5_w11.out
    go_wp2_with fail
    clear ffx0 ffx1 ffx2 ffx3 ffx4 ffx5
    have hin5 : ∀ j, workBlocks (.agg #[.slice xa5 k.ps.length ca5, .slice xb5 k.ls.length cb5, .int .i64 k.next, .slice xc5 k.us.length cc5, .slice xd5 k.gs.length cd5, .slice xe5 k.fs.length ce5]) j → w4.heap.size ≤ j ∧ j < w5.heap.size := fun j h => ⟨(workOwn_lt Hd5_w11.out.is.1 j h).1, Hd5_w11.out.is.2 j h⟩
    refine (HMx.out _ _ _ Hd5_w11.out.is.1).mono ?_
    rintro e w12 ⟨rfl, hownM, hk⟩
    have Hbox_w12 := hide (held_kept Hbox_w11.out hk (fun k h1 h2 h => by have h3 := hin5 k h; have h4 := HL.out; omega))
    have Hd4_w12 := hide (held_kept Hd4_w11.out hk (fun k h1 h2 h => by have h3 := hin5 k h; have h4 := HL.out; omega))
    have Hg4_w12 := hide (held_kept Hg4_w11.out hk (fun k h1 h2 h => by have h3 := hin5 k h; have h4 := HL.out; omega))
    have Hg5_w12 := hide (held_kept Hg5_w11.out hk (fun k h1 h2 h => by have h3 := hin5 k h; have h4 := HL.out; omega))
    have Hd6_w12 := hide (held_kept Hd6_w11.out hk (fun k h1 h2 h => by have h3 := hin5 k h; have h4 := HL.out; omega))
    have Hg6_w12 := hide (held_kept Hg6_w11.out hk (fun k h1 h2 h => by have h3 := hin5 k h; have h4 := HL.out; omega))
    have HB_w12 : Hid (Below w.heap.size w w12) := hide (HB_w11.out.trans (below_of_kept hk HB_w11.out.size (fun k h => by have h3 := hin5 k h; have h4 := HL.out; omega)))
    clear hk hownM hin5
    obtain ⟨ffg0, ffg1, ffg2, ffg3, ffg4, ffg5⟩ := blk6h Hg6_w12.out
    obtain ⟨ffk0, ffk1, ffk2, ffk3, ffk4, ffk5⟩ := blk6h Hg4_w12.out
    go_wp2_with fail
    clear ffg0 ffg1 ffg2 ffg3 ffg4 ffg5 ffk0 ffk1 ffk2 ffk3 ffk4 ffk5
    refine (HEr.out _ _ _ (work_of_own Hd6_w12.out.is.1) (work_of_own Hd4_w12.out.is.1)).mono ?_
    rintro e w13 ⟨rfl, hb⟩
    have Hbox_w13 := hide (held_below Hbox_w12.out hb)
    have Hd4_w13 := hide (held_below Hd4_w12.out hb)
    have Hg4_w13 := hide (held_below Hg4_w12.out hb)
    have Hg5_w13 := hide (held_below Hg5_w12.out hb)
    have Hd6_w13 := hide (held_below Hd6_w12.out hb)
    have Hg6_w13 := hide (held_below Hg6_w12.out hb)
    have HB_w13 : Hid (Below w.heap.size w w13) := hide (HB_w12.out.trans (hb.mono HB_w12.out.size))
    clear hb
    obtain ⟨ffg0, ffg1, ffg2, ffg3, ffg4, ffg5⟩ := blk6h Hg6_w13.out
    go_wp2_with fail
    clear ffg0 ffg1 ffg2 ffg3 ffg4 ffg5
    have hin6 : ∀ j, workBlocks (.agg #[.slice xa6 kr.ps.length ca6, .slice xb6 kr.ls.length cb6, .int .i64 kr.next, .slice xc6 kr.us.length cc6, .slice xd6 kr.gs.length cd6, .slice xe6 kr.fs.length ce6]) j → w6.heap.size ≤ j ∧ j < w7.heap.size := fun j h => ⟨(workOwn_lt Hd6_w13.out.is.1 j h).1, Hd6_w13.out.is.2 j h⟩
    refine (HMr.out _ _ _ Hd6_w13.out.is.1).mono ?_
    rintro e w14 ⟨rfl, hownM, hk⟩
    have HdM_w14 := hide (held_workA Hd6_w13.out hownM hk.2.2.2.1)
    have Hbox_w14 := hide (held_kept Hbox_w13.out hk (fun k h1 h2 h => by have h3 := hin6 k h; have h4 := HL.out; omega))
    have Hd4_w14 := hide (held_kept Hd4_w13.out hk (fun k h1 h2 h => by have h3 := hin6 k h; have h4 := HL.out; omega))
    have Hg4_w14 := hide (held_kept Hg4_w13.out hk (fun k h1 h2 h => by have h3 := hin6 k h; have h4 := HL.out; omega))
    have Hg5_w14 := hide (held_kept Hg5_w13.out hk (fun k h1 h2 h => by have h3 := hin6 k h; have h4 := HL.out; omega))
    have Hg6_w14 := hide (held_kept Hg6_w13.out hk (fun k h1 h2 h => by have h3 := hin6 k h; have h4 := HL.out; omega))
    have HB_w14 : Hid (Below w.heap.size w w14) := hide (HB_w13.out.trans (below_of_kept hk HB_w13.out.size (fun k h => by have h3 := hin6 k h; have h4 := HL.out; omega)))
    clear hk hownM hin6
    obtain ⟨ffg0, ffg1, ffg2, ffg3, ffg4, ffg5⟩ := blk6h Hg6_w14.out
    go_wp2_with fail
    clear ffg0 ffg1 ffg2 ffg3 ffg4 ffg5
    refine (HHr.out _ _ (work_of_own HdM_w14.out.is.1)).mono ?_
    rintro e w15 ⟨rfl, hb⟩
    have Hbox_w15 := hide (held_below Hbox_w14.out hb)
    have Hd4_w15 := hide (held_below Hd4_w14.out hb)
    have Hg4_w15 := hide (held_below Hg4_w14.out hb)
    have Hg5_w15 := hide (held_below Hg5_w14.out hb)
    have Hg6_w15 := hide (held_below Hg6_w14.out hb)
    have HdM_w15 := hide (held_below HdM_w14.out hb)
    have HB_w15 : Hid (Below w.heap.size w w15) := hide (HB_w14.out.trans (hb.mono HB_w14.out.size))
    clear hb
    obtain ⟨ffb0, ffb1, ffb2, ffb3, ffb4, ffb5⟩ := blk6h Hbox_w15.out
    go_wp2_with fail
    clear ffb0 ffb1 ffb2 ffb3 ffb4 ffb5
    refine (HTo.out _ (work_below HD.out HB_w15.out)).mono ?_
    rintro e w16 ⟨u16, rfl, hown, hb⟩
    have Hbox_w16 := hide (held_below Hbox_w15.out hb)
    have Hd4_w16 := hide (held_below Hd4_w15.out hb)
    have Hg4_w16 := hide (held_below Hg4_w15.out hb)
    have Hg5_w16 := hide (held_below Hg5_w15.out hb)
    have Hg6_w16 := hide (held_below Hg6_w15.out hb)
    have HdM_w16 := hide (held_below HdM_w15.out hb)
    have HB_w16 : Hid (Below w.heap.size w w16) := hide (HB_w15.out.trans (hb.mono HB_w15.out.size))
    clear hb
    have HO16 := hide hown
    clear hown
    go_wp2_with fail
    refine (HIm.out u16 _ (work_of_own HO16.out)).mono ?_
    rintro e w17 ⟨u17, rfl, hown, hb⟩
    have Hbox_w17 := hide (held_below Hbox_w16.out hb)
    have Hd4_w17 := hide (held_below Hd4_w16.out hb)
    have Hg4_w17 := hide (held_below Hg4_w16.out hb)
    have Hg5_w17 := hide (held_below Hg5_w16.out hb)
    have Hg6_w17 := hide (held_below Hg6_w16.out hb)
    have HdM_w17 := hide (held_below HdM_w16.out hb)
    have HB_w17 : Hid (Below w.heap.size w w17) := hide (HB_w16.out.trans (hb.mono HB_w16.out.size))
    clear hb HO16
    have Hd10_w17 := hide (held_work hown)
    obtain ⟨xa10, ca10, xb10, cb10, xc10, cc10, xd10, cd10, xe10, ce10, rfl⟩ := work_form hown
    clear hown
    obtain ⟨g10, hg⟩ : ∃ g, g = w17.heap.size := ⟨_, rfl⟩
    obtain ⟨w18, hnw⟩ : ∃ wx, wx = w17.alloc (Obj.cells #[.slice xa10 kr.ps.length ca10, .slice xb10 kr.ls.length cb10, .int .i64 kr.next, .slice xc10 kr.us.length cc10, .slice xd10 kr.gs.length cd10, .slice xe10 kr.fs.length ce10] 33) := ⟨_, rfl⟩
    have hnv := new_blk w17 #[.slice xa10 kr.ps.length ca10, .slice xb10 kr.ls.length cb10, .int .i64 kr.next, .slice xc10 kr.us.length cc10, .slice xd10 kr.gs.length cd10, .slice xe10 kr.fs.length ce10] 33
    rw [← hnw, ← hg] at hnv
    have hbv : Below w17.heap.size w17 w18 := by rw [← hg]; exact hnv.1
    have Hg10_w18 := hide hnv.2
    have Hgt10 : Hid (w17.heap.size = g10) := hide hg.symm
    have Hbox_w18 := hide (held_below Hbox_w17.out hbv)
    have Hd4_w18 := hide (held_below Hd4_w17.out hbv)
    have Hg4_w18 := hide (held_below Hg4_w17.out hbv)
    have Hg5_w18 := hide (held_below Hg5_w17.out hbv)
    have Hg6_w18 := hide (held_below Hg6_w17.out hbv)
    have HdM_w18 := hide (held_below HdM_w17.out hbv)
    have Hd10_w18 := hide (held_below Hd10_w17.out hbv)
    have HB_w18 : Hid (Below w.heap.size w w18) := hide (HB_w17.out.trans (hbv.mono HB_w17.out.size))
    clear hnv hbv
    obtain ⟨ffk0, ffk1, ffk2, ffk3, ffk4, ffk5⟩ := blk6h Hg4_w18.out
    rw [hnw] at ffk0 ffk1 ffk2 ffk3 ffk4 ffk5
    go_wp2_with fail
    rw [← hnw, ← hg]
    clear hnw hg ffk0 ffk1 ffk2 ffk3 ffk4 ffk5
    refine (HEr.out _ _ _ (work_of_own Hd10_w18.out.is.1) (work_of_own Hd4_w18.out.is.1)).mono ?_
    rintro e w19 ⟨rfl, hb⟩
    have Hbox_w19 := hide (held_below Hbox_w18.out hb)
    have Hd4_w19 := hide (held_below Hd4_w18.out hb)
    have Hg4_w19 := hide (held_below Hg4_w18.out hb)
    have Hg5_w19 := hide (held_below Hg5_w18.out hb)
    have Hg6_w19 := hide (held_below Hg6_w18.out hb)
    have HdM_w19 := hide (held_below HdM_w18.out hb)
    have Hd10_w19 := hide (held_below Hd10_w18.out hb)
    have Hg10_w19 := hide (held_below Hg10_w18.out hb)
    have HB_w19 : Hid (Below w.heap.size w w19) := hide (HB_w18.out.trans (hb.mono HB_w18.out.size))
    clear hb
    obtain ⟨ffg0, ffg1, ffg2, ffg3, ffg4, ffg5⟩ := blk6h Hg6_w19.out
    go_wp2_with fail
    clear ffg0 ffg1 ffg2 ffg3 ffg4 ffg5
    refine (HHr.out _ _ (work_of_own HdM_w19.out.is.1)).mono ?_
    rintro e w20 ⟨rfl, hb⟩
    have Hbox_w20 := hide (held_below Hbox_w19.out hb)
    have Hd4_w20 := hide (held_below Hd4_w19.out hb)
    have Hg4_w20 := hide (held_below Hg4_w19.out hb)
    have Hg5_w20 := hide (held_below Hg5_w19.out hb)
    have Hg6_w20 := hide (held_below Hg6_w19.out hb)
    have HdM_w20 := hide (held_below HdM_w19.out hb)
    have Hd10_w20 := hide (held_below Hd10_w19.out hb)
    have Hg10_w20 := hide (held_below Hg10_w19.out hb)
    have HB_w20 : Hid (Below w.heap.size w w20) := hide (HB_w19.out.trans (hb.mono HB_w19.out.size))
    clear hb
    go_wp2_with fail
    go_ret
    exact ⟨rfl, HB_w20.out⟩
  · rw [szOut_no (by omega)] at HSz
    go_enter Try.func4, Try.ntmps4
    go_wp2_with fail
    rw [← hw0]
    refine (HSz.out _ (work_below HD.out HB_w0.out)).mono ?_
    rintro e w1 ⟨rfl, hb1⟩
    clear hw0
    go_wp2_with fail
    go_ret
    exact ⟨rfl, HB_w0.out.trans (hb1.mono HB_w0.out.size)⟩
end Go.Proofs.Ytejfmjejdopglaa
