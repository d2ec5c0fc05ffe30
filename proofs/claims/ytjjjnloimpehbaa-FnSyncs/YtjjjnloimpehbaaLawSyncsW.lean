/-
  laws.FnSyncs returns true at every code of at most 1048576 bytes (and at a longer one at once): a drawn disk that is kept has nothing late; kept again it is the same, and nothing falls of it; what is told of a drawn disk is what the document tells; new disks.
-/
import Derived.Test.YtjjjnloimpehbaaDrawLaw
namespace Go.Proofs.Ytjjjnloimpehbaa
open Go.RowKit

set_option maxHeartbeats 8000000 in
set_option maxRecDepth 100000 in
theorem lawSyncs (a : Option Addr) (len cap : Nat) (w : World) (hd : 1048576 < len ∨ CodeIn w w.heap.size a len) :
    Calls Try.prog 5 #[.slice a len cap] w fun e w' => e = .returned (.bool true) ∧ Below w.heap.size w w' := by
  by_cases hbig : 1048576 < len
  · clear hd
    go_enter Try.func5, Try.ntmps5
    go_wp2_with fail
    refine (big_yes a len cap hbig _).mono ?_
    rintro e w1 ⟨rfl, rfl⟩
    go_wp2_with fail
    go_ret
    exact ⟨rfl, Below.refl _ _⟩
  · have HD : Hid (CodeIn w w.heap.size a len) := hide (hd.resolve_left hbig)
    clear hd
    have HB_w : Hid (Below w.heap.size w w) := hide (Below.refl _ _)
    have HN5 := hide (implDiskNew_any 5)
    have HN3 := hide (implDiskNew_any 3)
    rw [decide_eq_true (by omega)] at HN5
    rw [decide_eq_false (by omega)] at HN3
    obtain ⟨np, hnp⟩ : ∃ np, np = newP 5 := ⟨_, rfl⟩
    obtain ⟨n3, hn3⟩ : ∃ np, np = newP 3 := ⟨_, rfl⟩
    obtain ⟨nl, hnl⟩ : ∃ nl, nl = ([] : List (Int × ByteArray)) := ⟨_, rfl⟩
    rw [← hnp, ← hnl] at HN5
    rw [← hn3, ← hnl] at HN3
    have HNp : Hid (np.length = 5) := hide (by rw [hnp, newP, if_pos (by omega)]; simp)
    have HNl : Hid (nl.length = 0) := hide (by rw [hnl]; rfl)
    clear hnp hn3
    go_enter Try.func5, Try.ntmps5
    go_wp2_with fail
    refine (big_no a len cap (by omega) _).mono ?_
    rintro e w1 ⟨rfl, rfl⟩
    go_wp2_with fail
    refine (drawDisk_any a len cap _ HD.out).mono ?_
    rintro e w1 ⟨v1, ps, ls, rfl, hok, hp7, hl8, hown, hb⟩
    have HB_w1 : Hid (Below w.heap.size w w1) := hide (HB_w.out.trans (hb.mono HB_w.out.size))
    clear hb
    have HSm := hide (small_ok hok hp7 hl8)
    have HOk := hide hok
    have HBd := hide (small_bounds HSm.out)
    have HSy := hide (fun u wx h => implSyncDisk_any u ps ls HBd.out.1 HBd.out.2.1 HBd.out.2.2.1 HBd.out.2.2.2 wx h)
    have HRd := hide (fun i u wx h => specReadPage_any u ps ls HBd.out.1 HBd.out.2.1 i wx h)
    obtain ⟨rs, hrs⟩ : ∃ rs, rs = syncD ps ls := ⟨_, rfl⟩
    have HRs := hide hrs
    have HRl : Hid (rs.length = ps.length) := hide (by rw [hrs]; exact syncD_length _ _)
    rw [← hrs, ← hnl] at HSy
    have HRok : Hid (diskOkB rs nl = true) := hide (by rw [hrs, hnl]; exact syncD_ok hok)
    have HRsm : Hid (Small rs nl) := hide (small_ok HRok.out (by have := HRl.out; omega) (by have := HNl.out; omega))
    have HBr := hide (small_bounds HRsm.out)
    have HSr := hide (fun u wx h => implSyncDisk_any u rs nl HBr.out.1 HBr.out.2.1 HBr.out.2.2.1 HBr.out.2.2.2 wx h)
    have HFr := hide (fun u ub wx h h' => implFallDisk_any u ub rs nl [true] 0 HBr.out.1 HBr.out.2.1 (by simp) HBr.out.2.2.1 HBr.out.2.2.2 wx h h')
    have HSm2 := hide (fun v u wx h h' => sameDisk_yes v u rs nl HBr.out.1 HBr.out.2.1 wx h h')
    rw [show syncD rs nl = rs from by rw [hnl]; rfl, ← hnl] at HSr
    rw [show fallP [true] 0 rs nl = rs from by rw [hnl]; exact fall_none _ _ _, show fallL rs nl = nl from by rw [hnl]; exact fallL_nil _] at HFr
    clear hrs hok hnl
    have Hd3_w1 := hide (held_disk hown)
    obtain ⟨x3, c3, y3, d3, rfl⟩ := disk_form hown
    clear hown
    obtain ⟨g3, hg⟩ : ∃ g, g = w1.heap.size := ⟨_, rfl⟩
    obtain ⟨w2, hnw⟩ : ∃ wx, wx = w1.alloc (Obj.cells #[.slice x3 ps.length c3, .slice y3 ls.length d3] 27) := ⟨_, rfl⟩
    have hnv := new_var w1 (.slice x3 ps.length c3) (.slice y3 ls.length d3) 27
    rw [← hnw, ← hg] at hnv
    have hbv : Below w1.heap.size w1 w2 := by rw [← hg]; exact hnv.1
    have Hg3_w2 := hide hnv.2
    have Hgtg3 : Hid (w1.heap.size = g3) := hide hg.symm
    have Hd3_w2 := hide (held_below Hd3_w1.out hbv)
    have HB_w2 : Hid (Below w.heap.size w w2) := hide (HB_w1.out.trans (hbv.mono HB_w1.out.size))
    clear hnv hbv
    go_wp2_with fail
    rw [← hnw, ← hg]
    clear hnw hg 
    refine (HSy.out _ _ (disk_of_own Hd3_w2.out.is.1)).mono ?_
    rintro e w3 ⟨u4, rfl, hown, hb⟩
    have Hd3_w3 := hide (held_below Hd3_w2.out hb)
    have Hg3_w3 := hide (held_below Hg3_w2.out hb)
    have HB_w3 : Hid (Below w.heap.size w w3) := hide (HB_w2.out.trans (hb.mono HB_w2.out.size))
    clear hb
    have Hd4_w3 := hide (held_disk hown)
    obtain ⟨x4, c4, y4, d4, rfl⟩ := disk_form hown
    clear hown
    obtain ⟨g4, hg⟩ : ∃ g, g = w3.heap.size := ⟨_, rfl⟩
    obtain ⟨w4, hnw⟩ : ∃ wx, wx = w3.alloc (Obj.cells #[.slice x4 rs.length c4, .slice y4 nl.length d4] 27) := ⟨_, rfl⟩
    have hnv := new_var w3 (.slice x4 rs.length c4) (.slice y4 nl.length d4) 27
    rw [← hnw, ← hg] at hnv
    have hbv : Below w3.heap.size w3 w4 := by rw [← hg]; exact hnv.1
    have Hg4_w4 := hide hnv.2
    have Hgtg4 : Hid (w3.heap.size = g4) := hide hg.symm
    have Hd3_w4 := hide (held_below Hd3_w3.out hbv)
    have Hg3_w4 := hide (held_below Hg3_w3.out hbv)
    have Hd4_w4 := hide (held_below Hd4_w3.out hbv)
    have HB_w4 : Hid (Below w.heap.size w w4) := hide (HB_w3.out.trans (hbv.mono HB_w3.out.size))
    clear hnv hbv
    go_wp2_with fail
    rw [← hnw, ← hg]
    clear hnw hg 
    refine (drawDiskOk_any a len cap _ (code_at HD.out HB_w4.out)).mono ?_
    rintro e w5 ⟨v5, qs, ms, rfl, hsm, hown, hb⟩
    have Hd3_w5 := hide (held_below Hd3_w4.out hb)
    have Hg3_w5 := hide (held_below Hg3_w4.out hb)
    have Hd4_w5 := hide (held_below Hd4_w4.out hb)
    have Hg4_w5 := hide (held_below Hg4_w4.out hb)
    have HB_w5 : Hid (Below w.heap.size w w5) := hide (HB_w4.out.trans (hb.mono HB_w4.out.size))
    clear hb
    have HBq := hide (small_bounds hsm)
    have HOi := hide (fun u wx h => implDiskOk_any u qs ms HBq.out.1 HBq.out.2.1 HBq.out.2.2.1 HBq.out.2.2.2 wx h)
    have HOs := hide (fun u wx h => specDiskOk_any u qs ms HBq.out.1 HBq.out.2.1 HBq.out.2.2.1 HBq.out.2.2.2 wx h)
    obtain ⟨okq, hokq⟩ : ∃ b, b = diskOkB qs ms := ⟨_, rfl⟩
    rw [← hokq] at HOi HOs
    clear hokq hsm
    have Hd5_w5 := hide (held_disk hown)
    obtain ⟨x5, c5, y5, d5, rfl⟩ := disk_form hown
    clear hown
    obtain ⟨g5, hg⟩ : ∃ g, g = w5.heap.size := ⟨_, rfl⟩
    obtain ⟨w6, hnw⟩ : ∃ wx, wx = w5.alloc (Obj.cells #[.slice x5 qs.length c5, .slice y5 ms.length d5] 27) := ⟨_, rfl⟩
    have hnv := new_var w5 (.slice x5 qs.length c5) (.slice y5 ms.length d5) 27
    rw [← hnw, ← hg] at hnv
    have hbv : Below w5.heap.size w5 w6 := by rw [← hg]; exact hnv.1
    have Hg5_w6 := hide hnv.2
    have Hgtg5 : Hid (w5.heap.size = g5) := hide hg.symm
    have Hd3_w6 := hide (held_below Hd3_w5.out hbv)
    have Hg3_w6 := hide (held_below Hg3_w5.out hbv)
    have Hd4_w6 := hide (held_below Hd4_w5.out hbv)
    have Hg4_w6 := hide (held_below Hg4_w5.out hbv)
    have Hd5_w6 := hide (held_below Hd5_w5.out hbv)
    have HB_w6 : Hid (Below w.heap.size w w6) := hide (HB_w5.out.trans (hbv.mono HB_w5.out.size))
    clear hnv hbv
    go_wp2_with fail
    rw [← hnw, ← hg]
    clear hnw hg 
    refine (HN5.out _).mono ?_
    rintro e w7 ⟨u6, rfl, hown, hb⟩
    have Hd3_w7 := hide (held_below Hd3_w6.out hb)
    have Hg3_w7 := hide (held_below Hg3_w6.out hb)
    have Hd4_w7 := hide (held_below Hd4_w6.out hb)
    have Hg4_w7 := hide (held_below Hg4_w6.out hb)
    have Hd5_w7 := hide (held_below Hd5_w6.out hb)
    have Hg5_w7 := hide (held_below Hg5_w6.out hb)
    have HB_w7 : Hid (Below w.heap.size w w7) := hide (HB_w6.out.trans (hb.mono HB_w6.out.size))
    clear hb
    have Hd6_w7 := hide (held_disk hown)
    obtain ⟨x6, c6, y6, d6, rfl⟩ := disk_form hown
    clear hown
    obtain ⟨g6, hg⟩ : ∃ g, g = w7.heap.size := ⟨_, rfl⟩
    obtain ⟨w8, hnw⟩ : ∃ wx, wx = w7.alloc (Obj.cells #[.slice x6 np.length c6, .slice y6 nl.length d6] 27) := ⟨_, rfl⟩
    have hnv := new_var w7 (.slice x6 np.length c6) (.slice y6 nl.length d6) 27
    rw [← hnw, ← hg] at hnv
    have hbv : Below w7.heap.size w7 w8 := by rw [← hg]; exact hnv.1
    have Hg6_w8 := hide hnv.2
    have Hgtg6 : Hid (w7.heap.size = g6) := hide hg.symm
    have Hd3_w8 := hide (held_below Hd3_w7.out hbv)
    have Hg3_w8 := hide (held_below Hg3_w7.out hbv)
    have Hd4_w8 := hide (held_below Hd4_w7.out hbv)
    have Hg4_w8 := hide (held_below Hg4_w7.out hbv)
    have Hd5_w8 := hide (held_below Hd5_w7.out hbv)
    have Hg5_w8 := hide (held_below Hg5_w7.out hbv)
    have Hd6_w8 := hide (held_below Hd6_w7.out hbv)
    have HB_w8 : Hid (Below w.heap.size w w8) := hide (HB_w7.out.trans (hbv.mono HB_w7.out.size))
    clear hnv hbv
    go_wp2_with fail
    rw [← hnw, ← hg]
    clear hnw hg 
    refine (HN3.out _).mono ?_
    rintro e w9 ⟨u7, rfl, hown, hb⟩
    have Hd3_w9 := hide (held_below Hd3_w8.out hb)
    have Hg3_w9 := hide (held_below Hg3_w8.out hb)
    have Hd4_w9 := hide (held_below Hd4_w8.out hb)
    have Hg4_w9 := hide (held_below Hg4_w8.out hb)
    have Hd5_w9 := hide (held_below Hd5_w8.out hb)
    have Hg5_w9 := hide (held_below Hg5_w8.out hb)
    have Hd6_w9 := hide (held_below Hd6_w8.out hb)
    have Hg6_w9 := hide (held_below Hg6_w8.out hb)
    have HB_w9 : Hid (Below w.heap.size w w9) := hide (HB_w8.out.trans (hb.mono HB_w8.out.size))
    clear hb
    have Hd7_w9 := hide (held_disk hown)
    obtain ⟨x7, c7, y7, d7, rfl⟩ := disk_form hown
    clear hown
    obtain ⟨g7, hg⟩ : ∃ g, g = w9.heap.size := ⟨_, rfl⟩
    obtain ⟨w10, hnw⟩ : ∃ wx, wx = w9.alloc (Obj.cells #[.slice x7 n3.length c7, .slice y7 nl.length d7] 27) := ⟨_, rfl⟩
    have hnv := new_var w9 (.slice x7 n3.length c7) (.slice y7 nl.length d7) 27
    rw [← hnw, ← hg] at hnv
    have hbv : Below w9.heap.size w9 w10 := by rw [← hg]; exact hnv.1
    have Hg7_w10 := hide hnv.2
    have Hgtg7 : Hid (w9.heap.size = g7) := hide hg.symm
    have Hd3_w10 := hide (held_below Hd3_w9.out hbv)
    have Hg3_w10 := hide (held_below Hg3_w9.out hbv)
    have Hd4_w10 := hide (held_below Hd4_w9.out hbv)
    have Hg4_w10 := hide (held_below Hg4_w9.out hbv)
    have Hd5_w10 := hide (held_below Hd5_w9.out hbv)
    have Hg5_w10 := hide (held_below Hg5_w9.out hbv)
    have Hd6_w10 := hide (held_below Hd6_w9.out hbv)
    have Hg6_w10 := hide (held_below Hg6_w9.out hbv)
    have HB_w10 : Hid (Below w.heap.size w w10) := hide (HB_w9.out.trans (hbv.mono HB_w9.out.size))
    clear hnv hbv
    go_wp2_with fail
    rw [← hnw, ← hg]
    clear hnw hg 
    have HLe : Hid (g3 < w10.heap.size ∧ g4 < w10.heap.size ∧ g5 < w10.heap.size ∧ g6 < w10.heap.size) := hide ⟨Hg3_w10.out.le, Hg4_w10.out.le, Hg5_w10.out.le, Hg6_w10.out.le⟩
    go_loopg [10] ps.length (fun q iv wr => ∃ k : Nat, k ≤ ps.length ∧ iv = .int .i64 (k : Int) ∧ q + k = ps.length ∧ Hid (Below w10.heap.size w10 wr))
    case atStart => exact ⟨0, Nat.zero_le _, rfl, rfl, hide (Below.refl _ _)⟩
    case round =>
      obtain ⟨k, hk, rfl, hg, HBw⟩ := hrel
      have HG := hide hg
      clear hg
      have Hv3 := hide (held_below Hg3_w10.out HBw.out)
      have Hv4 := hide (held_below Hg4_w10.out HBw.out)
      have He3 := hide (held_below Hd3_w10.out HBw.out)
      have He4 := hide (held_below Hd4_w10.out HBw.out)
      have HBa : Hid (Below w.heap.size w wr) := hide (HB_w10.out.trans (HBw.out.mono HB_w10.out.size))
      obtain ⟨c30, c31⟩ := held_cells Hv3.out
      by_cases hlt : k < ps.length
      · have hkr : k < rs.length := by have := HRl.out; omega
        obtain ⟨b, rfl, hcell⟩ := page_cell He4.out.is.1 rfl hkr
        obtain ⟨t, ht⟩ : ∃ t, t = readD ps ls (k : Int) := ⟨_, rfl⟩
        rw [show rs.getD k ⟨#[]⟩ = t from by rw [HRs.out, ht]; exact sync_page ps ls k hlt] at hcell
        have HRt := hide (fun u wx h => HRd.out (k : Int) u wx h)
        rw [← ht] at HRt
        obtain ⟨c40, c41⟩ := held_cells Hv4.out
        have hltb : b < wr.heap.size := World.block_lt_of_cell? wr _ hcell
        have hlt3 : g3 < wr.heap.size := Hv3.out.le
        have hlt4 : g4 < wr.heap.size := Hv4.out.le
        have hi0 : (0 : Int) ≤ (k : Int) := by omega
        have hi1 : (k : Int) < (rs.length : Int) := by omega
        have hi2 : (k : Int) < (ps.length : Int) := by omega
        clear ht
        go_wp2_with fail
        go_region_held3 (fun wx => wx.cell? ⟨g4, 0, none⟩ = some (.slice (some ⟨b, 0, none⟩) rs.length c4) ∧ wx.cell? ⟨b, k, none⟩ = some (.string t) ∧ wx.cell? ⟨g3, 0, none⟩ = some (.slice x3 ps.length c3) ∧ wx.cell? ⟨g3, 1, none⟩ = some (.slice y3 ls.length d3)) (first | exact ⟨c40, hcell, c30, c31⟩ | exact hS1) ((go_at_call 18; refine (HRt.out _ _ ?_).mono ?_; exact disk_drew (disk_of_own He3.out.is.1); rintro e wy ⟨rfl, hby⟩; have hS1 : wy.cell? ⟨g4, 0, none⟩ = some (.slice (some ⟨b, 0, none⟩) rs.length c4) ∧ wy.cell? ⟨b, k, none⟩ = some (.string t) ∧ wy.cell? ⟨g3, 0, none⟩ = some (.slice x3 ps.length c3) ∧ wy.cell? ⟨g3, 1, none⟩ = some (.slice y3 ls.length d3) := ⟨(hby.cell (by exact hlt4)).trans c40, (hby.cell (by exact hltb)).trans hcell, (hby.cell (by exact hlt3)).trans c30, (hby.cell (by exact hlt3)).trans c31⟩))
        have HB2 : Hid (Below w10.heap.size w10 wy) := hide (HBw.out.trans (((Below.refl _ _).drew.trans hby).mono HBw.out.size))
        clear hby c40 c41 c30 c31 hcell hS1
        go_wp2_with fail
        go_roundg (gk - 1)
        case measure => have := HG.out; omega
        case rel => exact ⟨k + 1, by omega, by go_num, by have := HG.out; omega, HB2⟩
      · have He5 := hide (held_below Hd5_w10.out HBw.out)
        have Hv5 := hide (held_below Hg5_w10.out HBw.out)
        have Hv6 := hide (held_below Hg6_w10.out HBw.out)
        rw [HNl.out, HRl.out] at Hv4 He4
        rw [HNp.out] at Hv6
        obtain ⟨c40, c41⟩ := held_cells Hv4.out
        obtain ⟨c50, c51⟩ := held_cells Hv5.out
        obtain ⟨c60, c61⟩ := held_cells Hv6.out
        have hS0 : (wr.cell? ⟨g3, 0, none⟩ = some (.slice x3 ps.length c3) ∧ wr.cell? ⟨g3, 1, none⟩ = some (.slice y3 ls.length d3) ∧ wr.cell? ⟨g4, 0, none⟩ = some (.slice x4 ps.length c4) ∧ wr.cell? ⟨g4, 1, none⟩ = some (.slice y4 0 d4) ∧ wr.cell? ⟨g5, 0, none⟩ = some (.slice x5 qs.length c5) ∧ wr.cell? ⟨g5, 1, none⟩ = some (.slice y5 ms.length d5) ∧ wr.cell? ⟨g6, 0, none⟩ = some (.slice x6 5 c6)) := ⟨c30, c31, c40, c41, c50, c51, c60⟩
        have HSB : Hid (∀ wx, Below wr.heap.size wr wx → (wx.cell? ⟨g3, 0, none⟩ = some (.slice x3 ps.length c3) ∧ wx.cell? ⟨g3, 1, none⟩ = some (.slice y3 ls.length d3) ∧ wx.cell? ⟨g4, 0, none⟩ = some (.slice x4 ps.length c4) ∧ wx.cell? ⟨g4, 1, none⟩ = some (.slice y4 0 d4) ∧ wx.cell? ⟨g5, 0, none⟩ = some (.slice x5 qs.length c5) ∧ wx.cell? ⟨g5, 1, none⟩ = some (.slice y5 ms.length d5) ∧ wx.cell? ⟨g6, 0, none⟩ = some (.slice x6 5 c6))) := hide (fun wx hb => ⟨(hb.cell (by exact Hv3.out.le)).trans c30, (hb.cell (by exact Hv3.out.le)).trans c31, (hb.cell (by exact Hv4.out.le)).trans c40, (hb.cell (by exact Hv4.out.le)).trans c41, (hb.cell (by exact Hv5.out.le)).trans c50, (hb.cell (by exact Hv5.out.le)).trans c51, (hb.cell (by exact Hv6.out.le)).trans c60⟩)
        go_wp2_with fail
        go_region_held3 (fun wx => (wx.cell? ⟨g3, 0, none⟩ = some (.slice x3 ps.length c3) ∧ wx.cell? ⟨g3, 1, none⟩ = some (.slice y3 ls.length d3) ∧ wx.cell? ⟨g4, 0, none⟩ = some (.slice x4 ps.length c4) ∧ wx.cell? ⟨g4, 1, none⟩ = some (.slice y4 0 d4) ∧ wx.cell? ⟨g5, 0, none⟩ = some (.slice x5 qs.length c5) ∧ wx.cell? ⟨g5, 1, none⟩ = some (.slice y5 ms.length d5) ∧ wx.cell? ⟨g6, 0, none⟩ = some (.slice x6 5 c6))) (first | exact hS0 | exact hSA | exact hSB | exact hSBo _ | exact hSC | exact hSD | exact hSE | exact hSF) (first | (go_at_call 16; refine (HSr.out _ _ ?_).mono ?_; exact disk_drew (disk_of_own He4.out.is.1); rintro e wA ⟨uA, rfl, hownA, hbA⟩; have hA : Below wr.heap.size wr wA := (Below.refl _ _).drew.trans hbA; have hSA := HSB.out _ hA) | (go_at_call 24; refine (HSm2.out _ _ _ ?_ ?_).mono ?_; exact disk_of_own hownC; exact disk_below (disk_of_own He4.out.is.1) hC; rintro e wD ⟨rfl, hbD⟩; have hD : Below wr.heap.size wr wD := hC.trans (hbD.mono hC.size); have hSD := HSB.out _ hD) | (go_at_call 24; refine (HSm2.out _ _ _ ?_ ?_).mono ?_; exact disk_of_own hownA; exact disk_below (disk_of_own He4.out.is.1) hA; rintro e wB ⟨rfl, hbB⟩; have hB : Below wr.heap.size wr wB := hA.trans (hbB.mono hA.size); have hSB := HSB.out _ hB; have hSBo := fun o => HSB.out _ (hB.alloc hB.size o)) | (go_at_call 21; refine (HFr.out _ _ _ ?_ ?_).mono ?_; exact disk_below (disk_of_own He4.out.is.1) (hB.alloc hB.size _); exact bools_one wB true; rintro e wC ⟨uC, rfl, hownC, hbC⟩; have hC : Below wr.heap.size wr wC := (hB.alloc hB.size _).trans (hbC.mono (hB.alloc hB.size _).size); have hSC := HSB.out _ hC) | (go_at_call 19; refine (HOi.out _ _ ?_).mono ?_; exact disk_below (disk_of_own He5.out.is.1) hD; rintro e wE ⟨rfl, hbE⟩; have hE : Below wr.heap.size wr wE := hD.trans (hbE.mono hD.size); have hSE := HSB.out _ hE) | (go_at_call 28; refine (HOs.out _ _ ?_).mono ?_; exact disk_below (disk_of_own He5.out.is.1) hE; rintro e wF ⟨rfl, hbF⟩; have hF : Below wr.heap.size wr wF := hE.trans (hbF.mono hE.size); have hSF := HSB.out _ hF))
        go_wp2_with fail
        go_ret
        exact ⟨rfl, HBa.out.trans (hF.mono HBa.out.size)⟩
end Go.Proofs.Ytjjjnloimpehbaa
