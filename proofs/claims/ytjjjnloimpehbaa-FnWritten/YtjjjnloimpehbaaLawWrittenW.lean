/-
  laws.FnWritten returns true at every code of at most 1048576 bytes (and at a longer one at once): what is written to a page of a drawn disk is read, late or kept; all other pages stay.
-/
import Derived.Test.YtjjjnloimpehbaaDrawLaw
namespace Go.Proofs.Ytjjjnloimpehbaa
open Go.RowKit

set_option maxHeartbeats 8000000 in
set_option maxRecDepth 100000 in
theorem lawWritten (a : Option Addr) (len cap : Nat) (w : World) (hd : 1048576 < len ∨ CodeIn w w.heap.size a len) :
    Calls Try.prog 3 #[.slice a len cap] w fun e w' => e = .returned (.bool true) ∧ Below w.heap.size w w' := by
  by_cases hbig : 1048576 < len
  · clear hd
    go_enter Try.func3, Try.ntmps3
    go_wp2_with fail
    refine (big_yes a len cap hbig _).mono ?_
    rintro e w1 ⟨rfl, rfl⟩
    go_wp2_with fail
    go_ret
    exact ⟨rfl, Below.refl _ _⟩
  · have HD : Hid (CodeIn w w.heap.size a len) := hide (hd.resolve_left hbig)
    clear hd
    have HB_w : Hid (Below w.heap.size w w) := hide (Below.refl _ _)
    obtain ⟨nl, hnl⟩ : ∃ nl, nl = ([] : List (Int × ByteArray)) := ⟨_, rfl⟩
    have HNl : Hid (nl.length = 0) := hide (by rw [hnl]; rfl)
    go_enter Try.func3, Try.ntmps3
    go_wp2_with fail
    refine (big_no a len cap (by omega) _).mono ?_
    rintro e w1 ⟨rfl, rfl⟩
    go_wp2_with fail
    refine (drawDisk_any a len cap _ HD.out).mono ?_
    rintro e w1 ⟨v1, ps, ls, rfl, hok, hp7, hl8, hown, hb⟩
    have HB_w1 : Hid (Below w.heap.size w w1) := hide (HB_w.out.trans (hb.mono HB_w.out.size))
    clear hb
    have HSm := hide (small_ok hok hp7 hl8)
    have HOk := hide hok
    have HN4 : Hid (4 ≤ ps.length) := hide (diskOk_yes hok).2.2.1
    have HBd := hide (small_bounds HSm.out)
    have HRd := hide (fun i u wx h => specReadPage_any u ps ls HBd.out.1 HBd.out.2.1 i wx h)
    have HWx := hide (fun u wx h => implWritePage_any u ps ls (ps.length : Int) ⟨#[120]⟩ (by decide) HBd.out.1 HBd.out.2.1 HBd.out.2.2.1 HBd.out.2.2.2 wx h)
    have hno := writeOk_no (ps := ps) (ls := ls) (page := (ps.length : Int)) (text := ⟨#[120]⟩) (fun h => by have := h.2.1; omega)
    rw [hno.1, hno.2] at HWx
    have HOd := hide (fun u wx h => implDiskOk_any u ps ls HBd.out.1 HBd.out.2.1 HBd.out.2.2.1 HBd.out.2.2.2 wx h)
    rw [hok] at HOd
    have HRm := hide (fun u wx h => implReadPage_any u ps ls HBd.out.1 HBd.out.2.1 HBd.out.2.2.1 HBd.out.2.2.2 (-1) wx h)
    rw [readD_out (Or.inl (by omega))] at HRm
    clear hno
    have Hd3_w1 := hide (held_disk hown)
    obtain ⟨x3, c3, y3, d3, rfl⟩ := disk_form hown
    clear hown
    obtain ⟨g3, hg⟩ : ∃ g, g = w1.heap.size := ⟨_, rfl⟩
    obtain ⟨w2, hnw⟩ : ∃ wx, wx = w1.alloc (Obj.cells #[.slice x3 ps.length c3, .slice y3 ls.length d3] 27) := ⟨_, rfl⟩
    have hnv := new_var w1 (.slice x3 ps.length c3) (.slice y3 ls.length d3) 27
    rw [← hnw, ← hg] at hnv
    have hbv : Below w1.heap.size w1 w2 := by rw [← hg]; exact hnv.1
    have Hg3_w2 := hide hnv.2
    have Hgtg3 : Hid (w1.heap.size = g3) := hide hg.symm
    have Hd3_w2 := hide (held_below Hd3_w1.out hbv)
    have HB_w2 : Hid (Below w.heap.size w w2) := hide (HB_w1.out.trans (hbv.mono HB_w1.out.size))
    clear hnv hbv
    go_wp2_with fail
    rw [← hnw, ← hg]
    clear hnw hg 
    refine (drawPlaces_any a len cap _ (code_at HD.out HB_w2.out)).mono ?_
    rintro e w3 ⟨pv, zs, hzl, hz, rfl, hown, hb⟩
    have Hd3_w3 := hide (held_below Hd3_w2.out hb)
    have Hg3_w3 := hide (held_below Hg3_w2.out hb)
    have HB_w3 : Hid (Below w.heap.size w w3) := hide (HB_w2.out.trans (hb.mono HB_w2.out.size))
    clear hb
    obtain ⟨gp, cp, hpv⟩ : ∃ gp cp, pv = .slice (some ⟨gp, 0, none⟩) 12 cp := by
      rcases hown.2 with ⟨_, h0⟩ | ⟨g, c, cur, e1, _⟩
      · omega
      · exact ⟨g, c, e1⟩
    subst hpv
    obtain ⟨z0, hz0⟩ : ∃ z, zs[0]? = some z := ⟨zs[0], by simp⟩
    have hb0 : z0 < 10000 := hz z0 (List.mem_of_getElem? hz0)
    have h1 : w3.cell? ⟨gp, 0, none⟩ = some (.int .i64 (z0 : Int)) := by rw [hown.cellAt 0 (by omega), intVs, List.getElem?_map, hz0]; rfl
    clear hown hz hz0 hzl
    obtain ⟨pg, hpg⟩ : ∃ pg, pg = z0 % ps.length := ⟨_, rfl⟩
    have hpl : pg < ps.length := by rw [hpg]; exact Nat.mod_lt _ (by have := HN4.out; omega)
    have hm1 : (z0 : Int) % (ps.length : Int) = (pg : Int) := by rw [hpg]; simp
    have hm2 : (z0 : Int).tmod (ps.length : Int) = (pg : Int) := by rw [Int.tmod_eq_emod_of_nonneg (by omega), hm1]
    have hne : ¬ ((ps.length : Int) = 0) := by have := HN4.out; omega
    have hpgs : (pg : Int) ≤ 1000000 := by have := HBd.out.1; omega
    obtain ⟨lw, hlw⟩ : ∃ lw, lw = ls ++ [((pg : Int), ⟨#[116, 101, 120, 116]⟩)] := ⟨_, rfl⟩
    have HLw := hide hlw
    have hyes := writeOk_yes (ps := ps) (ls := ls) (page := (pg : Int)) (text := ⟨#[116, 101, 120, 116]⟩) hok (by omega) (by decide) (by omega)
    have HWt := hide (fun u wx h => implWritePage_any u ps ls (pg : Int) ⟨#[116, 101, 120, 116]⟩ (by decide) HBd.out.1 HBd.out.2.1 HBd.out.2.2.1 HBd.out.2.2.2 wx h)
    rw [hyes.1, hyes.2, ← hlw] at HWt
    have HOkn : Hid (diskOkB ps lw = true) := hide (by rw [hlw, ← hyes.2]; exact writeL_ok hok)
    have hbn : ps.length ≤ 1048576 ∧ lw.length ≤ 1048576 ∧ (∀ s ∈ ps, s.size ≤ 1048576) ∧ ∀ p ∈ lw, p.2.size ≤ 1048576 := by
      obtain ⟨h1, h2, h3, h4, h5⟩ := diskOk_yes HOkn.out
      exact ⟨by omega, by omega, fun s hs => by have := h1 s hs; omega, fun p hp => by have := (h2 p hp).2.2; omega⟩
    have HBn := hide hbn
    have HSy := hide (fun u wx h => implSyncDisk_any u ps lw HBn.out.1 HBn.out.2.1 HBn.out.2.2.1 HBn.out.2.2.2 wx h)
    have HOn := hide (fun u wx h => implDiskOk_any u ps lw HBn.out.1 HBn.out.2.1 HBn.out.2.2.1 HBn.out.2.2.2 wx h)
    rw [HOkn.out] at HOn
    have HRn := hide (fun i u wx h => implReadPage_any u ps lw HBn.out.1 HBn.out.2.1 HBn.out.2.2.1 HBn.out.2.2.2 i wx h)
    obtain ⟨rs, hrs⟩ : ∃ rs, rs = syncD ps lw := ⟨_, rfl⟩
    have HRs := hide hrs
    have HRl : Hid (rs.length = ps.length) := hide (by rw [hrs]; exact syncD_length _ _)
    rw [← hrs, ← hnl] at HSy
    have hbr : rs.length ≤ 1048576 ∧ nl.length ≤ 1048576 ∧ (∀ s ∈ rs, s.size ≤ 1048576) ∧ ∀ p ∈ nl, p.2.size ≤ 1048576 := by
      rw [hrs, hnl]
      exact ⟨by rw [syncD_length]; exact HBn.out.1, by simp, syncD_size HBn.out.2.2.1 HBn.out.2.2.2, fun p hp => by cases hp⟩
    have HRr := hide (fun i u wx h => implReadPage_any u rs nl hbr.1 hbr.2.1 hbr.2.2.1 hbr.2.2.2 i wx h)
    have HPr : Hid (∀ i : Nat, i < ps.length → readD rs nl (i : Int) = readD ps lw (i : Int)) := hide (fun i hi => by rw [hrs, hnl]; exact sync_read ps lw i hi)
    have HPo : Hid (∀ i : Nat, i < ps.length → i ≠ pg → readD ps lw (i : Int) = readD ps ls (i : Int)) := hide (fun i hi hn => by rw [hlw]; exact read_other (by omega))
    have HPw : Hid (readD ps lw (pg : Int) = ⟨#[116, 101, 120, 116]⟩) := hide (by rw [hlw]; exact read_written (by omega))
    clear hrs hok hyes hbn hbr hlw hnl hpg hb0
    obtain ⟨cd0, cd1⟩ := held_cells Hg3_w3.out
    go_wp2_with fail
    go_region
    clear cd0 cd1
    obtain ⟨w4, hw4⟩ : ∃ w4, w4 = w3.drew := ⟨_, rfl⟩
    have hb : Below w3.heap.size w3 w4 := by rw [hw4]; exact (Below.refl _ _).drew
    rw [← hw4]
    have Hd3_w4 := hide (held_below Hd3_w3.out hb)
    have Hg3_w4 := hide (held_below Hg3_w3.out hb)
    have HB_w4 : Hid (Below w.heap.size w w4) := hide (HB_w3.out.trans (hb.mono HB_w3.out.size))
    clear hb hw4 h1 hm1 hm2 hne
    obtain ⟨cd0, cd1⟩ := held_cells Hg3_w4.out
    go_wp2_with fail
    clear cd0 cd1
    refine (HWt.out _ _ (disk_of_own Hd3_w4.out.is.1)).mono ?_
    rintro e w5 ⟨u6, rfl, hown, hb⟩
    have Hd3_w5 := hide (held_below Hd3_w4.out hb)
    have Hg3_w5 := hide (held_below Hg3_w4.out hb)
    have HB_w5 : Hid (Below w.heap.size w w5) := hide (HB_w4.out.trans (hb.mono HB_w4.out.size))
    clear hb
    have Hd6_w5 := hide (held_disk hown)
    obtain ⟨x6, c6, y6, d6, rfl⟩ := disk_form hown
    clear hown
    obtain ⟨g6, hg⟩ : ∃ g, g = w5.heap.size := ⟨_, rfl⟩
    obtain ⟨w6, hnw⟩ : ∃ wx, wx = w5.alloc (Obj.cells #[.slice x6 ps.length c6, .slice y6 lw.length d6] 27) := ⟨_, rfl⟩
    have hnv := new_var w5 (.slice x6 ps.length c6) (.slice y6 lw.length d6) 27
    rw [← hnw, ← hg] at hnv
    have hbv : Below w5.heap.size w5 w6 := by rw [← hg]; exact hnv.1
    have Hg6_w6 := hide hnv.2
    have Hgtg6 : Hid (w5.heap.size = g6) := hide hg.symm
    have Hd3_w6 := hide (held_below Hd3_w5.out hbv)
    have Hg3_w6 := hide (held_below Hg3_w5.out hbv)
    have Hd6_w6 := hide (held_below Hd6_w5.out hbv)
    have HB_w6 : Hid (Below w.heap.size w w6) := hide (HB_w5.out.trans (hbv.mono HB_w5.out.size))
    clear hnv hbv
    go_wp2_with fail
    rw [← hnw, ← hg]
    clear hnw hg 
    refine (HSy.out _ _ (disk_of_own Hd6_w6.out.is.1)).mono ?_
    rintro e w7 ⟨u8, rfl, hown, hb⟩
    have Hd3_w7 := hide (held_below Hd3_w6.out hb)
    have Hg3_w7 := hide (held_below Hg3_w6.out hb)
    have Hd6_w7 := hide (held_below Hd6_w6.out hb)
    have Hg6_w7 := hide (held_below Hg6_w6.out hb)
    have HB_w7 : Hid (Below w.heap.size w w7) := hide (HB_w6.out.trans (hb.mono HB_w6.out.size))
    clear hb
    have Hd8_w7 := hide (held_disk hown)
    obtain ⟨x8, c8, y8, d8, rfl⟩ := disk_form hown
    clear hown
    obtain ⟨g8, hg⟩ : ∃ g, g = w7.heap.size := ⟨_, rfl⟩
    obtain ⟨w8, hnw⟩ : ∃ wx, wx = w7.alloc (Obj.cells #[.slice x8 rs.length c8, .slice y8 nl.length d8] 27) := ⟨_, rfl⟩
    have hnv := new_var w7 (.slice x8 rs.length c8) (.slice y8 nl.length d8) 27
    rw [← hnw, ← hg] at hnv
    have hbv : Below w7.heap.size w7 w8 := by rw [← hg]; exact hnv.1
    have Hg8_w8 := hide hnv.2
    have Hgtg8 : Hid (w7.heap.size = g8) := hide hg.symm
    have Hd3_w8 := hide (held_below Hd3_w7.out hbv)
    have Hg3_w8 := hide (held_below Hg3_w7.out hbv)
    have Hd6_w8 := hide (held_below Hd6_w7.out hbv)
    have Hg6_w8 := hide (held_below Hg6_w7.out hbv)
    have Hd8_w8 := hide (held_below Hd8_w7.out hbv)
    have HB_w8 : Hid (Below w.heap.size w w8) := hide (HB_w7.out.trans (hbv.mono HB_w7.out.size))
    clear hnv hbv
    go_wp2_with fail
    rw [← hnw, ← hg]
    clear hnw hg 
    go_loopg [9] ps.length (fun q iv wr => ∃ k : Nat, k ≤ ps.length ∧ iv = .int .i64 (k : Int) ∧ q + k = ps.length ∧ Hid (Below w8.heap.size w8 wr))
    case atStart => exact ⟨0, Nat.zero_le _, rfl, rfl, hide (Below.refl _ _)⟩
    case round =>
      obtain ⟨k, hk, rfl, hg, HBw⟩ := hrel
      have HG := hide hg
      clear hg
      have Hv3 := hide (held_below Hg3_w8.out HBw.out)
      have Hv6 := hide (held_below Hg6_w8.out HBw.out)
      have Hv8 := hide (held_below Hg8_w8.out HBw.out)
      have He3 := hide (held_below Hd3_w8.out HBw.out)
      have He6 := hide (held_below Hd6_w8.out HBw.out)
      have He8 := hide (held_below Hd8_w8.out HBw.out)
      have HBa : Hid (Below w.heap.size w wr) := hide (HB_w8.out.trans (HBw.out.mono HB_w8.out.size))
      obtain ⟨c30, c31⟩ := held_cells Hv3.out
      by_cases hlt : k < ps.length
      · by_cases hkp : k = pg
        · subst hkp
          obtain ⟨c60, c61⟩ := held_cells Hv6.out
          obtain ⟨c80, c81⟩ := held_cells Hv8.out
          have hi2 : (k : Int) < (ps.length : Int) := by omega
          go_wp2_with fail
          go_quiet (fail)
          have HB2 : Hid (Below w8.heap.size w8 (wr.drewN nq)) := hide (below_drewN HBw.out _)
          clear c30 c31 c60 c61 c80 c81
          go_wp2_with fail
          go_roundg (gk - 1)
          case measure => have := HG.out; omega
          case rel => exact ⟨k + 1, by omega, by go_num, by have := HG.out; omega, HB2⟩
        · obtain ⟨c60, c61⟩ := held_cells Hv6.out
          obtain ⟨c80, c81⟩ := held_cells Hv8.out
          obtain ⟨t, ht⟩ : ∃ t, t = readD ps ls (k : Int) := ⟨_, rfl⟩
          have HRt := hide (fun u wx h => HRd.out (k : Int) u wx h)
          have HRu := hide (fun u wx h => HRn.out (k : Int) u wx h)
          have HRv := hide (fun u wx h => HRr.out (k : Int) u wx h)
          rw [← ht] at HRt
          rw [HPo.out k hlt hkp, ← ht] at HRu
          rw [HPr.out k hlt, HPo.out k hlt hkp, ← ht] at HRv
          have hi2 : (k : Int) < (ps.length : Int) := by omega
          have hkne : ((k : Int) != (pg : Int)) = true := by simp; omega
          have hS0 : (wr.cell? ⟨g3, 0, none⟩ = some (.slice x3 ps.length c3) ∧ wr.cell? ⟨g3, 1, none⟩ = some (.slice y3 ls.length d3) ∧ wr.cell? ⟨g6, 0, none⟩ = some (.slice x6 ps.length c6) ∧ wr.cell? ⟨g6, 1, none⟩ = some (.slice y6 lw.length d6) ∧ wr.cell? ⟨g8, 0, none⟩ = some (.slice x8 rs.length c8) ∧ wr.cell? ⟨g8, 1, none⟩ = some (.slice y8 nl.length d8)) := ⟨c30, c31, c60, c61, c80, c81⟩
          have HSB : Hid (∀ wx, Below wr.heap.size wr wx → (wx.cell? ⟨g3, 0, none⟩ = some (.slice x3 ps.length c3) ∧ wx.cell? ⟨g3, 1, none⟩ = some (.slice y3 ls.length d3) ∧ wx.cell? ⟨g6, 0, none⟩ = some (.slice x6 ps.length c6) ∧ wx.cell? ⟨g6, 1, none⟩ = some (.slice y6 lw.length d6) ∧ wx.cell? ⟨g8, 0, none⟩ = some (.slice x8 rs.length c8) ∧ wx.cell? ⟨g8, 1, none⟩ = some (.slice y8 nl.length d8))) := hide (fun wx hb => ⟨(hb.cell (by exact Hv3.out.le)).trans c30, (hb.cell (by exact Hv3.out.le)).trans c31, (hb.cell (by exact Hv6.out.le)).trans c60, (hb.cell (by exact Hv6.out.le)).trans c61, (hb.cell (by exact Hv8.out.le)).trans c80, (hb.cell (by exact Hv8.out.le)).trans c81⟩)
          clear ht
          go_wp2_with fail
          go_region_held3 (fun wx => (wx.cell? ⟨g3, 0, none⟩ = some (.slice x3 ps.length c3) ∧ wx.cell? ⟨g3, 1, none⟩ = some (.slice y3 ls.length d3) ∧ wx.cell? ⟨g6, 0, none⟩ = some (.slice x6 ps.length c6) ∧ wx.cell? ⟨g6, 1, none⟩ = some (.slice y6 lw.length d6) ∧ wx.cell? ⟨g8, 0, none⟩ = some (.slice x8 rs.length c8) ∧ wx.cell? ⟨g8, 1, none⟩ = some (.slice y8 nl.length d8))) (first | exact hS0 | exact hSA | exact hSB | exact hSC | exact hSD) (first | (go_at_call 18; have hgD := hC; refine (HRt.out _ _ ?_).mono ?_; exact disk_below (disk_of_own He3.out.is.1) hC; rintro e wD ⟨rfl, hbD⟩; have hD : Below wr.heap.size wr wD := hC.trans (hbD.mono hC.size); have hSD := HSB.out _ hD) | (go_at_call 17; have hgC := hB; refine (HRv.out _ _ ?_).mono ?_; exact disk_below (disk_of_own He8.out.is.1) hB; rintro e wC ⟨rfl, hbC⟩; have hC : Below wr.heap.size wr wC := hB.trans (hbC.mono hB.size); have hSC := HSB.out _ hC) | (go_at_call 18; refine (HRt.out _ _ ?_).mono ?_; exact disk_below (disk_of_own He3.out.is.1) hA; rintro e wB ⟨rfl, hbB⟩; have hB : Below wr.heap.size wr wB := hA.trans (hbB.mono hA.size); have hSB := HSB.out _ hB) | (go_at_call 17; refine (HRu.out _ _ ?_).mono ?_; exact disk_drew (disk_of_own He6.out.is.1); rintro e wA ⟨rfl, hbA⟩; have hA : Below wr.heap.size wr wA := (Below.refl _ _).drew.trans hbA; have hSA := HSB.out _ hA))
          have HB2 : Hid (Below w8.heap.size w8 wD) := hide (HBw.out.trans (hD.mono HBw.out.size))
          clear hA hB hC hD hbA hbB hbC hbD hS0 hSA hSB hSC hSD c30 c31 c60 c61 c80 c81
          go_wp2_with fail
          go_roundg (gk - 1)
          case measure => have := HG.out; omega
          case rel => exact ⟨k + 1, by omega, by go_num, by have := HG.out; omega, HB2⟩
      · have hbp : ∃ b, x3 = some ⟨b, 0, none⟩ ∧ wr.cell? ⟨b, pg, none⟩ = some (.string (ps.getD pg ⟨#[]⟩)) := page_cell He3.out.is.1 rfl hpl
        have HBp := hide hbp
        clear hbp
        go_wp2_with fail
        refine (HWx.out _ _ (disk_of_own He3.out.is.1)).mono ?_
        rintro e wn ⟨un, rfl, hown, hbn⟩
        obtain ⟨xn, cn, yn, dn, rfl⟩ := disk_form hown
        clear hown
        have Hv3n := hide (held_below Hv3.out hbn)
        have Hv6n := hide (held_below Hv6.out hbn)
        have Hv8n := hide (held_below Hv8.out hbn)
        have He3n := hide (held_below He3.out hbn)
        have He6n := hide (held_below He6.out hbn)
        have He8n := hide (held_below He8.out hbn)
        have HBn2 : Hid (Below w.heap.size w wn) := hide (HBa.out.trans (hbn.mono HBa.out.size))
        clear hbn c30 c31
        obtain ⟨g10, hg10⟩ : ∃ g, g = wn.heap.size := ⟨_, rfl⟩
        obtain ⟨wz, hwz⟩ : ∃ wx, wx = wn.alloc (Obj.cells #[.slice xn ps.length cn, .slice yn ls.length dn] 27) := ⟨_, rfl⟩
        have hbz : Below wn.heap.size wn wz := by rw [hwz]; exact (Below.refl _ _).alloc (Nat.le_refl _) _
        have Hz3 := hide (held_below Hv3n.out hbz)
        have Hz6 := hide (held_below Hv6n.out hbz)
        have Hz8 := hide (held_below Hv8n.out hbz)
        have Hy3 := hide (held_below He3n.out hbz)
        have Hy6 := hide (held_below He6n.out hbz)
        have Hy8 := hide (held_below He8n.out hbz)
        have HBz : Hid (Below w.heap.size w wz) := hide (HBn2.out.trans (hbz.mono HBn2.out.size))
        clear hbz HBp
        go_wp2_with fail
        rw [← hwz, ← hg10]
        clear hwz hg10
        obtain ⟨t2, ht2⟩ : ∃ t, t = ps.getD pg ⟨#[]⟩ := ⟨_, rfl⟩
        obtain ⟨bd, hx3, hcd⟩ := page_cell Hy3.out.is.1 rfl hpl
        obtain ⟨bn, hx6, hcn⟩ := page_cell Hy6.out.is.1 rfl hpl
        subst hx3 hx6
        rw [← ht2] at hcd hcn
        rw [HNl.out] at Hz8 Hy8
        obtain ⟨c30, c31⟩ := held_cells Hz3.out
        obtain ⟨c60, c61⟩ := held_cells Hz6.out
        obtain ⟨c80, c81⟩ := held_cells Hz8.out
        have hld : bd < wz.heap.size := World.block_lt_of_cell? wz _ hcd
        have hln : bn < wz.heap.size := World.block_lt_of_cell? wz _ hcn
        have HRu := hide (fun u wx h => HRn.out (pg : Int) u wx h)
        have HRv := hide (fun u wx h => HRr.out (pg : Int) u wx h)
        rw [HPw.out] at HRu
        rw [HPr.out pg hpl, HPw.out] at HRv
        have hj0 : (0 : Int) ≤ (pg : Int) := by omega
        have hj1 : (pg : Int) < (ps.length : Int) := by omega
        have hS0 : (wz.cell? ⟨g3, 0, none⟩ = some (.slice (some ⟨bd, 0, none⟩) ps.length c3) ∧ wz.cell? ⟨g3, 1, none⟩ = some (.slice y3 ls.length d3) ∧ wz.cell? ⟨g6, 0, none⟩ = some (.slice (some ⟨bn, 0, none⟩) ps.length c6) ∧ wz.cell? ⟨g6, 1, none⟩ = some (.slice y6 lw.length d6) ∧ wz.cell? ⟨g8, 0, none⟩ = some (.slice x8 rs.length c8) ∧ wz.cell? ⟨g8, 1, none⟩ = some (.slice y8 0 d8) ∧ wz.cell? ⟨bd, pg, none⟩ = some (.string t2) ∧ wz.cell? ⟨bn, pg, none⟩ = some (.string t2)) := ⟨c30, c31, c60, c61, c80, c81, hcd, hcn⟩
        have HSB : Hid (∀ wx, Below wz.heap.size wz wx → (wx.cell? ⟨g3, 0, none⟩ = some (.slice (some ⟨bd, 0, none⟩) ps.length c3) ∧ wx.cell? ⟨g3, 1, none⟩ = some (.slice y3 ls.length d3) ∧ wx.cell? ⟨g6, 0, none⟩ = some (.slice (some ⟨bn, 0, none⟩) ps.length c6) ∧ wx.cell? ⟨g6, 1, none⟩ = some (.slice y6 lw.length d6) ∧ wx.cell? ⟨g8, 0, none⟩ = some (.slice x8 rs.length c8) ∧ wx.cell? ⟨g8, 1, none⟩ = some (.slice y8 0 d8) ∧ wx.cell? ⟨bd, pg, none⟩ = some (.string t2) ∧ wx.cell? ⟨bn, pg, none⟩ = some (.string t2))) := hide (fun wx hb => ⟨(hb.cell (by exact Hz3.out.le)).trans c30, (hb.cell (by exact Hz3.out.le)).trans c31, (hb.cell (by exact Hz6.out.le)).trans c60, (hb.cell (by exact Hz6.out.le)).trans c61, (hb.cell (by exact Hz8.out.le)).trans c80, (hb.cell (by exact Hz8.out.le)).trans c81, (hb.cell (by exact hld)).trans hcd, (hb.cell (by exact hln)).trans hcn⟩)
        clear ht2 c30 c31 c60 c61 c80 c81 hcd hcn
        go_region_held3 (fun wx => (wx.cell? ⟨g3, 0, none⟩ = some (.slice (some ⟨bd, 0, none⟩) ps.length c3) ∧ wx.cell? ⟨g3, 1, none⟩ = some (.slice y3 ls.length d3) ∧ wx.cell? ⟨g6, 0, none⟩ = some (.slice (some ⟨bn, 0, none⟩) ps.length c6) ∧ wx.cell? ⟨g6, 1, none⟩ = some (.slice y6 lw.length d6) ∧ wx.cell? ⟨g8, 0, none⟩ = some (.slice x8 rs.length c8) ∧ wx.cell? ⟨g8, 1, none⟩ = some (.slice y8 0 d8) ∧ wx.cell? ⟨bd, pg, none⟩ = some (.string t2) ∧ wx.cell? ⟨bn, pg, none⟩ = some (.string t2))) (first | exact hS0 | exact hSA | exact hSB | exact hSC | exact hSD | exact hSE) (first | (go_at_call 17; have hgE := hD; refine (HRm.out _ _ ?_).mono ?_; exact disk_below (disk_of_own Hy3.out.is.1) hD; rintro e wE ⟨rfl, hbE⟩; have hE : Below wz.heap.size wz wE := hD.trans (hbE.mono hD.size); have hSE := HSB.out _ hE) | (go_at_call 17; have hgD := hC; refine (HRv.out _ _ ?_).mono ?_; exact disk_below (disk_of_own Hy8.out.is.1) hC; rintro e wD ⟨rfl, hbD⟩; have hD : Below wz.heap.size wz wD := hC.trans (hbD.mono hC.size); have hSD := HSB.out _ hD) | (go_at_call 17; refine (HRu.out _ _ ?_).mono ?_; exact disk_below (disk_of_own Hy6.out.is.1) hB; rintro e wC ⟨rfl, hbC⟩; have hC : Below wz.heap.size wz wC := hB.trans (hbC.mono hB.size); have hSC := HSB.out _ hC) | (go_at_call 19; have hgB := hA; refine (HOn.out _ _ ?_).mono ?_; exact disk_below (disk_of_own Hy6.out.is.1) hA; rintro e wB ⟨rfl, hbB⟩; have hB : Below wz.heap.size wz wB := hA.trans (hbB.mono hA.size); have hSB := HSB.out _ hB) | (go_at_call 19; refine (HOd.out _ _ ?_).mono ?_; exact disk_drew (disk_of_own Hy3.out.is.1); rintro e wA ⟨rfl, hbA⟩; have hA : Below wz.heap.size wz wA := (Below.refl _ _).drew.trans hbA; have hSA := HSB.out _ hA))
        go_wp2_with fail
        go_ret
        exact ⟨rfl, HBz.out.trans (hE.mono HBz.out.size)⟩
end Go.Proofs.Ytjjjnloimpehbaa
