/-
  laws.FnFalls returns true at every code of at most 1048576 bytes (and at a longer one at once): what falls of a drawn disk is, page by page, what was kept, or something that was late, whole, or half of it where it is torn.
-/
import Derived.Test.YtjjjnloimpehbaaDrawLaw
import Derived.Test.YtjjjnloimpehbaaDiskLawFall
import Derived.Test.YtjjjnloimpehbaaSame
namespace Go.Proofs.Ytjjjnloimpehbaa
open Go.RowKit

/-- a late one that is left, and that the page x is of -/
def WitAt (l : List Bool) (tn : Int) (ls : List (Int × ByteArray)) (x : ByteArray) (i j : Nat) : Prop := ∃ h : j < ls.length, ls[j].1 = (i : Int) ∧ l.getD j false = true ∧ x = fallT tn j ls[j].2

theorem fine_start {l : List Bool} {tn : Int} {ps : List ByteArray} {ls : List (Int × ByteArray)} (hok : diskOkB ps ls = true) {i : Nat} (hi : i < ps.length) {x y : ByteArray} (hx : x = (fallP l tn ps ls).getD i ⟨#[]⟩) (hy : y = ps.getD i ⟨#[]⟩) : x = y ∨ ∃ j, 0 ≤ j ∧ WitAt l tn ls x i j := by
  rw [fallP, if_pos hok] at hx
  rcases fallK_page l tn ps ls i hi ls.length (Nat.le_refl _) with h | ⟨k, h1, -, h3, h4, h5⟩
  · exact Or.inl (by rw [hx, hy, h])
  · exact Or.inr ⟨k, Nat.zero_le _, h1, h3, h4, by rw [hx]; exact h5⟩

theorem wit_pass {l : List Bool} {tn : Int} {ls : List (Int × ByteArray)} {x : ByteArray} {i k : Nat} (h : ∃ j, k ≤ j ∧ WitAt l tn ls x i j) (hn : ¬ WitAt l tn ls x i k) : ∃ j, k + 1 ≤ j ∧ WitAt l tn ls x i j := by
  obtain ⟨j, h1, h2⟩ := h
  have : j ≠ k := fun e => hn (e ▸ h2)
  exact ⟨j, by omega, h2⟩

theorem cells_rows {w : World} {B c d : Nat} {x y : Option Addr} {ps : List ByteArray} {ls : List (Int × ByteArray)} (h : DiskOwn w B (.agg #[.slice x ps.length c, .slice y ls.length d]) ps ls) {k : Nat} (hk : k < ls.length) :
    ∃ b, y = some ⟨b, 0, none⟩ ∧ w.cell? ⟨b, k * 2, none⟩ = some (.int .i64 ls[k].1) ∧ w.cell? ⟨b, k * 2 + 1, none⟩ = some (.string ls[k].2) := by
  obtain ⟨-, o2⟩ := disk_rows h
  rcases o2.2 with ⟨-, h0⟩ | ⟨b, cc, cur, e, -⟩
  · omega
  · injection e with e1 e2 e3
    refine ⟨b, e1, ?_, ?_⟩
    · subst e1; rw [o2.cellAt (k * 2) (show k * 2 < ls.length * 2 by omega), (puts_at ls k hk).1]
    · subst e1; rw [o2.cellAt (k * 2 + 1) (show k * 2 + 1 < ls.length * 2 by omega), (puts_at ls k hk).2]

theorem bool_cell {w : World} {B n c : Nat} {x : Option Addr} {l : List Bool} (h : w.ownsRow B 4 1 (.slice x n c) l.length (bools l)) {k : Nat} (hk : k < l.length) : ∃ b, x = some ⟨b, 0, none⟩ ∧ w.cell? ⟨b, k, none⟩ = some (.bool (l.getD k false)) := by
  rcases h.2 with ⟨-, h0⟩ | ⟨b, cc, cur, e, -⟩
  · omega
  · injection e with e1 e2 e3
    refine ⟨b, e1, ?_⟩
    subst e1
    subst e2
    rw [h.cellAt k (show k < l.length * 1 by omega), bools_at l k hk]
    simp [List.getD, hk]

theorem no_wit {l : List Bool} {tn : Int} {ls : List (Int × ByteArray)} {x : ByteArray} {i k : Nat} {q : Int} (hk : k < ls.length) (hq : q = ls[k].1) (h : q ≠ (i : Int) ∨ l.getD k false = false) : ¬ WitAt l tn ls x i k := by
  rintro ⟨h1, h2, h3, -⟩
  rcases h with h | h
  · exact h (by rw [hq]; exact h2)
  · rw [h3] at h; cases h

theorem no_wit2 {l : List Bool} {tn : Int} {ls : List (Int × ByteArray)} {x t : ByteArray} {i k : Nat} (hk : k < ls.length) (ht : t = ls[k].2) (h : x ≠ fallT tn k t) : ¬ WitAt l tn ls x i k := by
  rintro ⟨h1, h2, h3, h4⟩
  exact h (by rw [ht]; exact h4)

set_option maxHeartbeats 8000000 in
set_option maxRecDepth 100000 in
theorem lawFalls (a : Option Addr) (len cap : Nat) (w : World) (hd : 1048576 < len ∨ CodeIn w w.heap.size a len) :
    Calls Try.prog 4 #[.slice a len cap] w fun e w' => e = .returned (.bool true) ∧ Below w.heap.size w w' := by
  by_cases hbig : 1048576 < len
  · clear hd
    go_enter Try.func4, Try.ntmps4
    go_wp2_with fail
    refine (big_yes a len cap hbig _).mono ?_
    rintro e w1 ⟨rfl, rfl⟩
    go_wp2_with fail
    go_ret
    exact ⟨rfl, Below.refl _ _⟩
  · have HD : Hid (CodeIn w w.heap.size a len) := hide (hd.resolve_left hbig)
    clear hd
    have HB_w : Hid (Below w.heap.size w w) := hide (Below.refl _ _)
    obtain ⟨nl, hnl⟩ : ∃ nl, nl = ([] : List (Int × ByteArray)) := ⟨_, rfl⟩
    have HNl : Hid (nl.length = 0) := hide (by rw [hnl]; rfl)
    go_enter Try.func4, Try.ntmps4
    go_wp2_with fail
    refine (big_no a len cap (by omega) _).mono ?_
    rintro e w1 ⟨rfl, rfl⟩
    go_wp2_with fail
    refine (drawDisk_any a len cap _ HD.out).mono ?_
    rintro e w1 ⟨v1, ps, ls, rfl, hok, hp7, hl8, hown, hb⟩
    have HB_w1 : Hid (Below w.heap.size w w1) := hide (HB_w.out.trans (hb.mono HB_w.out.size))
    clear hb
    have HSm := hide (small_ok hok hp7 hl8)
    have HOk := hide hok
    have HBd := hide (small_bounds HSm.out)
    have HFn := hide (fun u ub wx h h' => implFallDisk_any u ub ps ls [] (-1) HBd.out.1 HBd.out.2.1 (by simp) HBd.out.2.2.1 HBd.out.2.2.2 wx h h')
    rw [fall_lostAll, show fallL ps ls = nl from by rw [fallL, if_pos hok, hnl]] at HFn
    have HST := hide (fun v u wx h h' => sameTexts_row ps ps (by have := HBd.out.1; omega) (by have := HBd.out.1; omega) v u wx h h')
    rw [decide_eq_true rfl] at HST
    have Hd3_w1 := hide (held_disk hown)
    obtain ⟨x3, c3, y3, d3, rfl⟩ := disk_form hown
    clear hown
    obtain ⟨g3, hg⟩ : ∃ g, g = w1.heap.size := ⟨_, rfl⟩
    obtain ⟨w2, hnw⟩ : ∃ wx, wx = w1.alloc (Obj.cells #[.slice x3 ps.length c3, .slice y3 ls.length d3] 27) := ⟨_, rfl⟩
    have hnv := new_var w1 (.slice x3 ps.length c3) (.slice y3 ls.length d3) 27
    rw [← hnw, ← hg] at hnv
    have hbv : Below w1.heap.size w1 w2 := by rw [← hg]; exact hnv.1
    have Hg3_w2 := hide hnv.2
    have Hgtg3 : Hid (w1.heap.size = g3) := hide hg.symm
    have Hd3_w2 := hide (held_below Hd3_w1.out hbv)
    have HB_w2 : Hid (Below w.heap.size w w2) := hide (HB_w1.out.trans (hbv.mono HB_w1.out.size))
    clear hnv hbv
    go_wp2_with fail
    rw [← hnw, ← hg]
    clear hnw hg 
    refine (drawLeft_any a len cap _ (code_at HD.out HB_w2.out)).mono ?_
    rintro e w3 ⟨vl, l, hll, rfl, hownl, hb⟩
    have Hd3_w3 := hide (held_below Hd3_w2.out hb)
    have Hg3_w3 := hide (held_below Hg3_w2.out hb)
    have HB_w3 : Hid (Below w.heap.size w w3) := hide (HB_w2.out.trans (hb.mono HB_w2.out.size))
    clear hb
    have Hl_w3 := hide (held_bools hownl)
    obtain ⟨xl, cl, rfl⟩ := own_slice hownl
    clear hownl
    go_wp2_with fail
    refine (drawPlaces_any a len cap _ (code_at HD.out HB_w3.out)).mono ?_
    rintro e w4 ⟨pv, zs, hzl, hz, rfl, hown, hb⟩
    have Hd3_w4 := hide (held_below Hd3_w3.out hb)
    have Hg3_w4 := hide (held_below Hg3_w3.out hb)
    have Hl_w4 := hide (held_below Hl_w3.out hb)
    have HB_w4 : Hid (Below w.heap.size w w4) := hide (HB_w3.out.trans (hb.mono HB_w3.out.size))
    clear hb
    obtain ⟨gp, cp, hpv⟩ : ∃ gp cp, pv = .slice (some ⟨gp, 0, none⟩) 12 cp := by
      rcases hown.2 with ⟨_, h0⟩ | ⟨g, c, cur, e1, _⟩
      · omega
      · exact ⟨g, c, e1⟩
    subst hpv
    obtain ⟨z0, hz0⟩ : ∃ z, zs[0]? = some z := ⟨zs[0], by simp⟩
    have hb0 : z0 < 10000 := hz z0 (List.mem_of_getElem? hz0)
    have h1 : w4.cell? ⟨gp, 0, none⟩ = some (.int .i64 (z0 : Int)) := by rw [hown.cellAt 0 (by omega), intVs, List.getElem?_map, hz0]; rfl
    clear hown hz hz0 hzl
    obtain ⟨r8, hr8⟩ : ∃ r, r = z0 % 8 := ⟨_, rfl⟩
    have hr8l : r8 < 8 := by omega
    have hm2 : (z0 : Int).tmod 8 = (r8 : Int) := by rw [Int.tmod_eq_emod_of_nonneg (by omega), hr8]; omega
    have hm1 : (z0 : Int) % 8 = (r8 : Int) := by rw [hr8]; omega
    obtain ⟨tn, htn⟩ : ∃ t, t = (r8 : Int) - 1 := ⟨_, rfl⟩
    have hwt : IntKind.i64.wrap ((r8 : Int) - 1) = (r8 : Int) - 1 := IntWalk.i64_in _ ⟨by omega, by omega⟩
    have HFa := hide (fun u ub wx h h' => implFallDisk_any u ub ps ls l tn HBd.out.1 HBd.out.2.1 (by omega) HBd.out.2.2.1 HBd.out.2.2.2 wx h h')
    obtain ⟨fs, hfs⟩ : ∃ fs, fs = fallP l tn ps ls := ⟨_, rfl⟩
    rw [← hfs, show fallL ps ls = nl from by rw [fallL, if_pos hok, hnl]] at HFa
    have HFs := hide hfs
    have HFl : Hid (fs.length = ps.length) := hide (by rw [hfs]; exact fallP_length _ _ _ _)
    clear hok hfs hnl hr8 hb0
    obtain ⟨cd0, cd1⟩ := held_cells Hg3_w4.out
    go_wp2_with fail
    clear cd0 cd1
    rw [← htn]
    have htnl : -1 ≤ tn ∧ tn < 8 := by omega
    clear htn hwt hm1 hm2 h1 hr8l
    refine (HFa.out _ _ _ (disk_of_own Hd3_w4.out.is.1) (row_of_own Hl_w4.out.is.1)).mono ?_
    rintro e w5 ⟨u6, rfl, hown, hb⟩
    have Hd3_w5 := hide (held_below Hd3_w4.out hb)
    have Hg3_w5 := hide (held_below Hg3_w4.out hb)
    have Hl_w5 := hide (held_below Hl_w4.out hb)
    have HB_w5 : Hid (Below w.heap.size w w5) := hide (HB_w4.out.trans (hb.mono HB_w4.out.size))
    clear hb
    have Hd6_w5 := hide (held_disk hown)
    obtain ⟨x6, c6, y6, d6, rfl⟩ := disk_form hown
    clear hown
    obtain ⟨g6, hg⟩ : ∃ g, g = w5.heap.size := ⟨_, rfl⟩
    obtain ⟨w6, hnw⟩ : ∃ wx, wx = w5.alloc (Obj.cells #[.slice x6 fs.length c6, .slice y6 nl.length d6] 27) := ⟨_, rfl⟩
    have hnv := new_var w5 (.slice x6 fs.length c6) (.slice y6 nl.length d6) 27
    rw [← hnw, ← hg] at hnv
    have hbv : Below w5.heap.size w5 w6 := by rw [← hg]; exact hnv.1
    have Hg6_w6 := hide hnv.2
    have Hgtg6 : Hid (w5.heap.size = g6) := hide hg.symm
    have Hd3_w6 := hide (held_below Hd3_w5.out hbv)
    have Hg3_w6 := hide (held_below Hg3_w5.out hbv)
    have Hl_w6 := hide (held_below Hl_w5.out hbv)
    have Hd6_w6 := hide (held_below Hd6_w5.out hbv)
    have HB_w6 : Hid (Below w.heap.size w w6) := hide (HB_w5.out.trans (hbv.mono HB_w5.out.size))
    clear hnv hbv
    go_wp2_with fail
    rw [← hnw, ← hg]
    clear hnw hg 
    go_loopg [7] ps.length (fun q iv wr => ∃ i : Nat, i ≤ ps.length ∧ iv = .int .i64 (i : Int) ∧ q + i = ps.length ∧ Hid (Below w6.heap.size w6 wr))
    case atStart => exact ⟨0, Nat.zero_le _, rfl, rfl, hide (Below.refl _ _)⟩
    case round =>
      obtain ⟨i, hi, rfl, hg, HBw⟩ := hrel
      have HG := hide hg
      obtain ⟨gq, hgq⟩ : ∃ gq, gq = gk := ⟨_, rfl⟩
      have HGQ := hide hgq
      clear hg hgq
      have HBa : Hid (Below w.heap.size w wr) := hide (HB_w6.out.trans (HBw.out.mono HB_w6.out.size))
      by_cases hlt : i < ps.length
      · have hif : i < fs.length := by have := HFl.out; omega
        obtain ⟨bd, hx3, hcd⟩ := page_cell (held_below Hd3_w6.out HBw.out).is.1 rfl hlt
        obtain ⟨bf, hx6, hcf⟩ := page_cell (held_below Hd6_w6.out HBw.out).is.1 rfl hif
        subst hx3 hx6
        obtain ⟨x, hx⟩ : ∃ x, x = fs.getD i ⟨#[]⟩ := ⟨_, rfl⟩
        obtain ⟨y, hy⟩ : ∃ y, y = ps.getD i ⟨#[]⟩ := ⟨_, rfl⟩
        rw [← hx] at hcf
        rw [← hy] at hcd
        have HFine := hide (fine_start (l := l) (tn := tn) (x := x) (y := y) HOk.out hlt (by rw [← HFs.out]; exact hx) hy)
        obtain ⟨b0, hb0⟩ : ∃ b0, b0 = decide (x = y) := ⟨_, rfl⟩
        have HB0 := hide hb0
        have hbq : (x.toList == y.toList) = b0 := by rw [hb0]; exact ba_beq x y
        have HC : Hid (∀ wx, Below w6.heap.size w6 wx → wx.cell? ⟨g3, 0, none⟩ = some (.slice (some ⟨bd, 0, none⟩) ps.length c3) ∧ wx.cell? ⟨g3, 1, none⟩ = some (.slice y3 ls.length d3) ∧ wx.cell? ⟨g6, 0, none⟩ = some (.slice (some ⟨bf, 0, none⟩) fs.length c6) ∧ wx.cell? ⟨bf, i, none⟩ = some (.string x) ∧ wx.cell? ⟨bd, i, none⟩ = some (.string y)) := hide (fun wx hb => by
          obtain ⟨p0, p1⟩ := held_cells (held_below Hg3_w6.out hb)
          obtain ⟨q0, q1⟩ := held_cells (held_below Hg6_w6.out hb)
          obtain ⟨b1, e1, r1⟩ := page_cell (held_below Hd3_w6.out hb).is.1 rfl hlt
          obtain ⟨b2, e2, r2⟩ := page_cell (held_below Hd6_w6.out hb).is.1 rfl hif
          have e1' : bd = b1 := congrArg Addr.block (Option.some.inj e1)
          have e2' : bf = b2 := congrArg Addr.block (Option.some.inj e2)
          subst e1' e2'
          exact ⟨p0, p1, q0, by rw [r2, hx], by rw [r1, hy]⟩)
        obtain ⟨c30, c31, c60, cf, cd⟩ := HC.out wr HBw.out
        have hi0 : (0 : Int) ≤ (i : Int) := by omega
        have hi1 : (i : Int) < (ps.length : Int) := by omega
        have hi2 : (i : Int) < (fs.length : Int) := by omega
        clear hb0 hx hy hcf hcd
        go_wp2_with fail
        go_quiet (fail)
        have HBx : Hid (Below w6.heap.size w6 (wr.drewN nq)) := hide (below_drewN HBw.out _)
        clear c30 c31 c60 cf cd hbq
        go_wp2_with fail
        go_loopg [8, 9] ls.length (fun q fv kv wq => ∃ (k : Nat) (b : Bool), k ≤ ls.length ∧ fv = .bool b ∧ kv = .int .i64 (k : Int) ∧ q + k = ls.length ∧ Hid (b = true ∨ ∃ j, k ≤ j ∧ WitAt l tn ls x i j) ∧ Hid (Below w6.heap.size w6 wq))
        case atStart => exact ⟨0, b0, Nat.zero_le _, rfl, rfl, rfl, hide (by rcases HFine.out with h | h; exact Or.inl (by rw [HB0.out, decide_eq_true h]); exact Or.inr h), HBx⟩
        case round =>
          obtain ⟨k, b, hk, rfl, rfl, hg, HF, HBy⟩ := hrel
          have HG2 := hide hg
          clear hg HBx HB0 HFine
          by_cases hkl : k < ls.length
          · obtain ⟨c30, c31, c60, cf, cd⟩ := HC.out wr HBy.out
            obtain ⟨bl, hy3, hcq, hct⟩ := cells_rows (held_below Hd3_w6.out HBy.out).is.1 hkl
            subst hy3
            obtain ⟨q, hq⟩ : ∃ q, q = ls[k].1 := ⟨_, rfl⟩
            obtain ⟨t, ht⟩ : ∃ t, t = ls[k].2 := ⟨_, rfl⟩
            rw [← hq] at hcq
            rw [← ht] at hct
            have hts : t.size ≤ 1048576 := by rw [ht]; exact HBd.out.2.2.2 _ (List.getElem_mem hkl)
            have HQ := hide hq
            have HT := hide ht
            have hk0 : (0 : Int) ≤ (k : Int) := by omega
            have hk1 : (k : Int) < (ls.length : Int) := by omega
            clear hq ht
            by_cases hqi : q = (i : Int)
            · by_cases hkb : k < l.length
              · obtain ⟨bb, hxl, hcl⟩ := bool_cell (held_below Hl_w6.out HBy.out).is.1 hkb
                subst hxl
                have hk2 : (k : Int) < (l.length : Int) := by omega
                have hk3 : decide ((k : Int) < (l.length : Int)) = true := by simp; omega
                have hq2 : (q == (i : Int)) = true := by simp [hqi]
                have hq3 : decide (q = (i : Int)) = true := by simp [hqi]
                cases hlk : l.getD k false with
                | false =>
                  rw [hlk] at hcl
                  have HNo := hide (no_wit (tn := tn) (x := x) (i := i) (l := l) hkl HQ.out (Or.inr hlk))
                  clear hlk hqi
                  have HF2 : Hid (b = true ∨ ∃ j, k + 1 ≤ j ∧ WitAt l tn ls x i j) := hide (HF.out.imp id (fun h => wit_pass h HNo.out))
                  have HBz := HBy
                  go_wp2_with fail
                  go_roundg (gk - 1)
                  case measure => have := HG2.out; omega
                  case rel => exact ⟨k + 1, b, by omega, rfl, by go_num, by have := HG2.out; omega, HF2, HBz⟩
                | true =>
                  rw [hlk] at hcl
                  clear hlk hqi
                  cases b with
                  | true =>
                    go_wp2_with fail
                    go_quiet (fail)
                    have HF2 : Hid (true = true ∨ ∃ j, k + 1 ≤ j ∧ WitAt l tn ls x i j) := hide (Or.inl rfl)
                    have HBz : Hid (Below w6.heap.size w6 (wr.drewN nq)) := hide (below_drewN HBy.out _)
                    go_wp2_with fail
                    go_roundg (gk - 1)
                    case measure => have := HG2.out; omega
                    case rel => exact ⟨k + 1, true, by omega, rfl, by go_num, by have := HG2.out; omega, hide (Or.inl rfl), HBz⟩
                  | false =>
                    by_cases hxt : x = t
                    · have hbq : (x.toList == t.toList) = true := by rw [ba_beq]; exact decide_eq_true hxt
                      clear hxt
                      go_wp2_with fail
                      go_quiet (fail)
                      have HF2 : Hid (true = true ∨ ∃ j, k + 1 ≤ j ∧ WitAt l tn ls x i j) := hide (Or.inl rfl)
                      have HBz : Hid (Below w6.heap.size w6 (wr.drewN nq)) := hide (below_drewN HBy.out _)
                      go_wp2_with fail
                      go_roundg (gk - 1)
                      case measure => have := HG2.out; omega
                      case rel => exact ⟨k + 1, true, by omega, rfl, by go_num, by have := HG2.out; omega, hide (Or.inl rfl), HBz⟩
                    · have hbq : (x.toList == t.toList) = false := by rw [ba_beq]; exact decide_eq_false hxt
                      by_cases hkt : (k : Int) = tn
                      · have hkt2 : ((k : Int) == tn) = true := by simp [hkt]
                        have hkt3 : decide ((k : Int) = tn) = true := by simp [hkt]
                        have hsl : ∀ wx : World, (Instr.slice 9 (.string t) none (some (.int .i64 ((t.size : Int) / 2))) none).run Try.prog wx = .ok (.string (t.extract 0 (t.size / 2))) wx := fun wx => by
                          rw [run_slice_string_h (P := Try.prog) wx 9 t Try.underlying9 .i64 ((t.size : Int) / 2) (by omega) (by omega), show ((t.size : Int) / 2).toNat = t.size / 2 from by omega]
                        by_cases hxh : x = t.extract 0 (t.size / 2)
                        · have hbq2 : (x.toList == (t.extract 0 (t.size / 2)).toList) = true := by rw [ba_beq]; exact decide_eq_true hxh
                          clear hxh hxt hkt
                          go_wp2_with fail
                          go_quiet (fail)
                          have HF2 : Hid (true = true ∨ ∃ j, k + 1 ≤ j ∧ WitAt l tn ls x i j) := hide (Or.inl rfl)
                          have HBz : Hid (Below w6.heap.size w6 (wr.drewN nq)) := hide (below_drewN HBy.out _)
                          go_wp2_with fail
                          go_roundg (gk - 1)
                          case measure => have := HG2.out; omega
                          case rel => exact ⟨k + 1, true, by omega, rfl, by go_num, by have := HG2.out; omega, hide (Or.inl rfl), HBz⟩
                        · have hbq2 : (x.toList == (t.extract 0 (t.size / 2)).toList) = false := by rw [ba_beq]; exact decide_eq_false hxh
                          have HNo := hide (no_wit2 (tn := tn) (x := x) (i := i) (l := l) hkl HT.out (by rw [fallT, if_pos hkt]; exact hxh))
                          clear hxh hxt hkt
                          go_wp2_with fail
                          go_quiet (fail)
                          have HF2 : Hid (false = true ∨ ∃ j, k + 1 ≤ j ∧ WitAt l tn ls x i j) := hide (HF.out.imp (fun h => by cases h) (fun h => wit_pass h HNo.out))
                          have HBz : Hid (Below w6.heap.size w6 (wr.drewN nq)) := hide (below_drewN HBy.out _)
                          go_wp2_with fail
                          go_roundg (gk - 1)
                          case measure => have := HG2.out; omega
                          case rel => exact ⟨k + 1, false, by omega, rfl, by go_num, by have := HG2.out; omega, HF2, HBz⟩
                      · have hkt2 : ((k : Int) == tn) = false := by simp [hkt]
                        have hkt3 : decide ((k : Int) = tn) = false := by simp [hkt]
                        have HNo := hide (no_wit2 (tn := tn) (x := x) (i := i) (l := l) hkl HT.out (by rw [fallT, if_neg hkt]; exact hxt))
                        clear hxt hkt
                        go_wp2_with fail
                        go_quiet (fail)
                        have HF2 : Hid (false = true ∨ ∃ j, k + 1 ≤ j ∧ WitAt l tn ls x i j) := hide (HF.out.imp (fun h => by cases h) (fun h => wit_pass h HNo.out))
                        have HBz : Hid (Below w6.heap.size w6 (wr.drewN nq)) := hide (below_drewN HBy.out _)
                        go_wp2_with fail
                        go_roundg (gk - 1)
                        case measure => have := HG2.out; omega
                        case rel => exact ⟨k + 1, false, by omega, rfl, by go_num, by have := HG2.out; omega, HF2, HBz⟩
              · have HNo := hide (no_wit (tn := tn) (x := x) (i := i) (l := l) hkl HQ.out (Or.inr (by rw [List.getD, List.getElem?_eq_none (by omega)]; rfl)))
                have hk3 : decide ((k : Int) < (l.length : Int)) = false := by simp; omega
                have hq2 : (q == (i : Int)) = true := by simp [hqi]
                have hq3 : decide (q = (i : Int)) = true := by simp [hqi]
                clear hqi
                have HF2 : Hid (b = true ∨ ∃ j, k + 1 ≤ j ∧ WitAt l tn ls x i j) := hide (HF.out.imp id (fun h => wit_pass h HNo.out))
                have HBz := HBy
                go_wp2_with fail
                go_roundg (gk - 1)
                case measure => have := HG2.out; omega
                case rel => exact ⟨k + 1, b, by omega, rfl, by go_num, by have := HG2.out; omega, HF2, HBz⟩
            · have HNo := hide (no_wit (tn := tn) (x := x) (i := i) (l := l) hkl HQ.out (Or.inl hqi))
              have hq2 : (q == (i : Int)) = false := by simp [hqi]
              have hq3 : decide (q = (i : Int)) = false := by simp [hqi]
              clear hqi
              have HF2 : Hid (b = true ∨ ∃ j, k + 1 ≤ j ∧ WitAt l tn ls x i j) := hide (HF.out.imp id (fun h => wit_pass h HNo.out))
              have HBz := HBy
              go_wp2_with fail
              go_roundg (gk - 1)
              case measure => have := HG2.out; omega
              case rel => exact ⟨k + 1, b, by omega, rfl, by go_num, by have := HG2.out; omega, HF2, HBz⟩
          · obtain rfl : b = true := by
              rcases HF.out with h | ⟨j, h1, h2, -⟩
              · exact h
              · omega
            obtain ⟨c30, c31, c60, cf, cd⟩ := HC.out wr HBy.out
            go_wp2_with fail
            go_roundg (gq - 1)
            case measure => have h1 := HGQ.out; have h2 := HG.out; omega
            case rel => exact ⟨i + 1, by omega, by go_num, by have h1 := HGQ.out; have h2 := HG.out; omega, HBy⟩
      · have Hv3 := hide (held_below Hg3_w6.out HBw.out)
        have Hv6 := hide (held_below Hg6_w6.out HBw.out)
        have He3 := hide (held_below Hd3_w6.out HBw.out)
        obtain ⟨we, hwe⟩ : ∃ we, we = wr.alloc (Obj.cells #[] 4) := ⟨_, rfl⟩
        have hbe : Below wr.heap.size wr we := by rw [hwe]; exact (Below.refl _ _).alloc (Nat.le_refl _) _
        have He3e := hide (held_below He3.out hbe)
        have Hv3e := hide (held_below Hv3.out hbe)
        have Hv6e := hide (held_below Hv6.out hbe)
        have HBe : Hid (Below w.heap.size w we) := hide (HBa.out.trans (hbe.mono HBa.out.size))
        obtain ⟨c30, c31⟩ := held_cells Hv3.out
        clear hbe
        go_wp2_with fail
        rw [← hwe]
        clear hwe c30 c31
        refine (HFn.out _ _ _ (disk_of_own He3e.out.is.1) ⟨rfl, _, _, rfl, Or.inl rfl⟩).mono ?_
        rintro e w7 ⟨u7, rfl, hown, hb⟩
        have He3_7 := hide (held_below He3e.out hb)
        have Hv3_7 := hide (held_below Hv3e.out hb)
        have Hv6_7 := hide (held_below Hv6e.out hb)
        have HB7 : Hid (Below w.heap.size w w7) := hide (HBe.out.trans (hb.mono HBe.out.size))
        have He7_7 := hide (held_disk hown)
        obtain ⟨x7, c7, y7, d7, rfl⟩ := disk_form hown
        clear hb hown
        obtain ⟨g11, hg11⟩ : ∃ g, g = w7.heap.size := ⟨_, rfl⟩
        obtain ⟨w8, hw8⟩ : ∃ wx, wx = w7.alloc (Obj.cells #[.slice x7 ps.length c7, .slice y7 nl.length d7] 27) := ⟨_, rfl⟩
        have hnv := new_var w7 (.slice x7 ps.length c7) (.slice y7 nl.length d7) 27
        rw [← hw8, ← hg11] at hnv
        have hb8 : Below w7.heap.size w7 w8 := by rw [← hg11]; exact hnv.1
        have Hv7_8 := hide hnv.2
        have He3_8 := hide (held_below He3_7.out hb8)
        have Hv3_8 := hide (held_below Hv3_7.out hb8)
        have Hv6_8 := hide (held_below Hv6_7.out hb8)
        have He7_8 := hide (held_below He7_7.out hb8)
        have HB8 : Hid (Below w.heap.size w w8) := hide (HB7.out.trans (hb8.mono HB7.out.size))
        clear hnv hb8
        go_wp2_with fail
        rw [← hw8, ← hg11]
        clear hw8 hg11
        refine (drawFallDisk_any a len cap _ (code_at HD.out HB8.out)).mono ?_
        rintro e w9 ⟨v9, vb9, qs, ms, l2, t2, rfl, hsm, hl2, ht2, hown, hownb, hb⟩
        have He3_9 := hide (held_below He3_8.out hb)
        have Hv3_9 := hide (held_below Hv3_8.out hb)
        have Hv6_9 := hide (held_below Hv6_8.out hb)
        have He7_9 := hide (held_below He7_8.out hb)
        have Hv7_9 := hide (held_below Hv7_8.out hb)
        have HB9 : Hid (Below w.heap.size w w9) := hide (HB8.out.trans (hb.mono HB8.out.size))
        have He9_9 := hide (held_disk hown)
        have Hb9_9 := hide (held_bools hownb)
        obtain ⟨x9, c9, y9, d9, rfl⟩ := disk_form hown
        obtain ⟨xb, cb, rfl⟩ := own_slice hownb
        have HBq := hide (small_bounds hsm)
        have HFi := hide (fun u ub wx h h' => implFallDisk_any u ub qs ms l2 t2 HBq.out.1 HBq.out.2.1 (by omega) HBq.out.2.2.1 HBq.out.2.2.2 wx h h')
        have HFp := hide (fun u ub wx h h' => specFallDisk_any u ub qs ms l2 t2 HBq.out.1 HBq.out.2.1 (by omega) HBq.out.2.2.1 HBq.out.2.2.2 wx h h')
        obtain ⟨rs, hrs⟩ : ∃ rs, rs = fallP l2 t2 qs ms := ⟨_, rfl⟩
        obtain ⟨rl, hrl⟩ : ∃ rl, rl = fallL qs ms := ⟨_, rfl⟩
        have hlr := fall_len (left := l2) (torn := t2) HBq.out.1 HBq.out.2.1
        rw [← hrs, ← hrl] at hlr HFi HFp
        have HSd := hide (fun v u wx h h' => sameDisk_yes v u rs rl hlr.1 hlr.2 wx h h')
        clear hb hown hownb hsm hl2 ht2 hrs hrl hlr
        obtain ⟨g12, hg12⟩ : ∃ g, g = w9.heap.size := ⟨_, rfl⟩
        obtain ⟨wz, hwz⟩ : ∃ wx, wx = w9.alloc (Obj.cells #[.slice x9 qs.length c9, .slice y9 ms.length d9] 27) := ⟨_, rfl⟩
        have hnv := new_var w9 (.slice x9 qs.length c9) (.slice y9 ms.length d9) 27
        rw [← hwz, ← hg12] at hnv
        have hbz : Below w9.heap.size w9 wz := by rw [← hg12]; exact hnv.1
        have Hz9 := hide hnv.2
        have Hy3 := hide (held_below He3_9.out hbz)
        have Hz3 := hide (held_below Hv3_9.out hbz)
        have Hz6 := hide (held_below Hv6_9.out hbz)
        have Hy7 := hide (held_below He7_9.out hbz)
        have Hz7 := hide (held_below Hv7_9.out hbz)
        have Hy9 := hide (held_below He9_9.out hbz)
        have Hyb := hide (held_below Hb9_9.out hbz)
        have HBz : Hid (Below w.heap.size w wz) := hide (HB9.out.trans (hbz.mono HB9.out.size))
        clear hnv hbz
        go_wp2_with fail
        rw [← hwz, ← hg12]
        clear hwz hg12
        rw [HNl.out, HFl.out] at Hz6
        obtain ⟨c30, c31⟩ := held_cells Hz3.out
        obtain ⟨c60, c61⟩ := held_cells Hz6.out
        obtain ⟨c70, c71⟩ := held_cells Hz7.out
        obtain ⟨c90, c91⟩ := held_cells Hz9.out
        have hS0 : (wz.cell? ⟨g3, 0, none⟩ = some (.slice x3 ps.length c3) ∧ wz.cell? ⟨g6, 0, none⟩ = some (.slice x6 ps.length c6) ∧ wz.cell? ⟨g6, 1, none⟩ = some (.slice y6 0 d6) ∧ wz.cell? ⟨g11, 0, none⟩ = some (.slice x7 ps.length c7) ∧ wz.cell? ⟨g12, 0, none⟩ = some (.slice x9 qs.length c9) ∧ wz.cell? ⟨g12, 1, none⟩ = some (.slice y9 ms.length d9)) := ⟨c30, c60, c61, c70, c90, c91⟩
        have HSB : Hid (∀ wx, Below wz.heap.size wz wx → (wx.cell? ⟨g3, 0, none⟩ = some (.slice x3 ps.length c3) ∧ wx.cell? ⟨g6, 0, none⟩ = some (.slice x6 ps.length c6) ∧ wx.cell? ⟨g6, 1, none⟩ = some (.slice y6 0 d6) ∧ wx.cell? ⟨g11, 0, none⟩ = some (.slice x7 ps.length c7) ∧ wx.cell? ⟨g12, 0, none⟩ = some (.slice x9 qs.length c9) ∧ wx.cell? ⟨g12, 1, none⟩ = some (.slice y9 ms.length d9))) := hide (fun wx hb => ⟨(hb.cell (by exact Hz3.out.le)).trans c30, (hb.cell (by exact Hz6.out.le)).trans c60, (hb.cell (by exact Hz6.out.le)).trans c61, (hb.cell (by exact Hz7.out.le)).trans c70, (hb.cell (by exact Hz9.out.le)).trans c90, (hb.cell (by exact Hz9.out.le)).trans c91⟩)
        clear c30 c31 c60 c61 c70 c71 c90 c91
        go_region_held3 (fun wx => (wx.cell? ⟨g3, 0, none⟩ = some (.slice x3 ps.length c3) ∧ wx.cell? ⟨g6, 0, none⟩ = some (.slice x6 ps.length c6) ∧ wx.cell? ⟨g6, 1, none⟩ = some (.slice y6 0 d6) ∧ wx.cell? ⟨g11, 0, none⟩ = some (.slice x7 ps.length c7) ∧ wx.cell? ⟨g12, 0, none⟩ = some (.slice x9 qs.length c9) ∧ wx.cell? ⟨g12, 1, none⟩ = some (.slice y9 ms.length d9))) (first | exact hS0 | exact hSA | exact hSB | exact hSC | exact hSD) (first | (go_at_call 23; refine (HST.out _ _ _ ?_ ?_).mono ?_; exact row_below (row_of_own (disk_rows Hy7.out.is.1).1) (Below.refl _ _).drew; exact row_below (row_of_own (disk_rows Hy3.out.is.1).1) (Below.refl _ _).drew; rintro e wA ⟨rfl, hbA⟩; have hA : Below wz.heap.size wz wA := (Below.refl _ _).drew.trans hbA; have hSA := HSB.out _ hA) | (go_at_call 21; refine (HFi.out _ _ _ ?_ ?_).mono ?_; exact disk_below (disk_of_own Hy9.out.is.1) hA; exact row_below (row_of_own Hyb.out.is.1) hA; rintro e wB ⟨uB, rfl, hownB, hbB⟩; have hB : Below wz.heap.size wz wB := hA.trans (hbB.mono hA.size); have hSB := HSB.out _ hB) | (go_at_call 25; refine (HFp.out _ _ _ ?_ ?_).mono ?_; exact disk_below (disk_of_own Hy9.out.is.1) hB; exact row_below (row_of_own Hyb.out.is.1) hB; rintro e wC ⟨uC, rfl, hownC, hbC⟩; have hC : Below wz.heap.size wz wC := hB.trans (hbC.mono hB.size); have hSC := HSB.out _ hC) | (go_at_call 24; refine (HSd.out _ _ _ ?_ ?_).mono ?_; exact disk_below (disk_of_own hownB) hbC; exact disk_of_own hownC; rintro e wD ⟨rfl, hbD⟩; have hD : Below wz.heap.size wz wD := hC.trans (hbD.mono hC.size); have hSD := HSB.out _ hD))
        go_wp2_with fail
        go_ret
        exact ⟨rfl, HBz.out.trans (hD.mono HBz.out.size)⟩
end Go.Proofs.Ytjjjnloimpehbaa
