/-
  spec's functions over disks by contracts: ReadPage, DiskOk, SyncDisk, FallDisk, WritePage, DiskNew.
-/
import Derived.Test.YtacmpggigdlmmaaDoorDiskN
import Derived.Test.YtacmpggigdlmmaaDoorVar
import Derived.Test.YtacmpggigdlmmaaDoorPlain9
namespace Go.Proofs.YtacmpggigdlmmaaDoor
open Go.RowKit

theorem l01In_any (x a b : Int) (w : World) : Calls Tryd.prog 57 #[.int .i64 x, .int .i64 a, .int .i64 b] w fun e w' => e = .returned (.bool (decide (a ≤ x ∧ x ≤ b))) ∧ w = w' := by
  by_cases h : a ≤ x ∧ x ≤ b
  · rw [decide_eq_true h]; exact l01In_yes x a b w h.1 h.2
  · rw [decide_eq_false h]; exact l01In_no x a b w (by omega)

set_option maxHeartbeats 2000000 in
set_option maxRecDepth 100000 in
theorem specDiskOk_any (v : Value) (ps : List ByteArray) (ls : List (Int × ByteArray)) (hp : ps.length ≤ 1048576) (hl : ls.length ≤ 1048576) (hps : ∀ s ∈ ps, s.size ≤ 1048576) (hls : ∀ p ∈ ls, p.2.size ≤ 1048576) (w : World) (hd : DiskAt w v ps ls) :
    Calls Tryd.prog 56 #[v] w fun e w' => e = .returned (.bool (diskOkB ps ls)) ∧ Below w.heap.size w w' := by
  obtain ⟨vp, vl, rfl, h1, h2⟩ := hd
  obtain ⟨x1, c1, rfl⟩ : ∃ a cap, vp = .slice a ps.length cap := by obtain ⟨-, a, cap, e, -⟩ := h1; exact ⟨a, cap, e⟩
  obtain ⟨x2, c2, rfl⟩ : ∃ a cap, vl = .slice a ls.length cap := by obtain ⟨-, a, cap, e, -⟩ := h2; exact ⟨a, cap, e⟩
  have H1 := hide h1
  have H2 := hide h2
  have HPs := hide hps
  have HLs := hide hls
  clear h1 h2 hps hls
  go_enter Tryd.func56, Tryd.ntmps56
  go_wp2_with fail
  obtain ⟨w0, hw0⟩ : ∃ w0, w0 = w.alloc (Obj.cells #[.slice x1 ps.length c1, .slice x2 ls.length c2] 34) := ⟨_, rfl⟩
  have hb0 : Below w.heap.size w w0 := by rw [hw0]; exact (Below.refl w.heap.size w).alloc (Nat.le_refl _) _
  have hblk : w0.heap[w.heap.size]? = some (Obj.cells #[.slice x1 ps.length c1, .slice x2 ls.length c2] 34) := by rw [hw0]; exact heap_alloc_new w _
  have hsz : w.heap.size < w0.heap.size := (Array.getElem?_eq_some_iff.1 hblk).1
  rw [← hw0]
  have HB0 := hide hb0
  have HBk := hide hblk
  have HSz := hide hsz
  clear hw0 hb0 hblk hsz
  go_loopg [3] ps.length (fun q iv wr => ∃ k : Nat, k ≤ ps.length ∧ iv = .int .i64 (k : Int) ∧ q + k = ps.length ∧ Hid (∀ i (h : i < ps.length), i < k → ps[i].size ≤ 240) ∧ w0 = wr)
  case atStart => exact ⟨0, Nat.zero_le _, rfl, rfl, hide (fun i h h0 => by omega), rfl⟩
  case round =>
    obtain ⟨k, hk, rfl, hg, HA, rfl⟩ := hrel
    have HG := hide hg
    clear hg
    have cb0 : w0.cell? ⟨w.heap.size, 0, none⟩ = some (.slice x1 ps.length c1) := (cell_at HBk.out 0).1
    have cb1 : w0.cell? ⟨w.heap.size, 1, none⟩ = some (.slice x2 ls.length c2) := (cell_at HBk.out 1).1
    by_cases hlt : k < ps.length
    · rcases H1.out.2 with ⟨a, cap, e, h0 | ⟨b, off, e2, hbl, hc⟩⟩
      · omega
      · injection e with e1 e3 e4
        subst e1 e4
        subst e2
        obtain ⟨x, hx⟩ : ∃ x, x = ps[k] := ⟨_, rfl⟩
        have hxs : x.size ≤ 1048576 := by rw [hx]; exact HPs.out _ (List.getElem_mem hlt)
        have hcell : w0.cell? ⟨b, off + k, none⟩ = some (.string x) := by rw [HB0.out.cell (by exact hbl), hc k (by omega), strs_at ps k hlt, hx]
        have HX := hide hx
        have hi0 : (0 : Int) ≤ (k : Int) := by omega
        have hi1 : (k : Int) < (ps.length : Int) := by omega
        clear hx hc
        by_cases hbig : 240 < x.size
        · have HO : Hid (diskOkB ps ls = false) := hide (diskOk_page hlt (by rw [← HX.out]; exact hbig))
          go_wp2_with fail
          go_ret
          rw [HO.out]
          exact ⟨rfl, HB0.out⟩
        · have HA2 : Hid (∀ i (h : i < ps.length), i < k + 1 → ps[i].size ≤ 240) := hide (fun i h hi => by
            by_cases e : i = k
            · subst e; rw [← HX.out]; omega
            · exact HA.out i h (by omega))
          go_wp2_with fail
          go_roundg (gk - 1)
          case measure => have := HG.out; omega
          case rel => exact ⟨k + 1, by omega, by go_num, by have := HG.out; omega, HA2, rfl⟩
    · have HAll : Hid (∀ i (h : i < ps.length), ps[i].size ≤ 240) := hide (fun i h => HA.out i h (by omega))
      have HCi := hide (l01In_any (ps.length : Int) 4 40)
      clear HA
      go_wp2_with fail
      go_loopg [4] ls.length (fun q iv wr => ∃ j : Nat, j ≤ ls.length ∧ iv = .int .i64 (j : Int) ∧ q + j = ls.length ∧ Hid (∀ i (h : i < ls.length), i < j → 0 ≤ ls[i].1 ∧ ls[i].1 < (ps.length : Int) ∧ ls[i].2.size ≤ 240) ∧ Below w0.heap.size w0 wr)
      case atStart => exact ⟨0, Nat.zero_le _, rfl, rfl, hide (fun i h h0 => by omega), Below.refl _ _⟩
      case round =>
        obtain ⟨j, hj, rfl, hg, HA, hbw⟩ := hrel
        have HG2 := hide hg
        have HBw := hide hbw
        have HBa : Hid (Below w.heap.size w wr) := hide (HB0.out.trans (hbw.mono HB0.out.size))
        have cd0 : wr.cell? ⟨w.heap.size, 0, none⟩ = some (.slice x1 ps.length c1) := (hbw.cell (by exact HSz.out)).trans cb0
        have cd1 : wr.cell? ⟨w.heap.size, 1, none⟩ = some (.slice x2 ls.length c2) := (hbw.cell (by exact HSz.out)).trans cb1
        clear hg hbw cb0 cb1
        by_cases hjl : j < ls.length
        · rcases H2.out.2 with ⟨a, cap, e, h0 | ⟨b, off, e2, hbl, hc⟩⟩
          · omega
          · injection e with e1 e3 e4
            subst e1 e4
            subst e2
            obtain ⟨q, t, hqt⟩ : ∃ q t, (q, t) = ls[j] := ⟨_, _, rfl⟩
            have hts : t.size ≤ 1048576 := by have := HLs.out _ (List.getElem_mem hjl); rw [← hqt] at this; exact this
            have hc0 : wr.cell? ⟨b, off + j * 2, none⟩ = some (.int .i64 q) := by rw [HBa.out.cell (by exact hbl), hc (j * 2) (by omega), (puts_at ls j hjl).1, ← hqt]
            have hc1 : wr.cell? ⟨b, off + j * 2 + 1, none⟩ = some (.string t) := by rw [HBa.out.cell (by exact hbl), Nat.add_assoc, hc (j * 2 + 1) (by omega), (puts_at ls j hjl).2, ← hqt]
            have hi0 : (0 : Int) ≤ (j : Int) := by omega
            have hi1 : (j : Int) < (ls.length : Int) := by omega
            have hw1 : IntKind.i64.wrap ((ps.length : Int) - 1) = (ps.length : Int) - 1 := IntWalk.i64_in _ ⟨by omega, by omega⟩
            have HQT := hide hqt
            have HC := hide (l01In_any q 0 ((ps.length : Int) - 1))
            clear hc hqt
            by_cases hin : 0 ≤ q ∧ q ≤ (ps.length : Int) - 1
            · rw [decide_eq_true hin] at HC
              by_cases hbig : 240 < t.size
              · have HO : Hid (diskOkB ps ls = false) := hide (diskOk_late hjl (by rw [← HQT.out]; show ¬ (0 ≤ q ∧ q < (ps.length : Int) ∧ t.size ≤ 240); omega))
                have hd1 : decide ((240 : Int) < (t.size : Int)) = true := by simp; omega
                go_wp2_with fail
                go_region_held3 (fun wx => wx.cell? ⟨w.heap.size, 0, none⟩ = some (.slice x1 ps.length c1) ∧ wx.cell? ⟨w.heap.size, 1, none⟩ = some (.slice (some ⟨b, off, none⟩) ls.length c2) ∧ wx.cell? ⟨b, off + j * 2, none⟩ = some (.int .i64 q) ∧ wx.cell? ⟨b, off + j * 2 + 1, none⟩ = some (.string t)) (exact ⟨cd0, cd1, hc0, hc1⟩) ((go_at_call 57; refine (HC.out _).mono ?_; rintro e wx ⟨rfl, rfl⟩))
                go_wp2_with fail
                go_ret
                rw [HO.out]
                exact ⟨rfl, HBa.out.drew⟩
              · have HA2 : Hid (∀ i (h : i < ls.length), i < j + 1 → 0 ≤ ls[i].1 ∧ ls[i].1 < (ps.length : Int) ∧ ls[i].2.size ≤ 240) := hide (fun i h hi => by
                  by_cases e : i = j
                  · subst e; rw [← HQT.out]; show 0 ≤ q ∧ q < (ps.length : Int) ∧ t.size ≤ 240; omega
                  · exact HA.out i h (by omega))
                have hd1 : decide ((240 : Int) < (t.size : Int)) = false := by simp; omega
                go_wp2_with fail
                go_region_held3 (fun wx => wx.cell? ⟨w.heap.size, 0, none⟩ = some (.slice x1 ps.length c1) ∧ wx.cell? ⟨w.heap.size, 1, none⟩ = some (.slice (some ⟨b, off, none⟩) ls.length c2) ∧ wx.cell? ⟨b, off + j * 2, none⟩ = some (.int .i64 q) ∧ wx.cell? ⟨b, off + j * 2 + 1, none⟩ = some (.string t)) (exact ⟨cd0, cd1, hc0, hc1⟩) ((go_at_call 57; refine (HC.out _).mono ?_; rintro e wx ⟨rfl, rfl⟩))
                go_wp2_with fail
                go_roundg (gk - 1)
                case measure => have := HG2.out; omega
                case rel => exact ⟨j + 1, by omega, by go_num, by have := HG2.out; omega, HA2, HBw.out.drew⟩
            · rw [decide_eq_false hin] at HC
              have HO : Hid (diskOkB ps ls = false) := hide (diskOk_late hjl (by rw [← HQT.out]; show ¬ (0 ≤ q ∧ q < (ps.length : Int) ∧ t.size ≤ 240); omega))
              go_wp2_with fail
              go_quiet ((go_at_call 57; exact Calls.quiet_of_same ((HC.out _).mono (fun _ _ h => ⟨h.1, h.2.symm⟩))))
              go_wp2_with fail
              go_ret
              rw [HO.out]
              exact ⟨rfl, below_drewN HBa.out _⟩
        · have HE : Hid (diskOkB ps ls = decide (4 ≤ ps.length ∧ ps.length ≤ 40 ∧ ls.length ≤ 200)) := hide (diskOk_all HAll.out (fun i h => HA.out i h (by omega)))
          by_cases h4 : 4 ≤ (ps.length : Int) ∧ (ps.length : Int) ≤ 40
          · rw [decide_eq_true h4] at HCi
            have HO : Hid (diskOkB ps ls = decide ((ls.length : Int) ≤ 200)) := hide (by rw [HE.out]; congr 1; simp; omega)
            go_wp2_with fail
            refine (HCi.out _).mono ?_
            rintro e w2 ⟨rfl, rfl⟩
            go_wp2_with fail
            go_ret
            rw [HO.out]
            exact ⟨rfl, HBa.out⟩
          · rw [decide_eq_false h4] at HCi
            have HO : Hid (diskOkB ps ls = false) := hide (by rw [HE.out, decide_eq_false (by omega)])
            go_wp2_with fail
            refine (HCi.out _).mono ?_
            rintro e w2 ⟨rfl, rfl⟩
            go_wp2_with fail
            go_ret
            rw [HO.out]
            exact ⟨rfl, HBa.out⟩
end Go.Proofs.YtacmpggigdlmmaaDoor
