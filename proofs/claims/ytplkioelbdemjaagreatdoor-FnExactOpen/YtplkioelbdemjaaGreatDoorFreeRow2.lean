/-
  Rows of frees copied and compared by contracts: toFree, toFreeS, eqFree, eqFreeS.
-/
import Derived.Test.YtplkioelbdemjaaGreatDoorFreeRow
namespace Go.Proofs.YtplkioelbdemjaaGreatDoor
open Go.RowKit

theorem Tryz.infoFree : (Tryz.prog.info? 92).map (fun i => (i.zero, i.size, i.bytes)) = some (some (.agg #[.int .i64 0, .slice none 0 0]), 2, 32) := by kernel_rfl

set_option maxHeartbeats 400000 in
theorem eqFree_same (tx : Int) (ps : List Int) (hp : ps.length ≤ 1048576) (v u : Value) (w : World) (hr : RowAt w 1 v ps.length (ints ps)) (hq : RowAt w 1 u ps.length (ints ps)) :
    Calls Tryz.prog 63 #[.agg #[.int .i64 tx, v], .agg #[.int .i64 tx, u]] w fun e w' => e = .returned (.bool true) ∧ Below w.heap.size w w' := by
  have HC3 := hide (fun wx h h' => eqIntS_row ps ps (by omega) (by omega) v u wx h h')
  rw [decide_eq_true rfl] at HC3
  have HR := hide (⟨hr, hq⟩ : _ ∧ _)
  clear hr hq hp
  obtain ⟨w0, hw0⟩ : ∃ w0, w0 = (w.alloc (Obj.cells #[.int .i64 tx, v] 92)).alloc (Obj.cells #[.int .i64 tx, u] 92) := ⟨_, rfl⟩
  have hb0 : Below w.heap.size w w0 := by rw [hw0]; exact ((Below.refl w.heap.size w).alloc (Nat.le_refl _) _).alloc (by simp) _
  have HB0 := hide hb0
  have dl : (tx != tx) = false := by simp
  clear hb0
  go_enter Tryz.func63, Tryz.ntmps63
  go_wp2_with fail
  rw [← hw0]
  clear hw0
  refine (HC3.out _ (row_below HR.out.1 HB0.out) (row_below HR.out.2 HB0.out)).mono ?_
  rintro e w3 ⟨rfl, hb3⟩
  have HB3 : Hid (Below w.heap.size w w3) := hide (HB0.out.trans (hb3.mono HB0.out.size))
  clear hb3
  go_wp2_with fail
  go_ret
  exact ⟨rfl, HB3.out⟩

set_option maxHeartbeats 2000000 in
set_option maxRecDepth 100000 in
theorem eqFreeS_same (fs : List (Int × List Int)) (hl : fs.length ≤ 1048576) (hs : ∀ f ∈ fs, f.2.length ≤ 1048576) (v u : Value) (w : World) (hr : FreesAt w v fs) (hq : FreesAt w u fs) :
    Calls Tryz.prog 46 #[v, u] w fun e w' => e = .returned (.bool true) ∧ Below w.heap.size w w' := by
  obtain ⟨a, cap, rfl⟩ := frees_slice hr
  obtain ⟨a', cap', rfl⟩ := frees_slice hq
  have HR := hide hr
  have HQ := hide hq
  have HS := hide hs
  clear hr hq hs
  go_enter Tryz.func46, Tryz.ntmps46
  go_wp2
  go_loopg [5] fs.length (fun q iv wr => ∃ k : Nat, k ≤ fs.length ∧ iv = .int .i64 (k : Int) ∧ q + k = fs.length ∧ Below w.heap.size w wr)
  case atStart => exact ⟨0, Nat.zero_le _, rfl, rfl, Below.refl _ _⟩
  case round =>
    obtain ⟨k, hk, rfl, hg, hb⟩ := hrel
    have HG := hide hg
    clear hg
    by_cases hlt : k < fs.length
    · obtain ⟨tx, ps, hf⟩ : ∃ tx ps, fs[k]? = some (tx, ps) := ⟨_, _, List.getElem?_eq_getElem hlt⟩
      obtain ⟨b, off, x, c, rfl, hbl, hc0, hc1, hrow⟩ := frees_at (frees_below HR.out hb) hf
      obtain ⟨b', off', x', c', rfl, hbl', hd0, hd1, hrow'⟩ := frees_at (frees_below HQ.out hb) hf
      have HC := hide (fun wx h h' => eqFree_same tx ps (HS.out _ (List.mem_of_getElem? hf)) (.slice x ps.length c) (.slice x' ps.length c') wx h h')
      have HRow := hide (⟨hrow, hrow'⟩ : _ ∧ _)
      have hk0 : (0 : Int) ≤ (k : Int) := by omega
      have hk1 : (k : Int) < (fs.length : Int) := by omega
      obtain ⟨n, hn⟩ : ∃ n, n = ps.length := ⟨_, rfl⟩
      rw [← hn] at hc1 hd1 HC HRow
      clear hf hrow hrow' hn
      go_wp2_with fail
      go_region_held3 (fun wx => wx.cell? ⟨b, off + k * 2, none⟩ = some (.int .i64 tx) ∧ wx.cell? ⟨b, off + k * 2 + 1, none⟩ = some (.slice x n c) ∧ wx.cell? ⟨b', off' + k * 2, none⟩ = some (.int .i64 tx) ∧ wx.cell? ⟨b', off' + k * 2 + 1, none⟩ = some (.slice x' n c')) (first | exact ⟨hc0, hc1, hd0, hd1⟩ | exact hS2) ((go_at_call 63; refine (HC.out _ (row_below HRow.out.1 (Below.refl _ _).drew) (row_below HRow.out.2 (Below.refl _ _).drew)).mono ?_; rintro e w2 ⟨rfl, hb2⟩; have hS2 : w2.cell? ⟨b, off + k * 2, none⟩ = some (.int .i64 tx) ∧ w2.cell? ⟨b, off + k * 2 + 1, none⟩ = some (.slice x n c) ∧ w2.cell? ⟨b', off' + k * 2, none⟩ = some (.int .i64 tx) ∧ w2.cell? ⟨b', off' + k * 2 + 1, none⟩ = some (.slice x' n c') := ⟨(hb2.cell (by exact hbl)).trans hc0, (hb2.cell (by exact hbl)).trans hc1, (hb2.cell (by exact hbl')).trans hd0, (hb2.cell (by exact hbl')).trans hd1⟩))
      all_goals
        have hb3 : Below w.heap.size w w2 := hb.trans ((Below.refl _ _).drew.trans (hb2.mono hb.size))
        clear hb2
        go_wp2_with fail
        go_roundg (gk - 1)
        case measure => have := HG.out; omega
        case rel => exact ⟨k + 1, by omega, by go_num, by have := HG.out; omega, hb3⟩
    · go_wp2
      go_ret
      exact ⟨rfl, hb⟩
end Go.Proofs.YtplkioelbdemjaaGreatDoor
