/-
  Rows of frees copied and compared by contracts: toFree, toFreeS, eqFree, eqFreeS.
-/
import Derived.Test.YtghjbfdbheokcaaGreatFreeRow
namespace Go.Proofs.YtghjbfdbheokcaaGreat
open Go.RowKit

set_option maxHeartbeats 1000000 in
set_option maxRecDepth 100000 in
theorem toFree_any (tx : Int) (ps : List Int) (hp : ps.length ≤ 1048576) (v : Value) (w : World) (hr : RowAt w 1 v ps.length (ints ps)) :
    Calls Tryz.prog 74 #[.agg #[.int .i64 tx, v]] w fun e w' => ∃ v', e = .returned (.agg #[.int .i64 tx, v']) ∧ w'.ownsRow w.heap.size 3 1 v' ps.length (ints ps) ∧ Below w.heap.size w w' := by
  obtain ⟨pa, pc, rfl⟩ : ∃ a cap, v = .slice a ps.length cap := by obtain ⟨-, a, cap, e, -⟩ := hr; exact ⟨a, cap, e⟩
  have HC3 := hide (fun wx h => toIntS_any ps hp (.slice pa ps.length pc) wx h)
  have H3 := hide hr
  clear hr hp
  obtain ⟨w0, hw0⟩ : ∃ w0, w0 = ((w.alloc (Obj.cells #[.int .i64 tx, .slice pa ps.length pc] 123)).alloc (Obj.cells #[.int .i64 0, .slice none 0 0] 103)).alloc (Obj.cells #[.int .i64 tx, .slice none 0 0] 103) := ⟨_, rfl⟩
  have hb0 : Below w.heap.size w w0 := by rw [hw0]; exact (((Below.refl w.heap.size w).alloc (Nat.le_refl _) _).alloc (by simp) _).alloc (by simp; omega) _
  obtain ⟨-, q1, q2, hs0⟩ := three_allocs w (Obj.cells #[.int .i64 tx, .slice pa ps.length pc] 123) (Obj.cells #[.int .i64 0, .slice none 0 0] 103) (Obj.cells #[.int .i64 tx, .slice none 0 0] 103)
  rw [← hw0] at q1 q2 hs0
  have HB0 := hide hb0
  clear hb0
  go_enter Tryz.func74, Tryz.ntmps74
  go_wp2_with fail
  rw [← hw0]
  clear hw0
  refine (HC3.out _ (row_below H3.out HB0.out)).mono ?_
  rintro e w3 ⟨u3, rfl, hown3, hb3⟩
  obtain ⟨x3, c3, rfl⟩ := own_slice hown3
  obtain ⟨a1, ha1⟩ : ∃ a, a = w.heap.size + 1 := ⟨_, rfl⟩
  obtain ⟨a2, ha2⟩ : ∃ a, a = w.heap.size + 1 + 1 := ⟨_, rfl⟩
  rw [← ha2, ← ha1]
  rw [← ha1] at q1
  rw [← ha2] at q2
  have HA := hide (⟨ha1, ha2, hs0⟩ : a1 = w.heap.size + 1 ∧ a2 = w.heap.size + 1 + 1 ∧ w0.heap.size = w.heap.size + 3)
  have hne : a1 ≠ a2 := by omega
  have r3 := (hb3.block a1 (by omega)).trans q1
  have o3 := (hb3.block a2 (by omega)).trans q2
  have c23 : w3.cell? ⟨a2, 1, none⟩ = some (.slice none 0 0) := (cell_at o3 1).1
  have f23 := (cell_at o3 1).2
  obtain ⟨y3, hy3⟩ : ∃ y, y = w3.setCell ⟨a2, 1, none⟩ (.slice x3 ps.length c3) := ⟨_, rfl⟩
  have r3' : y3.heap[a1]? = some (Obj.cells #[.int .i64 0, .slice none 0 0] 103) := by rw [hy3]; exact blk_other r3 hne
  have o3' : y3.heap[a2]? = some (Obj.cells #[.int .i64 tx, .slice x3 ps.length c3] 103) := by rw [hy3]; exact heap_setCell_same w3 a2 1 _ _ _ o3
  have k3 : Kept w3 y3 (fun k => k = a1 ∨ k = a2) := by rw [hy3]; exact kept_mono (kept_setCell _ _ _ _) (fun j _ h => Or.inr h)
  have d0 : (w3.setCell ⟨a2, 1, none⟩ (.slice x3 ps.length c3)).cell? ⟨a2, 0, none⟩ = some (.int .i64 tx) := by rw [← hy3]; exact (cell_at o3' 0).1
  have d1 : (w3.setCell ⟨a2, 1, none⟩ (.slice x3 ps.length c3)).cell? ⟨a2, 1, none⟩ = some (.slice x3 ps.length c3) := by rw [← hy3]; exact (cell_at o3' 1).1
  have e0 : (w3.setCell ⟨a2, 1, none⟩ (.slice x3 ps.length c3)).cell? ⟨a1, 0, none⟩ = some (.int .i64 0) := by rw [← hy3]; exact (cell_at r3' 0).1
  have e1 : (w3.setCell ⟨a2, 1, none⟩ (.slice x3 ps.length c3)).cell? ⟨a1, 1, none⟩ = some (.slice none 0 0) := by rw [← hy3]; exact (cell_at r3' 1).1
  have g0 : (w3.setCell ⟨a2, 1, none⟩ (.slice x3 ps.length c3)).frozen? ⟨a1, 0, none⟩ = false := by rw [← hy3]; exact (cell_at r3' 0).2
  have g1 : (w3.setCell ⟨a2, 1, none⟩ (.slice x3 ps.length c3)).frozen? ⟨a1, 1, none⟩ = false := by rw [← hy3]; exact (cell_at r3' 1).2
  have HR3 := hide r3'
  have HK3 := hide k3
  have HY3 := hide hy3
  have HO3 := hide hown3
  have HB3 := hide hb3
  clear hb3 hown3 r3 o3 r3' o3' k3 hy3 ha1 ha2 hs0 q1 q2 hne
  go_wp2_with fail
  rw [← HY3.out]
  have k4 : Kept w3 ((y3.setCell ⟨a1, 0, none⟩ (.int .i64 tx)).setCell ⟨a1, 1, none⟩ (.slice x3 ps.length c3)) (fun k => k = a1 ∨ k = a2) := kept_trans (kept_trans HK3.out (kept_setCell _ _ _ _) (fun j _ h => Or.inl h)) (kept_setCell _ _ _ _) (fun j _ h => Or.inl h)
  have z : ((y3.setCell ⟨a1, 0, none⟩ (.int .i64 tx)).setCell ⟨a1, 1, none⟩ (.slice x3 ps.length c3)).heap[a1]? = some (Obj.cells #[.int .i64 tx, .slice x3 ps.length c3] 103) := heap_setCell_same _ a1 1 _ _ _ (heap_setCell_same _ a1 0 _ _ _ HR3.out)
  have z0 := (cell_at z 0).1
  have z1 := (cell_at z 1).1
  have hA := HA.out
  have hsz3 := HB3.out.size
  refine bodyPost_ret (v := .agg #[.int .i64 tx, .slice x3 ps.length c3]) (by simp [results, Tryz.results74, go_sem, z0, z1]) rfl ⟨_, rfl, ?_, ?_⟩
  · exact own_down (own_kept HO3.out k4 (fun k hk => by have := (HO3.out.lt k hk).1; omega)) (by omega)
  · exact (HB0.out.trans (HB3.out.mono HB0.out.size)).trans (below_of_kept k4 (by have := HB0.out.size; omega) (fun k hk => by omega))

theorem Tryz.infoFree : (Tryz.prog.info? 103).map (fun i => (i.zero, i.size, i.bytes)) = some (some (.agg #[.int .i64 0, .slice none 0 0]), 2, 32) := by kernel_rfl

set_option maxHeartbeats 1000000 in
set_option maxRecDepth 100000 in
theorem toFreeS_any (fs : List (Int × List Int)) (hl : fs.length ≤ 1048576) (hs : ∀ f ∈ fs, f.2.length ≤ 1048576) (v : Value) (w : World) (hr : FreesAt w v fs) :
    Calls Tryz.prog 48 #[v] w fun e w' => ∃ v' m, e = .returned v' ∧ OwnF w' w.heap.size v' m fs ∧ Below w.heap.size w w' := by
  obtain ⟨i0, hi, hz0, hz1, hz2⟩ := info_parts Tryz.infoFree
  obtain ⟨a, cap, rfl⟩ := frees_slice hr
  have HR := hide hr
  have HS := hide hs
  clear hr hs
  go_enter Tryz.func48, Tryz.ntmps48
  go_wp2_with (at_make; refine wpList_make_full _ rfl _ _ 41 rfl w.heap.size 103 i0 (.agg #[.int .i64 0, .slice none 0 0]) 2 Tryz.underlying41 hi hz0 hz1 .i64 .i64 _ _ fs.length rfl rfl rfl rfl (by rw [hz2]; omega) (by unfold maxLen; omega) (Nat.le_refl _) ?_)
  intro w1 hown1 hg1
  have hb1 : Below w.heap.size w w1 := (Below.refl _ _).grown hg1 (Nat.le_refl _) (fun k hk => by cases hk)
  have hown2 : w1.ownsRow w.heap.size 103 2 (.slice (some ⟨w.heap.size, 0, none⟩) fs.length fs.length) fs.length (frs (List.replicate fs.length (0, .slice none 0 0))) := own_n hown1 rfl (frs_made _)
  clear hg1 hown1
  go_wp2
  go_loopg [4] fs.length (fun q iv wr => ∃ (k : Nat) (m : List (Int × Value)), k ≤ fs.length ∧ iv = .int .i64 (k : Int) ∧ q + k = fs.length ∧ wr.ownsRow w.heap.size 103 2 (.slice (some ⟨w.heap.size, 0, none⟩) fs.length fs.length) fs.length (frs m) ∧ Hid (OwnTo wr w.heap.size m fs k) ∧ Below w.heap.size w wr)
  case atStart => exact ⟨0, _, Nat.zero_le _, rfl, rfl, hown2, hide ⟨by simp, fun i p f h => by omega, fun i j p q b h => by omega⟩, hb1⟩
  case round =>
    obtain ⟨k, m, hk, rfl, hg, hown, HM, hb⟩ := hrel
    have HG := hide hg
    clear hg hown2 hb1
    by_cases hlt : k < fs.length
    · obtain ⟨tx, ps, hf⟩ : ∃ tx ps, fs[k]? = some (tx, ps) := ⟨_, _, List.getElem?_eq_getElem hlt⟩
      obtain ⟨b, off, x, c, rfl, hbl, hc0, hc1, hrow⟩ := frees_at (frees_below HR.out hb) hf
      have HC := hide (fun wx h => toFree_any tx ps (HS.out _ (List.mem_of_getElem? hf)) (.slice x ps.length c) wx h)
      have HRow := hide hrow
      have hkm : k < m.length := by rw [HM.out.1]; exact hlt
      obtain ⟨p, hp⟩ : ∃ p, m[k]? = some p := ⟨_, List.getElem?_eq_getElem hkm⟩
      obtain ⟨u0, u1, hu⟩ : ∃ (u0 : Int) (u1 : Value), (frs m)[k * 2]? = some (.int .i64 u0) ∧ (frs m)[k * 2 + 1]? = some u1 := ⟨_, _, frs_at m k p hp⟩
      have HU := hide hu
      have HF := hide hf
      have HKm := hide hkm
      have hk0 : (0 : Int) ≤ (k : Int) := by omega
      have hk1 : (k : Int) < (fs.length : Int) := by omega
      clear hkm hu hf hrow hp
      go_wp2_with fail
      refine (HC.out _ HRow.out).mono ?_
      rintro e w2 ⟨u, rfl, hou, hb2⟩
      obtain ⟨ua, uc, rfl⟩ := own_slice hou
      have hown2 := own_stays hown hb2
      have hd0 : w2.cell? ⟨w.heap.size, k * 2, none⟩ = some (.int .i64 u0) := by rw [hown2.cellAt (k * 2) (by omega), HU.out.1]
      have hd1 : w2.cell? ⟨w.heap.size, k * 2 + 1, none⟩ = some u1 := by rw [hown2.cellAt (k * 2 + 1) (by omega), HU.out.2]
      have hf0 : w2.frozen? ⟨w.heap.size, k * 2, none⟩ = false := hown2.frozenAt _
      have hf1 : w2.frozen? ⟨w.heap.size, k * 2 + 1, none⟩ = false := hown2.frozenAt _
      have hb3 : Below w.heap.size w w2 := hb.trans (hb2.mono hb.size)
      have HO := hide (((hown2.stored (k * 2) (.int .i64 tx)).1.stored (k * 2 + 1) (.slice ua ps.length uc)).1)
      rw [frs_set m k tx _ HKm.out] at HO
      have HM2 : Hid (OwnTo ((w2.setCell ⟨w.heap.size, k * 2, none⟩ (.int .i64 tx)).setCell ⟨w.heap.size, k * 2 + 1, none⟩ (.slice ua ps.length uc)) w.heap.size (m.set k (tx, .slice ua ps.length uc)) fs (k + 1)) := hide (by
        have h1 := ownTo_stays HM.out hb2
        have h2 : OwnTo w2 w.heap.size (m.set k (tx, .slice ua ps.length uc)) fs (k + 1) := ownTo_set h1 HF.out (own_down hou hb.size) (fun i p b hi hp hpb hub => by
          have hil : i < fs.length := by omega
          have := ((HM.out.2.1 i p _ hi hp (List.getElem?_eq_getElem hil)).2.lt b hpb).2
          have := (hou.lt b hub).1
          omega)
        refine ownTo_kept h2 (kept_trans (kept_setCell w2 w.heap.size (k * 2) _) (kept_setCell _ w.heap.size (k * 2 + 1) _) (fun j _ h => h)) (fun i p b hi hp hpb hbw => ?_)
        have hil : i < fs.length := by omega
        have h3 := (h2.2.1 i p _ hi hp (List.getElem?_eq_getElem hil)).2
        exact one_type hown2 h3 Tryz.free_int b (by rw [hbw]; rfl) hpb)
      clear hown hb2 hou
      go_wp2_with fail
      go_roundg (gk - 1)
      case measure => have := HG.out; omega
      case rel => exact ⟨k + 1, _, by omega, by go_num, by have := HG.out; omega, HO.out, HM2, (hb3.setCell (Nat.le_refl _) _).setCell (Nat.le_refl _) _⟩
    · obtain rfl : k = fs.length := by omega
      go_wp2
      go_ret
      exact ⟨_, m, rfl, ⟨hown, HM.out⟩, hb⟩

set_option maxHeartbeats 400000 in
theorem eqFree_same (tx : Int) (ps : List Int) (hp : ps.length ≤ 1048576) (v u : Value) (w : World) (hr : RowAt w 1 v ps.length (ints ps)) (hq : RowAt w 1 u ps.length (ints ps)) :
    Calls Tryz.prog 87 #[.agg #[.int .i64 tx, v], .agg #[.int .i64 tx, u]] w fun e w' => e = .returned (.bool true) ∧ Below w.heap.size w w' := by
  have HC3 := hide (fun wx h h' => eqIntS_row ps ps (by omega) (by omega) v u wx h h')
  rw [decide_eq_true rfl] at HC3
  have HR := hide (⟨hr, hq⟩ : _ ∧ _)
  clear hr hq hp
  obtain ⟨w0, hw0⟩ : ∃ w0, w0 = (w.alloc (Obj.cells #[.int .i64 tx, v] 103)).alloc (Obj.cells #[.int .i64 tx, u] 103) := ⟨_, rfl⟩
  have hb0 : Below w.heap.size w w0 := by rw [hw0]; exact ((Below.refl w.heap.size w).alloc (Nat.le_refl _) _).alloc (by simp) _
  have HB0 := hide hb0
  have dl : (tx != tx) = false := by simp
  clear hb0
  go_enter Tryz.func87, Tryz.ntmps87
  go_wp2_with fail
  rw [← hw0]
  clear hw0
  refine (HC3.out _ (row_below HR.out.1 HB0.out) (row_below HR.out.2 HB0.out)).mono ?_
  rintro e w3 ⟨rfl, hb3⟩
  have HB3 : Hid (Below w.heap.size w w3) := hide (HB0.out.trans (hb3.mono HB0.out.size))
  clear hb3
  go_wp2_with fail
  go_ret
  exact ⟨rfl, HB3.out⟩

set_option maxHeartbeats 2000000 in
set_option maxRecDepth 100000 in
theorem eqFreeS_same (fs : List (Int × List Int)) (hl : fs.length ≤ 1048576) (hs : ∀ f ∈ fs, f.2.length ≤ 1048576) (v u : Value) (w : World) (hr : FreesAt w v fs) (hq : FreesAt w u fs) :
    Calls Tryz.prog 58 #[v, u] w fun e w' => e = .returned (.bool true) ∧ Below w.heap.size w w' := by
  obtain ⟨a, cap, rfl⟩ := frees_slice hr
  obtain ⟨a', cap', rfl⟩ := frees_slice hq
  have HR := hide hr
  have HQ := hide hq
  have HS := hide hs
  clear hr hq hs
  go_enter Tryz.func58, Tryz.ntmps58
  go_wp2
  go_loopg [5] fs.length (fun q iv wr => ∃ k : Nat, k ≤ fs.length ∧ iv = .int .i64 (k : Int) ∧ q + k = fs.length ∧ Below w.heap.size w wr)
  case atStart => exact ⟨0, Nat.zero_le _, rfl, rfl, Below.refl _ _⟩
  case round =>
    obtain ⟨k, hk, rfl, hg, hb⟩ := hrel
    have HG := hide hg
    clear hg
    by_cases hlt : k < fs.length
    · obtain ⟨tx, ps, hf⟩ : ∃ tx ps, fs[k]? = some (tx, ps) := ⟨_, _, List.getElem?_eq_getElem hlt⟩
      obtain ⟨b, off, x, c, rfl, hbl, hc0, hc1, hrow⟩ := frees_at (frees_below HR.out hb) hf
      obtain ⟨b', off', x', c', rfl, hbl', hd0, hd1, hrow'⟩ := frees_at (frees_below HQ.out hb) hf
      have HC := hide (fun wx h h' => eqFree_same tx ps (HS.out _ (List.mem_of_getElem? hf)) (.slice x ps.length c) (.slice x' ps.length c') wx h h')
      have HRow := hide (⟨hrow, hrow'⟩ : _ ∧ _)
      have hk0 : (0 : Int) ≤ (k : Int) := by omega
      have hk1 : (k : Int) < (fs.length : Int) := by omega
      obtain ⟨n, hn⟩ : ∃ n, n = ps.length := ⟨_, rfl⟩
      rw [← hn] at hc1 hd1 HC HRow
      clear hf hrow hrow' hn
      go_wp2_with fail
      go_region_held3 (fun wx => wx.cell? ⟨b, off + k * 2, none⟩ = some (.int .i64 tx) ∧ wx.cell? ⟨b, off + k * 2 + 1, none⟩ = some (.slice x n c) ∧ wx.cell? ⟨b', off' + k * 2, none⟩ = some (.int .i64 tx) ∧ wx.cell? ⟨b', off' + k * 2 + 1, none⟩ = some (.slice x' n c')) (first | exact ⟨hc0, hc1, hd0, hd1⟩ | exact hS2) ((go_at_call 87; refine (HC.out _ (row_below HRow.out.1 (Below.refl _ _).drew) (row_below HRow.out.2 (Below.refl _ _).drew)).mono ?_; rintro e w2 ⟨rfl, hb2⟩; have hS2 : w2.cell? ⟨b, off + k * 2, none⟩ = some (.int .i64 tx) ∧ w2.cell? ⟨b, off + k * 2 + 1, none⟩ = some (.slice x n c) ∧ w2.cell? ⟨b', off' + k * 2, none⟩ = some (.int .i64 tx) ∧ w2.cell? ⟨b', off' + k * 2 + 1, none⟩ = some (.slice x' n c') := ⟨(hb2.cell (by exact hbl)).trans hc0, (hb2.cell (by exact hbl)).trans hc1, (hb2.cell (by exact hbl')).trans hd0, (hb2.cell (by exact hbl')).trans hd1⟩))
      all_goals
        have hb3 : Below w.heap.size w w2 := hb.trans ((Below.refl _ _).drew.trans (hb2.mono hb.size))
        clear hb2
        go_wp2_with fail
        go_roundg (gk - 1)
        case measure => have := HG.out; omega
        case rel => exact ⟨k + 1, by omega, by go_num, by have := HG.out; omega, hb3⟩
    · go_wp2
      go_ret
      exact ⟨rfl, hb⟩
end Go.Proofs.YtghjbfdbheokcaaGreat
