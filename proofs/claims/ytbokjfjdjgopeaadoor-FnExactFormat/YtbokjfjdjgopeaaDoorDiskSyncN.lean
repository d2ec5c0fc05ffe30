/-
  spec.SyncDisk, spec.l03Copy and spec.FallDisk by contracts.
-/
import Derived.Test.YtbokjfjdjgopeaaDoorDiskSpecN
import Derived.Test.YtbokjfjdjgopeaaDoorAppRow
namespace Go.Proofs.YtbokjfjdjgopeaaDoor
open Go.RowKit

/-- what a round of SyncDisk keeps: its argument's box, its answer's variable, the new disk's variable, the new pages; nothing that was there is turned -/
structure SyncIn (wr : World) (a0 a1 a3 : Nat) (vp vl u : Value) (n : Nat) (m : List ByteArray) (w : World) : Prop where
  box : wr.heap[a0]? = some (Obj.cells #[vp, vl] 25)
  res : wr.heap[a1]? = some (Obj.cells #[.slice none 0 0, .slice none 0 0] 25)
  out : wr.heap[a3]? = some (Obj.cells #[u, .slice none 0 0] 25)
  own : wr.ownsRow (a1 + 1) 9 1 u n (strs m)
  low : Below a0 w wr

theorem syncIn_drewN {wr : World} {a0 a1 a3 : Nat} {vp vl u : Value} {n : Nat} {m : List ByteArray} {w : World} (h : SyncIn wr a0 a1 a3 vp vl u n m w) (k : Nat) : SyncIn (wr.drewN k) a0 a1 a3 vp vl u n m w :=
  ⟨h.box, h.res, h.out, h.own, below_drewN h.low _⟩

theorem syncIn_set {wr : World} {a0 a1 a3 : Nat} {vp vl : Value} {n g c : Nat} {m : List ByteArray} {w : World} (h0 : a0 < g) (h1 : a1 < g) (h3 : g < a3) (h : SyncIn wr a0 a1 a3 vp vl (.slice (some ⟨g, 0, none⟩) n c) n m w) (k j : Nat) (t : ByteArray) :
    SyncIn ((wr.drewN k).setCell ⟨g, j, none⟩ (.string t)) a0 a1 a3 vp vl (.slice (some ⟨g, 0, none⟩) n c) n (m.set j t) w := by
  have h' := syncIn_drewN h k
  refine ⟨?_, ?_, ?_, ?_, ?_⟩
  · rw [heap_setCell_other _ ⟨g, j, none⟩ a0 _ (by show a0 ≠ g; omega)]; exact h'.box
  · rw [heap_setCell_other _ ⟨g, j, none⟩ a1 _ (by show a1 ≠ g; omega)]; exact h'.res
  · rw [heap_setCell_other _ ⟨g, j, none⟩ a3 _ (by show a3 ≠ g; omega)]; exact h'.out
  · have := (h'.own.stored j (.string t)).1
    rw [strs_set] at this
    exact this
  · exact h'.low.setCell (by show a0 ≤ g; omega) _

set_option maxHeartbeats 2000000 in
set_option maxRecDepth 100000 in
theorem specSyncDisk_any (v : Value) (ps : List ByteArray) (ls : List (Int × ByteArray)) (hp : ps.length ≤ 1048576) (hl : ls.length ≤ 1048576) (w : World) (hd : DiskAt w v ps ls) :
    Calls Tryd.prog 12 #[v] w fun e w' => ∃ v', e = .returned v' ∧ DiskOwn w' w.heap.size v' (syncD ps ls) [] ∧ Below w.heap.size w w' := by
  obtain ⟨i0, hi, hz0, hz1, hz2⟩ := info_parts Tryd.infoStrR
  obtain ⟨vp, vl, rfl, h1, h2⟩ := hd
  obtain ⟨x1, c1, rfl⟩ : ∃ a cap, vp = .slice a ps.length cap := by obtain ⟨-, a, cap, e, -⟩ := h1; exact ⟨a, cap, e⟩
  obtain ⟨x2, c2, rfl⟩ : ∃ a cap, vl = .slice a ls.length cap := by obtain ⟨-, a, cap, e, -⟩ := h2; exact ⟨a, cap, e⟩
  have H1 := hide h1
  have H2 := hide h2
  clear h1 h2
  obtain ⟨w0, hw0⟩ : ∃ w0, w0 = ((w.alloc (Obj.cells #[.slice x1 ps.length c1, .slice x2 ls.length c2] 25)).alloc (Obj.cells #[.slice none 0 0, .slice none 0 0] 25)).alloc (Obj.cells #[] 9) := ⟨_, rfl⟩
  have hb0 : Below w.heap.size w w0 := by rw [hw0]; exact (((Below.refl w.heap.size w).alloc (Nat.le_refl _) _).alloc (by simp) _).alloc (by simp; omega) _
  obtain ⟨q0, q1, q2, hs0⟩ := three_allocs w (Obj.cells #[.slice x1 ps.length c1, .slice x2 ls.length c2] 25) (Obj.cells #[.slice none 0 0, .slice none 0 0] 25) (Obj.cells #[] 9)
  rw [← hw0] at q0 q1 q2 hs0
  have hown0 : w0.ownsRow (w.heap.size + 1 + 1) 9 1 (.slice (some ⟨w.heap.size + 1 + 1, 0, none⟩) 0 0) 0 (strs []) := ⟨rfl, Or.inr ⟨_, 0, #[], rfl, Nat.le_refl _, q2, Nat.le_refl _, by unfold maxLen; omega, rfl, rfl⟩⟩
  have HRow := hide (row_below H1.out hb0)
  go_enter Tryd.func12, Tryd.ntmps12
  go_wp2_with (at_builtin; rw [← hw0]; refine wpList_append_row _ rfl _ _ 22 rfl (w.heap.size + 1 + 1) 9 i0 (.string ⟨#[]⟩) 1 16 Tryd.underlying22 hi hz0 hz1 hz2 rfl (by decide) _ _ _ rfl hown0 _ _ _ rfl HRow.out (strs_one _) ?_ ?_ ?_ ?_)
  · unfold maxLen; omega
  · omega
  · omega
  intro y c w1 hown1' hg1
  have hown1 : w1.ownsRow (w.heap.size + 1 + 1) 9 1 (.slice y ps.length c) ps.length (strs ps) := hown1'
  rw [← hw0] at hg1
  obtain ⟨a0, ha0⟩ : ∃ a, a = w.heap.size := ⟨_, rfl⟩
  obtain ⟨a1, ha1⟩ : ∃ a, a = a0 + 1 := ⟨_, rfl⟩
  rw [← ha0] at hown1 q0 q1 hg1 hs0 ⊢
  rw [← ha1] at hown1 q1 hg1 ⊢
  have hgb : (Value.slice (some ⟨a1 + 1, 0, none⟩) 0 0).ownBlock = some (a1 + 1) := rfl
  rw [hgb] at hg1
  have r0 := (hg1.block a0 (by omega) (by simp; omega)).trans q0
  have r1 := (hg1.block a1 (by omega) (by simp)).trans q1
  have hb1 : Below a0 w w1 := by rw [ha0]; exact hb0.grown hg1 (by omega) (fun k hk => by cases hk; omega)
  have hs1 := hg1.size
  obtain ⟨a3, ha3⟩ : ∃ a, a = w1.heap.size := ⟨_, rfl⟩
  have HA := hide (⟨ha0, ha1, hs0⟩ : a0 = w.heap.size ∧ a1 = a0 + 1 ∧ w0.heap.size = a0 + 3)
  have HB1 := hide hb1
  have HO1 := hide hown1
  have HR := hide (⟨r0, r1⟩ : w1.heap[a0]? = some (Obj.cells #[.slice x1 ps.length c1, .slice x2 ls.length c2] 25) ∧ w1.heap[a1]? = some (Obj.cells #[.slice none 0 0, .slice none 0 0] 25))
  have HS1 := hide hs1
  clear hown1' hg1 hgb q0 q1 q2 hown0 hb0 hw0 ha0 ha1 hs0 hb1 hown1 r0 r1 hs1
  go_wp2_with fail
  rw [← ha3]
  have HG3 : Hid (∀ k, (Value.slice y ps.length c).ownBlock = some k → a1 + 1 ≤ k ∧ k < a3) := hide (fun k h => by rw [ha3]; exact HO1.out.lt k h)
  have hI0 : SyncIn (w1.alloc (Obj.cells #[.slice y ps.length c, .slice none 0 0] 25)) a0 a1 a3 (.slice x1 ps.length c1) (.slice x2 ls.length c2) (.slice y ps.length c) ps.length ps w := by
    have hlt0 : a0 < w1.heap.size := (Array.getElem?_eq_some_iff.1 HR.out.1).1
    have hlt1 : a1 < w1.heap.size := (Array.getElem?_eq_some_iff.1 HR.out.2).1
    refine ⟨(Below.heap_alloc w1 _ a0 hlt0).trans HR.out.1, (Below.heap_alloc w1 _ a1 hlt1).trans HR.out.2, ?_, HO1.out.alloc _, ?_⟩
    · rw [ha3]; exact heap_alloc_new w1 _
    · exact HB1.out.alloc (by have h1 := HA.out; have h2 := HS1.out; omega) _
  have HI0 := hide hI0
  clear hI0 ha3
  go_loopg [4] ls.length (fun q iv wr => ∃ k : Nat, k ≤ ls.length ∧ iv = .int .i64 (k : Int) ∧ q + k = ls.length ∧ Hid (SyncIn wr a0 a1 a3 (.slice x1 ps.length c1) (.slice x2 ls.length c2) (.slice y ps.length c) ps.length (syncD ps (ls.take k)) w))
  case atStart => exact ⟨0, Nat.zero_le _, rfl, rfl, HI0⟩
  case round =>
    obtain ⟨k, hk, rfl, hg, HI⟩ := hrel
    have HG := hide hg
    clear hg HI0
    have cb0 : wr.cell? ⟨a0, 0, none⟩ = some (.slice x1 ps.length c1) := (cell_at HI.out.box 0).1
    have cb1 : wr.cell? ⟨a0, 1, none⟩ = some (.slice x2 ls.length c2) := (cell_at HI.out.box 1).1
    have cb2 : wr.cell? ⟨a3, 0, none⟩ = some (.slice y ps.length c) := (cell_at HI.out.out 0).1
    by_cases hlt : k < ls.length
    · rcases H2.out.2 with ⟨a, cap, e, h0 | ⟨b, off, e2, hbl, hc⟩⟩
      · omega
      · injection e with e1 e3 e4
        subst e1 e4
        subst e2
        obtain ⟨q, t, hqt⟩ : ∃ q t, (q, t) = ls[k] := ⟨_, _, rfl⟩
        have hba : b < a0 := by have := HA.out; omega
        have hc0 : wr.cell? ⟨b, off + k * 2, none⟩ = some (.int .i64 q) := by rw [HI.out.low.cell (by exact hba), hc (k * 2) (by omega), (puts_at ls k hlt).1, ← hqt]
        have hc1 : wr.cell? ⟨b, off + k * 2 + 1, none⟩ = some (.string t) := by rw [HI.out.low.cell (by exact hba), Nat.add_assoc, hc (k * 2 + 1) (by omega), (puts_at ls k hlt).2, ← hqt]
        have hi0 : (0 : Int) ≤ (k : Int) := by omega
        have hi1 : (k : Int) < (ls.length : Int) := by omega
        have hw1 : IntKind.i64.wrap ((ps.length : Int) - 1) = (ps.length : Int) - 1 := IntWalk.i64_in _ ⟨by omega, by omega⟩
        have HC := hide (l01In_any q 0 ((ps.length : Int) - 1))
        have HQT := hide hqt
        clear hc hqt
        by_cases hin : 0 ≤ q ∧ q ≤ (ps.length : Int) - 1
        · rw [decide_eq_true hin] at HC
          obtain ⟨j, hj⟩ := Int.eq_ofNat_of_zero_le hin.1
          subst hj
          have hjl : j < ps.length := by omega
          obtain ⟨g, rfl⟩ : ∃ g, y = some ⟨g, 0, none⟩ := by
            rcases HI.out.own.2 with ⟨e, h0⟩ | ⟨g, cc, cur, e, _⟩
            · omega
            · injection e with e1; exact ⟨g, e1⟩
          have hml : j < (syncD ps (ls.take k)).length := by rw [syncD_length]; exact hjl
          have hd0 : wr.cell? ⟨g, j, none⟩ = some (.string ((syncD ps (ls.take k))[j]'hml)) := by rw [HI.out.own.cellAt j (by omega), strs_at _ j hml]
          have hf0 : wr.frozen? ⟨g, j, none⟩ = false := HI.out.own.frozenAt j
          obtain ⟨z, hz⟩ : ∃ z, z = (syncD ps (ls.take k))[j]'hml := ⟨_, rfl⟩
          rw [← hz] at hd0
          have HP : Hid (putD (syncD ps (ls.take k)) ls[k] = (syncD ps (ls.take k)).set j t) := hide (by rw [← HQT.out, putD, syncD_length, if_pos (by omega)]; simp)
          have hj0 : (0 : Int) ≤ (j : Int) := by omega
          have hj1 : (j : Int) < (ps.length : Int) := by omega
          clear hin hz hml
          go_wp2_with fail
          go_quiet ((go_at_call 22; exact Calls.quiet_of_same ((HC.out _).mono (fun _ _ h => ⟨h.1, h.2.symm⟩))))
          go_wp2_with fail
          go_region
          have HI2 : Hid (SyncIn ((wr.drewN (nq + 1)).setCell ⟨g, j, none⟩ (.string t)) a0 a1 a3 (.slice x1 ps.length c1) (.slice (some ⟨b, off, none⟩) ls.length c2) (.slice (some ⟨g, 0, none⟩) ps.length c) ps.length (syncD ps (ls.take (k + 1))) w) := hide (by
            have hgo := HG3.out g rfl
            have hA := HA.out
            rw [syncD_succ ps ls k hlt, HP.out]
            exact syncIn_set (by omega) (by omega) (by omega) HI.out _ _ _)
          go_wp2_with fail
          go_roundg (gk - 1)
          case measure => have := HG.out; omega
          case rel => exact ⟨k + 1, by omega, by go_num, by have := HG.out; omega, HI2⟩
        · rw [decide_eq_false hin] at HC
          have HP : Hid (syncD ps (ls.take (k + 1)) = syncD ps (ls.take k)) := hide (by rw [syncD_succ ps ls k hlt, ← HQT.out, putD, syncD_length, if_neg (by show ¬ (0 ≤ q ∧ q < (ps.length : Int)); omega)])
          clear hin
          go_wp2_with fail
          go_quiet ((go_at_call 22; exact Calls.quiet_of_same ((HC.out _).mono (fun _ _ h => ⟨h.1, h.2.symm⟩))))
          have HI2 : Hid (SyncIn (wr.drewN nq) a0 a1 a3 (.slice x1 ps.length c1) (.slice (some ⟨b, off, none⟩) ls.length c2) (.slice y ps.length c) ps.length (syncD ps (ls.take (k + 1))) w) := hide (by rw [HP.out]; exact syncIn_drewN HI.out _)
          go_wp2_with fail
          go_roundg (gk - 1)
          case measure => have := HG.out; omega
          case rel => exact ⟨k + 1, by omega, by go_num, by have := HG.out; omega, HI2⟩
    · have hkl : ls.take k = ls := List.take_of_length_le (by omega)
      rw [hkl] at HI
      have cr0 : wr.cell? ⟨a1, 0, none⟩ = some (.slice none 0 0) := (cell_at HI.out.res 0).1
      have cr1 : wr.cell? ⟨a1, 1, none⟩ = some (.slice none 0 0) := (cell_at HI.out.res 1).1
      have fr0 := (cell_at HI.out.res 0).2
      have fr1 := (cell_at HI.out.res 1).2
      have cb3 : wr.cell? ⟨a3, 1, none⟩ = some (.slice none 0 0) := (cell_at HI.out.out 1).1
      go_wp2_with fail
      have y1 : (wr.setCell ⟨a1, 0, none⟩ (.slice y ps.length c)).heap[a1]? = some (Obj.cells #[.slice y ps.length c, .slice none 0 0] 25) := heap_setCell_same _ a1 0 _ _ _ HI.out.res
      have y2 : ((wr.setCell ⟨a1, 0, none⟩ (.slice y ps.length c)).setCell ⟨a1, 1, none⟩ (.slice none 0 0)).heap[a1]? = some (Obj.cells #[.slice y ps.length c, .slice none 0 0] 25) := heap_setCell_same _ a1 1 _ _ _ y1
      have z0 := (cell_at y2 0).1
      have z1 := (cell_at y2 1).1
      have hA := HA.out
      have k2 : Kept wr ((wr.setCell ⟨a1, 0, none⟩ (.slice y ps.length c)).setCell ⟨a1, 1, none⟩ (.slice none 0 0)) (fun k => k = a1) := kept_trans (kept_setCell _ _ _ _) (kept_setCell _ _ _ _) (fun j _ h => h)
      refine bodyPost_ret (v := .agg #[.slice y ps.length c, .slice none 0 0]) (by simp [results, Tryd.results12, go_sem, z0, z1]) rfl ⟨_, rfl, ⟨_, _, rfl, ?_, ?_⟩, ?_⟩
      · rw [syncD_length]
        exact own_down (own_kept HI.out.own k2 (fun k hk => by have := (HI.out.own.lt k hk).1; omega)) (by omega)
      · exact ⟨rfl, Or.inl ⟨rfl, rfl⟩⟩
      · have hlow := HI.out.low
        rw [hA.1] at hlow
        refine (hlow.setCell ?_ _).setCell ?_ _
        · show _ ≤ a1; omega
        · show _ ≤ a1; omega
end Go.Proofs.YtbokjfjdjgopeaaDoor
