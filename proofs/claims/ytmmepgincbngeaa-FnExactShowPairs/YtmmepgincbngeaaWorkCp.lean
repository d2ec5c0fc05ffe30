/-
  A work that is being copied, in whatever order: empty rows that were made, rows that were filled, the disk. No function of the program.
-/
import Derived.Test.YtmmepgincbngeaaWork
import Derived.Test.YtmmepgincbngeaaDiskCopyN
import Derived.Test.YtmmepgincbngeaaAppRow
import Derived.Test.YtmmepgincbngeaaStepCall
namespace Go.Proofs.Ytmmepgincbngeaa
open Go.RowKit

theorem own_empty0 {w : World} {g e : Nat} (h : w.heap[g]? = some (.cells #[] e (0, 0))) : w.ownsRow g e 1 (.slice (some ⟨g, 0, none⟩) 0 0) 0 [] := own_empty h

/-- 'append([]int{}, row...)' at an empty row that waits -/
theorem run_copy {P : Program} (w : World) (t ty e : TypeId) (i : TypeInfo) (z : Value) (ht : P.underlying t = some (.slice e)) (hi : P.info? e = some i) (hz : i.zero = some z) (hsize : i.size = 1) (hby : i.bytes = 8) (hzs : z.cells.size = 1)
    (g : Nat) (hge : w.heap[g]? = some (.cells #[] e (0, 0))) (u : Value) (m : Nat) (ys : List Value) (hrow : RowAt w 1 u m ys) (h1 : ∀ y ∈ ys, y.oneCell' = true) (hm : m ≤ 2000000) :
    ∃ b c w', (Builtin.append_ #[t, t] ty #[.slice (some ⟨g, 0, none⟩) 0 0, u]).run P w = .ok (.slice (some ⟨b, 0, none⟩) m c) w' ∧ w'.ownsRow g e 1 (.slice (some ⟨b, 0, none⟩) m c) m ys ∧ w.grownBy w' (some g) ∧ (b = g ∨ b = w.heap.size) := by
  have hlt : g < w.heap.size := (Array.getElem?_eq_some_iff.1 hge).1
  have hown := own_empty0 hge
  obtain ⟨hl, a, cap, rfl, h2⟩ := hrow
  rcases a with _ | ad
  · rcases h2 with h0 | ⟨b, off, e, _⟩
    · subst h0
      have hy : ys = [] := List.length_eq_zero_iff.1 (by omega)
      subst hy
      refine ⟨g, 0, w, ?_, hown, ⟨rfl, rfl, rfl, Nat.le_refl _, fun _ _ _ => rfl⟩, Or.inl rfl⟩
      simp [Builtin.append_, run_underlying ht, sizeOf, typeInfo, hi, Builtin.lenOf, Builtin.firstCells, storeCells]
    · cases e
  · have hnews : ∀ j y, ys[j]? = some y → w.cell? (ad.add j) = some y := fun j y hj => by
      have hjl : j < m * 1 := by rw [← hl]; exact (List.getElem?_eq_some_iff.1 hj).1
      rcases h2 with h0 | ⟨b, off, e, hlt, hc⟩
      · subst h0; simp at hjl
      · injection e with e
        subst e
        rw [Addr.add_lit, hc j hjl, hj]
    obtain ⟨v', w', hr, q2, q3, q4, q5⟩ := run_append_own_at (P := P) w g t ty e i z 1 8 ht hi hz hsize hby hzs (by decide) (.slice (some ⟨g, 0, none⟩) 0 0) 0 [] hown ad m cap ys hl hnews h1 (by unfold maxLen; omega) (by omega) (by omega)
    rw [Nat.zero_add] at q2
    rw [List.nil_append] at q2
    rcases q2.2 with ⟨rfl, hm0⟩ | ⟨b, c, cur, rfl, rest⟩
    · exact absurd (q4.1 rfl).1 (by intro h; cases h)
    · refine ⟨b, c, w', hr, q2, q3, ?_⟩
      rcases q5 with q5 | q5
      · injection q5 with q5
        exact Or.inl q5
      · injection q5 with q5
        exact Or.inr q5

theorem Try.infoIntC : (Try.prog.info? 3).map (fun i => (i.zero, i.size, i.bytes)) = some (some (.int .i64 0), 1, 8) := by kernel_rfl

abbrev set6 (wr : World) (a : Nat) (u0 u1 u2 u3 u4 u5 : Value) : World := (((((wr.setCell ⟨a, 0, none⟩ u0).setCell ⟨a, 1, none⟩ u1).setCell ⟨a, 2, none⟩ u2).setCell ⟨a, 3, none⟩ u3).setCell ⟨a, 4, none⟩ u4).setCell ⟨a, 5, none⟩ u5

theorem set6_blk {wr : World} {a : Nat} {r0 r1 r2 r3 r4 r5 u0 u1 u2 u3 u4 u5 : Value} {t : TypeId} (h : wr.heap[a]? = some (Obj.cells #[r0, r1, r2, r3, r4, r5] t)) : (set6 wr a u0 u1 u2 u3 u4 u5).heap[a]? = some (Obj.cells #[u0, u1, u2, u3, u4, u5] t) :=
  heap_setCell_same _ a 5 _ _ _ (heap_setCell_same _ a 4 _ _ _ (heap_setCell_same _ a 3 _ _ _ (heap_setCell_same _ a 2 _ _ _ (heap_setCell_same _ a 1 _ _ _ (heap_setCell_same wr a 0 _ _ _ h)))))

theorem set6_kept (wr : World) (a : Nat) (u0 u1 u2 u3 u4 u5 : Value) : Kept wr (set6 wr a u0 u1 u2 u3 u4 u5) (fun k => k = a) :=
  kept_trans (kept_trans (kept_trans (kept_trans (kept_trans (kept_setCell _ _ _ _) (kept_setCell _ _ _ _) (fun _ _ h => h)) (kept_setCell _ _ _ _) (fun _ _ h => h)) (kept_setCell _ _ _ _) (fun _ _ h => h)) (kept_setCell _ _ _ _) (fun _ _ h => h)) (kept_setCell _ _ _ _) (fun _ _ h => h)

theorem size_drewW (w : World) : w.drew.heap.size = w.heap.size := rfl

theorem blk6c {W : World} {g : Nat} {c0 c1 c2 c3 c4 c5 : Value} {t : TypeId} (h : W.heap[g]? = some (Obj.cells #[c0, c1, c2, c3, c4, c5] t)) :
    W.cell? ⟨g, 0, none⟩ = some c0 ∧ W.cell? ⟨g, 1, none⟩ = some c1 ∧ W.cell? ⟨g, 2, none⟩ = some c2 ∧ W.cell? ⟨g, 3, none⟩ = some c3 ∧ W.cell? ⟨g, 4, none⟩ = some c4 ∧ W.cell? ⟨g, 5, none⟩ = some c5 :=
  ⟨(cell_at h 0).1, (cell_at h 1).1, (cell_at h 2).1, (cell_at h 3).1, (cell_at h 4).1, (cell_at h 5).1⟩

end Go.Proofs.Ytmmepgincbngeaa
