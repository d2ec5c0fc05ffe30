/-
  The program's DiskNew by a contract: so many pages without text; nothing late.
-/
import Derived.Test.YtjjjnloimpehbaaImplDisk
import Derived.Test.YtjjjnloimpehbaaDiskRet
import Derived.Test.YtjjjnloimpehbaaDiskCopy
namespace Go.Proofs.Ytjjjnloimpehbaa
open Go.RowKit

set_option maxHeartbeats 1000000 in
theorem implDiskNew_any (n : Int) (w : World) :
    Calls Try.prog 27 #[.int .i64 n] w fun e w' => ∃ v', e = .returned (.tuple #[v', .bool (decide (4 ≤ n ∧ n ≤ 40))]) ∧ DiskOwn w' w.heap.size v' (newP n) [] ∧ Below w.heap.size w w' := by
  obtain ⟨i0, hi, hz0, hz1, hz2⟩ := info_parts Try.infoStrR
  by_cases hin : 4 ≤ n ∧ n ≤ 40
  · obtain ⟨k, rfl⟩ := Int.eq_ofNat_of_zero_le (show 0 ≤ n by omega)
    have hk : k ≤ 40 := by omega
    have HN : Hid (newP (k : Int) = List.replicate k ⟨#[]⟩) := hide (by rw [newP, if_pos hin, Int.toNat_natCast])
    rw [decide_eq_true hin]
    have d1 : decide ((k : Int) < 4) = false := by simp; omega
    have d2 : decide ((40 : Int) < (k : Int)) = false := by simp; omega
    clear hin
    go_enter Try.func27, Try.ntmps27
    go_wp2_with (at_make; refine wpList_make_full _ rfl _ _ 24 rfl (w.heap.size + 1) 9 i0 (.string ⟨#[]⟩) 1 Try.underlying24 hi hz0 hz1 .i64 .i64 _ _ k rfl rfl rfl rfl (by rw [hz2]; omega) (by unfold maxLen; omega) (by simp) ?_)
    intro w2 hown2' hg2
    have hown2 : w2.ownsRow (w.heap.size + 1) 9 1 (.slice (some ⟨w.heap.size + 1, 0, none⟩) k k) k (strs (List.replicate k ⟨#[]⟩)) := own_n hown2' rfl (strs_made k)
    have hblk := (hg2.block w.heap.size (by simp) (by simp)).trans (heap_alloc_new w (Obj.cells #[.slice none 0 0, .slice none 0 0] 27))
    have hlt : w.heap.size < w2.heap.size := (Array.getElem?_eq_some_iff.1 hblk).1
    obtain ⟨w3, hw3⟩ : ∃ w3, w3 = w2.alloc (Obj.cells #[] 40) := ⟨_, rfl⟩
    have hbk3 : w3.heap[w.heap.size]? = some (Obj.cells #[.slice none 0 0, .slice none 0 0] 27) := by rw [hw3]; exact (Below.heap_alloc w2 _ _ hlt).trans hblk
    have hem3 : w3.heap[w2.heap.size]? = some (Obj.cells #[] 40) := by rw [hw3]; exact heap_alloc_new w2 _
    have hb2 : Below w.heap.size w w3 := by rw [hw3]; exact (((Below.refl w.heap.size w).alloc (Nat.le_refl _) _).grown hg2 (by simp) (fun j hj => by cases hj)).alloc (by omega) _
    have hb3 : Below w2.heap.size w2 w3 := by rw [hw3]; exact (Below.refl _ _).alloc (Nat.le_refl _) _
    have c0 : w3.cell? ⟨w.heap.size, 0, none⟩ = some (.slice none 0 0) := (cell_at hbk3 0).1
    have c1 : w3.cell? ⟨w.heap.size, 1, none⟩ = some (.slice none 0 0) := (cell_at hbk3 1).1
    have f0 := (cell_at hbk3 0).2
    have f1 := (cell_at hbk3 1).2
    have HBk := hide hbk3
    have HO := hide (own_stays hown2 hb3)
    have HE := hide (own_empty (sz := 2) hem3)
    have HB := hide hb2
    have HLt := hide hlt
    clear hown2' hg2 hblk hown2 hb2 hb3 hbk3 hem3 hlt
    rw [hw3] at c0 c1 f0 f1
    go_wp2_with fail
    rw [← hw3]
    have y1 : (w3.setCell ⟨w.heap.size, 0, none⟩ (.slice (some ⟨w.heap.size + 1, 0, none⟩) k k)).heap[w.heap.size]? = some (Obj.cells #[.slice (some ⟨w.heap.size + 1, 0, none⟩) k k, .slice none 0 0] 27) := heap_setCell_same _ _ 0 _ _ _ HBk.out
    have y2 : ((w3.setCell ⟨w.heap.size, 0, none⟩ (.slice (some ⟨w.heap.size + 1, 0, none⟩) k k)).setCell ⟨w.heap.size, 1, none⟩ (.slice (some ⟨w2.heap.size, 0, none⟩) 0 0)).heap[w.heap.size]? = some (Obj.cells #[.slice (some ⟨w.heap.size + 1, 0, none⟩) k k, .slice (some ⟨w2.heap.size, 0, none⟩) 0 0] 27) := heap_setCell_same _ _ 1 _ _ _ y1
    have k2 : Kept w3 ((w3.setCell ⟨w.heap.size, 0, none⟩ (.slice (some ⟨w.heap.size + 1, 0, none⟩) k k)).setCell ⟨w.heap.size, 1, none⟩ (.slice (some ⟨w2.heap.size, 0, none⟩) 0 0)) (fun j => j = w.heap.size) := kept_trans (kept_setCell _ _ _ _) (kept_setCell _ _ _ _) (fun j _ h => h)
    have hl := HLt.out
    refine bodyPost_ret (v := .tuple #[.agg #[.slice (some ⟨w.heap.size + 1, 0, none⟩) k k, .slice (some ⟨w2.heap.size, 0, none⟩) 0 0], .bool true]) (by simp [results, Try.results27, go_sem, (cell_at y2 0).1, (cell_at y2 1).1]) rfl ⟨_, rfl, ?_, (HB.out.setCell (Nat.le_refl _) _).setCell (Nat.le_refl _) _⟩
    rw [HN.out]
    refine ⟨_, _, rfl, ?_, ?_⟩
    · rw [List.length_replicate]
      exact own_down (own_kept HO.out k2 (fun j hj => by have := (HO.out.lt j hj).1; omega)) (by omega)
    · exact own_down (own_kept HE.out k2 (fun j hj => by have := (HE.out.lt j hj).1; omega)) (by omega)
  · rw [decide_eq_false hin]
    have HN : Hid (newP n = []) := hide (by rw [newP, if_neg hin])
    have hblk := heap_alloc_new w (Obj.cells #[.slice none 0 0, .slice none 0 0] 27)
    have c0 := (cell_at hblk 0).1
    have c1 := (cell_at hblk 1).1
    have f0 := (cell_at hblk 0).2
    have f1 := (cell_at hblk 1).2
    have HBk := hide hblk
    clear hblk
    by_cases h4 : n < 4
    · have d1 : decide (n < 4) = true := by simp; omega
      go_enter Try.func27, Try.ntmps27
      go_wp2_with fail
      refine bodyPost_ret (v := .tuple #[.agg #[.slice none 0 0, .slice none 0 0], .bool false]) (by simp [results, Try.results27, go_sem, (cell_at HBk.out 0).1, (cell_at HBk.out 1).1]) rfl ⟨_, rfl, ?_, (Below.refl w.heap.size w).alloc (Nat.le_refl _) _⟩
      rw [HN.out]
      exact ⟨_, _, rfl, ⟨rfl, Or.inl ⟨rfl, rfl⟩⟩, ⟨rfl, Or.inl ⟨rfl, rfl⟩⟩⟩
    · have d1 : decide (n < 4) = false := by simp; omega
      have d2 : decide ((40 : Int) < n) = true := by simp; omega
      go_enter Try.func27, Try.ntmps27
      go_wp2_with fail
      refine bodyPost_ret (v := .tuple #[.agg #[.slice none 0 0, .slice none 0 0], .bool false]) (by simp [results, Try.results27, go_sem, (cell_at HBk.out 0).1, (cell_at HBk.out 1).1]) rfl ⟨_, rfl, ?_, (Below.refl w.heap.size w).alloc (Nat.le_refl _) _⟩
      rw [HN.out]
      exact ⟨_, _, rfl, ⟨rfl, Or.inl ⟨rfl, rfl⟩⟩, ⟨rfl, Or.inl ⟨rfl, rfl⟩⟩⟩
end Go.Proofs.Ytjjjnloimpehbaa
