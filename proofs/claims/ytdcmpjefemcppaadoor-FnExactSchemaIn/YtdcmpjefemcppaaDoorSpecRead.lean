/-
  spec.ReadNode by one contract.
-/
import Derived.Test.YtdcmpjefemcppaaDoorSpecLeaf
import Derived.Test.YtdcmpjefemcppaaDoorSpecKids
namespace Go.Proofs.YtdcmpjefemcppaaDoor
open Go.RowKit

set_option maxHeartbeats 2000000 in
set_option maxRecDepth 100000 in
theorem specRead_none (t : ByteArray) (ht : t.size ≤ 1048576) (hn : ∀ m, ¬ IsNd t m) (hs : isSealed t.data.toList = false ∨ (isSealed t.data.toList = true ∧ (t.extract 0 (t.size - 4)).size < 2)) (w : World) :
    Calls Tryd.prog 30 #[.string t] w fun e w' => RsPost w t e w' := by
  obtain ⟨wa, hwa⟩ : ∃ wa, wa = w.alloc (Obj.cells #[.bool false, .slice none 0 0, .slice none 0 0, .slice none 0 0] 59) := ⟨_, rfl⟩
  have HBa : Hid (Below w.heap.size w wa) := hide (by rw [hwa]; exact (Below.refl _ _).alloc (Nat.le_refl _) _)
  have HVa : Hid (wa.heap[w.heap.size]? = some (.cells #[.bool false, .slice none 0 0, .slice none 0 0, .slice none 0 0] 59 (0, 0))) := hide (by rw [hwa]; exact heap_alloc_new w _)
  have HU := hide (specUnsealed_any t ht)
  have HNo := hide hn
  obtain ⟨s, ok, hU, hcase⟩ : ∃ (s : ByteArray) (ok : Bool), unOut t = .tuple #[.string s, .bool ok] ∧ (ok = false ∨ (ok = true ∧ s.size < 2)) := by
    rcases hs with h | ⟨h, h2⟩
    · exact ⟨⟨#[]⟩, false, by rw [unOut, if_neg (by rw [h]; decide)], Or.inl rfl⟩
    · exact ⟨_, true, by rw [unOut, if_pos h], Or.inr ⟨rfl, h2⟩⟩
  rw [hU] at HU
  clear hs hn hU
  rcases hcase with rfl | ⟨rfl, h2⟩
  all_goals
    try have d2 : decide ((s.size : Int) < 2) = true := decide_eq_true (by omega)
    go_enter Tryd.func30, Tryd.ntmps30
    go_wp2_with fail
    rw [← hwa]
    clear hwa
    refine (HU.out _).mono ?_
    rintro e w1 ⟨rfl, hb1⟩
    have hv := (hb1.block _ (Array.getElem?_eq_some_iff.1 HVa.out).1).trans HVa.out
    have HB1 : Hid (Below w.heap.size w w1) := hide (HBa.out.trans (hb1.mono HBa.out.size))
    have o0 : w1.cell? ⟨w.heap.size, 0, none⟩ = some (.bool false) := (cell_at hv 0).1
    have o1 : w1.cell? ⟨w.heap.size, 1, none⟩ = some (.slice none 0 0) := (cell_at hv 1).1
    have o2 : w1.cell? ⟨w.heap.size, 2, none⟩ = some (.slice none 0 0) := (cell_at hv 2).1
    have o3 : w1.cell? ⟨w.heap.size, 3, none⟩ = some (.slice none 0 0) := (cell_at hv 3).1
    have z0 := (cell_at hv 0).2
    have z1 := (cell_at hv 1).2
    have z2 := (cell_at hv 2).2
    have z3 := (cell_at hv 3).2
    have HRz := hide (ret_node hv (own_nil w1 (w.heap.size + 1)) (Nat.lt_succ_self _))
    clear hb1 hv
    go_wp2_with fail
    have t0 := (cell_at HRz.out.1 0).1
    have t1 := (cell_at HRz.out.1 1).1
    have t2 := (cell_at HRz.out.1 2).1
    have t3 := (cell_at HRz.out.1 3).1
    exact bodyPost_ret (v := .tuple #[.agg #[.bool false, .slice none 0 0, .slice none 0 0, .slice none 0 0], .bool false]) (by simp [results, Tryd.results30, go_sem, t0, t1, t2, t3]) rfl ⟨Nd.none, _, false, rfl, Or.inr ⟨rfl, rfl, HNo.out⟩, own_nil _ _, HB1.out.trans HRz.out.2.2⟩

theorem specReadNode_any (t : ByteArray) (ht : t.size ≤ 1048576) (w : World) :
    Calls Tryd.prog 30 #[.string t] w fun e w' => RsPost w t e w' := by
  cases hsl : isSealed t.data.toList with
  | false => exact specRead_none t ht (isNd_unsealed hsl) (Or.inl hsl) w
  | true =>
    by_cases h2 : (t.extract 0 (t.size - 4)).size < 2
    · exact specRead_none t ht (fun m hm => by have := (isIn_head ((isNd_sealed hsl m).1 hm)).1; omega) (Or.inr ⟨hsl, h2⟩) w
    · by_cases hy : byt (t.extract 0 (t.size - 4)) 0 = 108
      · exact specRead_true t _ ht hsl rfl (by omega) (decide_eq_true hy).symm w
      · exact specRead_false t _ ht hsl rfl (by omega) (decide_eq_false hy).symm w
end Go.Proofs.YtdcmpjefemcppaaDoor
