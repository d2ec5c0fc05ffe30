/-
  slices.Contains, slices.Clip by contracts.
-/
import Derived.Test.YtaefmkmldfbjeaaDoorImplNode
import Derived.Test.YtaefmkmldfbjeaaDoorNodesOf
namespace Go.Proofs.YtaefmkmldfbjeaaDoor
open Go.RowKit Go.Shelf

set_option maxHeartbeats 1000000 in
theorem contains_any (cs : List Int) (hc : cs.length ≤ 1048576) (x : Int) (v : Value) (w : World) (h : RowAt w 1 v cs.length (ints cs)) :
    Calls Tryd.prog 29 #[v, .int .i64 x] w fun e w' => e = .returned (.bool (decide (x ∈ cs))) ∧ w = w' := by
  have HR := hide h
  obtain ⟨a, cap, rfl⟩ := row_slice h
  clear h
  go_enter Tryd.func29, Tryd.ntmps29
  go_wp2_with fail
  refine (slicesIndex_any cs hc x _ _ HR.out).mono ?_
  rintro e w1 ⟨r, rfl, rfl, hi⟩
  have hd : decide (0 ≤ r) = decide (x ∈ cs) := by
    rcases hi with ⟨j, hj, rfl, hx, -⟩ | ⟨rfl, hx⟩
    · have hm : x ∈ cs := by
        rw [← hx, List.getD_eq_getElem?_getD, List.getElem?_eq_getElem hj]
        exact List.getElem_mem hj
      simp [hm]
    · have hm : ¬ x ∈ cs := fun hm => by
        obtain ⟨j, hj, e⟩ := List.getElem_of_mem hm
        apply hx j hj
        rw [List.getD_eq_getElem?_getD, List.getElem?_eq_getElem hj]
        exact e
      simp [hm]
  go_wp2_with fail
  go_ret
  exact ⟨rfl, rfl⟩

set_option maxHeartbeats 1000000 in
theorem clip_any (a : Option Addr) (n cap : Nat) (hn : n ≤ cap) (w : World) :
    Calls Tryd.prog 30 #[.slice a n cap] w fun e w' => e = .returned (.slice a n n) ∧ w = w' := by
  go_enter Tryd.func30, Tryd.ntmps30
  go_wp2_with fail
  go_ret
  exact ⟨rfl, rfl⟩
end Go.Proofs.YtaefmkmldfbjeaaDoor
