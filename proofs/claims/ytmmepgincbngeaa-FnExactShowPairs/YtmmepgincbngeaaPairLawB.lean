/-
  Rows of pairs: what their bulk bounds; a row that is marked, side by side with other things.
-/
import Derived.Test.YtmmepgincbngeaaPairTo
import Derived.Test.YtmmepgincbngeaaModelPl
namespace Go.Proofs.Ytmmepgincbngeaa
open Go.RowKit

theorem pBulk_in {L : List (ByteArray × ByteArray)} (h : pBulk L ≤ 1048576) : L.length ≤ 1048576 ∧ ∀ p ∈ L, p.1.size ≤ 1048576 ∧ p.2.size ≤ 1048576 := by
  unfold pBulk at h
  refine ⟨by omega, fun p hp => ?_⟩
  have hs : p.1.size + p.2.size ≤ pSum L L.length := by
    unfold pSum
    rw [List.take_length]
    obtain ⟨i, hi, rfl⟩ := List.getElem_of_mem hp
    clear h hp
    induction L generalizing i with
    | nil => simp at hi
    | cons q L ih =>
      cases i with
      | zero => simp
      | succ i => have := ih i (by simpa using hi); simp at this ⊢; omega
  omega

end Go.Proofs.Ytmmepgincbngeaa
