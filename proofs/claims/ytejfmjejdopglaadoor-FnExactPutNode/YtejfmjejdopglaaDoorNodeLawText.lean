/-
  Exact laws over nodes by contracts, where the program's functions are as their contracts say: NodeText.
-/
import Derived.Test.YtejfmjejdopglaaDoorNode2
import Derived.Test.YtejfmjejdopglaaDoorNodeSpec2
import Derived.Deep.RegionHeld3
namespace Go.Proofs.YtejfmjejdopglaaDoor
open Go.RowKit

theorem bulkS_in {l : List ByteArray} {m : Nat} (h : bulkS l ≤ m) : l.length ≤ m ∧ ∀ s ∈ l, s.size ≤ m := by
  rw [bulkS_eq] at h
  refine ⟨by omega, fun s hs => ?_⟩
  obtain ⟨i, hi, rfl⟩ := List.getElem_of_mem hs
  have h1 := sumS_succ l i hi
  have h2 := sumS_mono l (i + 1)
  omega

theorem bulkN_in {ks vs : List ByteArray} {cs : List Int} (h : bulkN ks vs cs ≤ 1048576) : ks.length ≤ 1048576 ∧ (∀ s ∈ ks, s.size ≤ 1048576) ∧ vs.length ≤ 1048576 ∧ (∀ s ∈ vs, s.size ≤ 1048576) ∧ cs.length ≤ 1048576 := by
  unfold bulkN at h
  obtain ⟨a, b⟩ := bulkS_in (l := ks) (m := 1048576) (by omega)
  obtain ⟨c, d⟩ := bulkS_in (l := vs) (m := 1048576) (by omega)
  exact ⟨a, b, c, d, by omega⟩

end Go.Proofs.YtejfmjejdopglaaDoor
