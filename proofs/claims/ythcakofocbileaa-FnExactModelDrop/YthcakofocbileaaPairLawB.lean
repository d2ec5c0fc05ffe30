/-
  Rows of pairs: what their bulk bounds; a row that is marked, side by side with other things.
-/
import Derived.Test.YthcakofocbileaaPairTo
import Derived.Test.YthcakofocbileaaModelPl
namespace Go.Proofs.Ythcakofocbileaa
open Go.RowKit

theorem pBulk_in {L : List (ByteArray × ByteArray)} (h : pBulk L ≤ 1048576) : L.length ≤ 1048576 ∧ ∀ p ∈ L, p.1.size ≤ 1048576 ∧ p.2.size ≤ 1048576 := by
  unfold pBulk at h
  refine ⟨by omega, fun p hp => ?_⟩
  have hs : p.1.size + p.2.size ≤ pSum L L.length := by
    unfold pSum
    rw [List.take_length]
    obtain ⟨i, hi, rfl⟩ := List.getElem_of_mem hp
    clear h hp
    induction L generalizing i with
    | nil => simp at hi
    | cons q L ih =>
      cases i with
      | zero => simp
      | succ i => have := ih i (by simpa using hi); simp at this ⊢; omega
  omega

theorem markPairS_sepK (k0 : Nat) (hk0 : 0 < k0) (hk1 : k0 ≤ 1048576000) (v : Value) (L : List (ByteArray × ByteArray)) (hl : L.length ≤ 2000000) (B : Nat) (rest : List Ast) (w : World) (h : Sep B w (rowA B 30 2 v L.length (prs L) :: rest)) (hB : B ≤ w.heap.size) :
    Calls Try.prog 22 #[v, .int .i64 (k0 : Int)] w fun e w' => e = .returned (.int .i64 ((k0 + L.length * 2 : Nat) : Int)) ∧ Sep B w' (rowA B 30 2 v L.length (prs (marksQ k0 L.length)) :: rest) ∧ Below B w w' := by
  refine (markPairS_big L hl v B k0 hk0 hk1 w (sep_get h 0 rfl)).mono ?_
  rintro e w' ⟨rfl, h2, h3⟩
  refine ⟨rfl, ?_, below_of_kept h3 hB (fun j hj => (sep_lt h 0 rfl j hj).1)⟩
  exact sep_set h 0 rfl h3 (rowA B 30 2 v L.length (prs (marksQ k0 L.length))) h2 (fun j hj => ⟨Or.inl hj, (h2.lt j hj).2⟩) hB

end Go.Proofs.Ythcakofocbileaa
