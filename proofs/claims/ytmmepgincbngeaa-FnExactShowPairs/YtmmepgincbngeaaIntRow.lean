/-
  Rows of ints, and the laws' own helpers over them by contracts: szIntS, toIntS, eqIntS, markIntS, heldIntS.
-/
import Derived.Test.YtmmepgincbngeaaFrame
namespace Go.Proofs.Ytmmepgincbngeaa
open Go.RowKit

/-- the cells of a row of ints -/
def ints (l : List Int) : List Value := l.map (Value.int .i64)

theorem ints_length (l : List Int) : (ints l).length = l.length := by simp [ints]

theorem ints_at (l : List Int) (k : Nat) (h : k < l.length) : (ints l)[k]? = some (.int .i64 l[k]) := by simp [ints, h]

theorem Try.infoIntR : (Try.prog.info? 3).map (fun i => (i.zero, i.size, i.bytes)) = some (some (.int .i64 0), 1, 8) := by kernel_rfl

theorem ints_made (n : Nat) : (madeCells #[Value.int .i64 0] n).toList = ints (List.replicate n 0) := by simp [toList_madeCells_one, ints]

theorem ints_set (l : List Int) (k : Nat) (x : Int) : (ints l).set k (.int .i64 x) = ints (l.set k x) := by rw [ints, ints, List.map_set]

theorem ints_one (l : List Int) : ∀ y ∈ ints l, y.oneCell' = true := fun y hy => by
  obtain ⟨p, _, rfl⟩ := List.mem_map.1 hy
  rfl

/-- the marks of ints from k on, n of them -/
def marksI (k n : Nat) : List Int := (List.range n).map fun i => ((k + i : Nat) : Int)

theorem marksI_length (k n : Nat) : (marksI k n).length = n := by simp [marksI]

theorem marksI_at (k n i : Nat) (h : i < n) : (ints (marksI k n))[i]? = some (.int .i64 ((k + i : Nat) : Int)) := by simp [ints, marksI, h]

theorem marksI_of (k n : Nat) (m : List Int) (hl : m.length = n) (h : ∀ i, i < n → m[i]? = some ((k + i : Nat) : Int)) : m = marksI k n := by
  apply List.ext_getElem?
  intro i
  by_cases hi : i < n
  · rw [h i hi]; simp [marksI, hi]
  · rw [List.getElem?_eq_none (by omega), List.getElem?_eq_none (by rw [marksI_length]; omega)]

end Go.Proofs.Ytmmepgincbngeaa
