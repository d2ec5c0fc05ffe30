/-
  Plain facts on reading hexadecimal figures back, without any program.
-/
import Derived.Test.YtmmepgincbngeaaPlain3
namespace Go.Proofs.Ytmmepgincbngeaa
open Go.RowKit

/-- what a figure tells; 16 where it is none -/
def hvN (y : Nat) : Nat := if 48 ≤ y ∧ y ≤ 57 then y - 48 else if 97 ≤ y ∧ y ≤ 102 then y - 87 else 16

theorem hvN_digit (y : Nat) (h1 : 48 ≤ y) (h2 : y ≤ 57) : hvN y = y - 48 := by unfold hvN; rw [if_pos ⟨h1, h2⟩]
theorem hvN_letter (y : Nat) (h1 : 97 ≤ y) (h2 : y ≤ 102) : hvN y = y - 87 := by unfold hvN; rw [if_neg (by omega), if_pos ⟨h1, h2⟩]
theorem hvN_bad (y : Nat) (h : ¬ (48 ≤ y ∧ y ≤ 57)) (h' : ¬ (97 ≤ y ∧ y ≤ 102)) : hvN y = 16 := by unfold hvN; rw [if_neg h, if_neg h']
theorem hvN_cases (y : Nat) : (48 ≤ y ∧ y ≤ 57) ∨ (97 ≤ y ∧ y ≤ 102) ∨ (¬ (48 ≤ y ∧ y ≤ 57) ∧ ¬ (97 ≤ y ∧ y ≤ 102)) := by omega

def hexAt (s : ByteArray) (i : Nat) : Nat := hvN (byt s i)

def pairAt (s : ByteArray) (i : Nat) : Nat := 16 * hexAt s (2 * i) + hexAt s (2 * i + 1)
/-- the first k pairs, as bytes -/
def outS (s : ByteArray) (k : Nat) : List UInt8 := (List.range k).map fun i => UInt8.ofNat (pairAt s i)

theorem outS_length (s : ByteArray) (k : Nat) : (outS s k).length = k := by simp [outS]
theorem outS_snoc (s : ByteArray) (k : Nat) : outS s (k + 1) = outS s k ++ [UInt8.ofNat (pairAt s k)] := by simp [outS, List.range_succ]

/-- what cell i holds when k figures have been read -/
def pv (s : ByteArray) (k i : Nat) : Nat := if 2 * i + 2 ≤ k then pairAt s i else if 2 * i + 1 ≤ k then hexAt s (2 * i) else 0
def cellsAt (s : ByteArray) (n k : Nat) : List Value := (List.range n).map fun i => Value.int .u8 (pv s k i : Int)

theorem cellsAt_length (s : ByteArray) (n k : Nat) : (cellsAt s n k).length = n := by simp [cellsAt]

theorem cellsAt_zero (s : ByteArray) (n : Nat) : cellsAt s n 0 = List.replicate n (.int .u8 0) := by
  apply List.ext_getElem
  · simp [cellsAt]
  · intro i h1 h2
    simp [cellsAt, pv]

theorem cellsAt_get (s : ByteArray) (n k i : Nat) (h : i < n) : (cellsAt s n k)[i]? = some (.int .u8 (pv s k i : Int)) := by
  simp [cellsAt, h]

theorem cellsAt_step (s : ByteArray) (n k : Nat) : cellsAt s n (k + 1) = (cellsAt s n k).set (k / 2) (.int .u8 (pv s (k + 1) (k / 2) : Int)) := by
  apply List.ext_getElem
  · simp [cellsAt]
  · intro i h1 h2
    rw [List.getElem_set]
    split
    · rename_i h; subst h; simp [cellsAt]
    · rename_i h
      have e : pv s (k + 1) i = pv s k i := by
        unfold pv
        by_cases a : 2 * i + 2 ≤ k
        · rw [if_pos a, if_pos (by omega)]
        · rw [if_neg a, if_neg (by omega)]
          by_cases b : 2 * i + 1 ≤ k
          · rw [if_pos b, if_pos (by omega)]
          · rw [if_neg b, if_neg (by omega)]
      simp [cellsAt, e]

theorem cellsAt_end (s : ByteArray) (n : Nat) (h : ∀ i, i < 2 * n → hexAt s i < 16) : cellsAt s n (2 * n) = Lib.byteCells (outS s n) := by
  apply List.ext_getElem
  · simp [cellsAt, Lib.byteCells, outS]
  · intro i h1 h2
    have hi : i < n := by simpa [cellsAt] using h1
    have a := h (2 * i) (by omega)
    have b := h (2 * i + 1) (by omega)
    have hp : pv s (2 * n) i = pairAt s i := by unfold pv; rw [if_pos (by omega)]
    have hq : pairAt s i < 256 := by unfold pairAt; omega
    simp [cellsAt, Lib.byteCells, outS, hp]
    omega

theorem pv_even (s : ByteArray) (k : Nat) (h : k % 2 = 0) : pv s k (k / 2) = 0 ∧ pv s (k + 1) (k / 2) = hexAt s k := by
  have e : 2 * (k / 2) = k := by omega
  unfold pv
  rw [e]
  exact ⟨by rw [if_neg (by omega), if_neg (by omega)], by rw [if_neg (by omega), if_pos (by omega)]⟩

theorem pv_odd (s : ByteArray) (k : Nat) (h : k % 2 = 1) : pv s k (k / 2) = hexAt s (k - 1) ∧ pv s (k + 1) (k / 2) = 16 * hexAt s (k - 1) + hexAt s k := by
  have e : 2 * (k / 2) = k - 1 := by omega
  unfold pv pairAt
  rw [e]
  exact ⟨by rw [if_neg (by omega), if_pos (by omega)], by rw [if_pos (by omega), show k - 1 + 1 = k from by omega]⟩

/-- the cell at k, and what is made of it by the next figure -/
theorem pv_next (s : ByteArray) (k : Nat) (h : ∀ i, i < k → hexAt s i < 16) : pv s k (k / 2) < 16 ∧ pv s (k + 1) (k / 2) = 16 * pv s k (k / 2) + hexAt s k := by
  rcases Nat.mod_two_eq_zero_or_one k with e | e
  · obtain ⟨a, b⟩ := pv_even s k e
    rw [a, b]; omega
  · obtain ⟨a, b⟩ := pv_odd s k e
    have := h (k - 1) (by omega)
    rw [a, b]; omega

theorem or_four (x y : Nat) (hx : x < 16) (hy : y < 16) : bits BinOp.or IntKind.u8 ((16 * x : Nat) : Int) (y : Int) = ((16 * x + y : Nat) : Int) := by
  have key : ∀ x y : Fin 16, bits BinOp.or IntKind.u8 ((16 * x.val : Nat) : Int) (y.val : Int) = ((16 * x.val + y.val : Nat) : Int) := by decide +kernel
  exact key ⟨x, hx⟩ ⟨y, hy⟩
end Go.Proofs.Ytmmepgincbngeaa
