/-
  Rows of puts (a page's number and a text, two cells an element), and the laws' own helpers over them by contracts: szPut, szPutS, toPut, toPutS, eqPut, eqPutS.
-/
import Derived.Test.YtmmepgincbngeaaRow
import Derived.Deep.RegionHeld3
namespace Go.Proofs.Ytmmepgincbngeaa
open Go.RowKit

/-- the cells of a row of puts -/
def puts (l : List (Int × ByteArray)) : List Value := l.flatMap fun p => [.int .i64 p.1, .string p.2]

theorem puts_cons (p : Int × ByteArray) (l : List (Int × ByteArray)) : puts (p :: l) = Value.int .i64 p.1 :: .string p.2 :: puts l := rfl

theorem puts_length (l : List (Int × ByteArray)) : (puts l).length = l.length * 2 := by
  induction l with
  | nil => rfl
  | cons p l ih => rw [puts, List.flatMap_cons, List.length_append]; change 2 + (puts l).length = _; rw [ih, List.length_cons]; omega

theorem puts_at (l : List (Int × ByteArray)) : ∀ k (h : k < l.length), (puts l)[k * 2]? = some (.int .i64 l[k].1) ∧ (puts l)[k * 2 + 1]? = some (.string l[k].2) := by
  induction l with
  | nil => intro k h; simp at h
  | cons p l ih =>
    intro k h
    have e : puts (p :: l) = [Value.int .i64 p.1, .string p.2] ++ puts l := rfl
    rw [e]
    cases k with
    | zero => exact ⟨rfl, rfl⟩
    | succ k =>
      have := ih k (by simpa using h)
      rw [List.getElem?_append_right (by simp; omega), List.getElem?_append_right (by simp; omega)]
      simp only [List.length_cons, List.length_nil, List.getElem_cons_succ]
      rw [show (k + 1) * 2 - (0 + 1 + 1) = k * 2 from by omega, show (k + 1) * 2 + 1 - (0 + 1 + 1) = k * 2 + 1 from by omega]
      exact this

/-- the bytes of the first k texts -/
def sumP (l : List (Int × ByteArray)) (k : Nat) : Nat := ((l.take k).map fun p => p.2.size).sum

theorem sumP_succ (l : List (Int × ByteArray)) (k : Nat) (h : k < l.length) : sumP l (k + 1) = sumP l k + (l[k]).2.size := by
  unfold sumP
  rw [List.take_succ_eq_append_getElem h, List.map_append, List.sum_append]
  simp

theorem sumP_zero (l : List (Int × ByteArray)) : sumP l 0 = 0 := by simp [sumP]

theorem sumP_mono (l : List (Int × ByteArray)) (k : Nat) : sumP l k ≤ sumP l l.length := by
  unfold sumP
  conv => rhs; rw [List.take_length, ← List.take_append_drop k l, List.map_append, List.sum_append]
  omega

/-- how much a list of puts holds -/
def bulkP (l : List (Int × ByteArray)) : Nat := l.length + sumP l l.length

theorem puts_made (n : Nat) : (madeCells #[Value.int .i64 0, .string ⟨#[]⟩] (n * 2)).toList = puts (List.replicate n (0, ⟨#[]⟩)) := by
  have hlen : (puts (List.replicate n ((0 : Int), (⟨#[]⟩ : ByteArray)))).length = n * 2 := by rw [puts_length, List.length_replicate]
  apply List.ext_getElem?
  intro i
  by_cases hi : i < n * 2
  · have h1 : (madeCells #[Value.int .i64 0, .string ⟨#[]⟩] (n * 2)).toList[i]? = some (#[Value.int .i64 0, .string ⟨#[]⟩][i % 2]!) := by
      simp [madeCells, hi]
    have hk : i / 2 < (List.replicate n ((0 : Int), (⟨#[]⟩ : ByteArray))).length := by rw [List.length_replicate]; omega
    have h2 := puts_at _ (i / 2) hk
    rw [h1]
    rcases Nat.mod_two_eq_zero_or_one i with h | h
    · rw [h, show i = i / 2 * 2 from by omega, h2.1]; simp
    · rw [h, show i = i / 2 * 2 + 1 from by omega, h2.2]; simp
  · rw [List.getElem?_eq_none (by simp [madeCells]; omega), List.getElem?_eq_none (by rw [hlen]; omega)]

theorem puts_set (l : List (Int × ByteArray)) : ∀ (k : Nat) (p : Int) (x : ByteArray), k < l.length → ((puts l).set (k * 2) (.int .i64 p)).set (k * 2 + 1) (.string x) = puts (l.set k (p, x)) := by
  induction l with
  | nil => intro k p x h; simp at h
  | cons q l ih =>
    intro k p x h
    have e : puts (q :: l) = Value.int .i64 q.1 :: .string q.2 :: puts l := rfl
    cases k with
    | zero => rfl
    | succ k =>
      have h2 := ih k p x (by simpa using h)
      rw [List.set_cons_succ, e, show (k + 1) * 2 = k * 2 + 1 + 1 from by omega, puts_cons, ← h2]
      rfl

theorem list_ne {α : Type} [DecidableEq α] {l m : List α} {k : Nat} (hk : k < l.length) (hm : k < m.length) (h : l[k] ≠ m[k]) : decide (l = m) = false := by
  simp only [decide_eq_false_iff_not]
  intro e
  subst e
  exact h rfl

end Go.Proofs.Ytmmepgincbngeaa
