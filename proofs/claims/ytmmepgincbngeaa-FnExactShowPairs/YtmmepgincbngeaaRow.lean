/-
  Rows that are only read ('RowAt': a slice whose cells hold these values), and the laws' own helpers over lists of texts by contracts: szStringS, toStringS, eqStringS.
-/
import Derived.Test.YtmmepgincbngeaaOwn
import Derived.Laws.OwnMore
import Derived.WalkSpells
import Derived.WalkSmall
import Derived.BigQuiet
import Derived.Deep.QuietTactic
import Derived.Deep.LoopGhost
import Derived.Outline
import Derived.Below
namespace Go.Proofs.Ytmmepgincbngeaa
open Go.RowKit

/-- a slice that reads as these cells, sz of them an element -/
def RowAt (w : World) (sz : Nat) (v : Value) (n : Nat) (xs : List Value) : Prop :=
  xs.length = n * sz ∧ ∃ a cap, v = .slice a n cap ∧ (n = 0 ∨ ∃ b off, a = some ⟨b, off, none⟩ ∧ b < w.heap.size ∧ ∀ j, j < n * sz → w.cell? ⟨b, off + j, none⟩ = xs[j]?)

theorem row_below {w w' : World} {sz n : Nat} {v : Value} {xs : List Value} (h : RowAt w sz v n xs) (hb : Below w.heap.size w w') : RowAt w' sz v n xs := by
  obtain ⟨hl, a, cap, hv, h2⟩ := h
  refine ⟨hl, a, cap, hv, h2.imp id ?_⟩
  rintro ⟨b, off, e, hlt, hc⟩
  exact ⟨b, off, e, Nat.lt_of_lt_of_le hlt hb.size, fun j hj => by rw [hb.cell (by exact hlt)]; exact hc j hj⟩

theorem row_of_own {w : World} {B e sz n : Nat} {v : Value} {xs : List Value} (h : w.ownsRow B e sz v n xs) : RowAt w sz v n xs := by
  refine ⟨h.1, ?_⟩
  rcases h.2 with ⟨rfl, rfl⟩ | ⟨g, cap, cur, rfl, hg, hh, rest⟩
  · exact ⟨none, 0, rfl, Or.inl rfl⟩
  · exact ⟨_, _, rfl, Or.inr ⟨g, 0, rfl, (h.lt g rfl).2, fun j hj => by rw [Nat.zero_add]; exact h.cellAt j hj⟩⟩

/-- a row that the call owns stays so where nothing that was there is turned -/
theorem own_stays {w w' : World} {B e sz n : Nat} {v : Value} {xs : List Value} (h : w.ownsRow B e sz v n xs) (hb : Below w.heap.size w w') : w'.ownsRow B e sz v n xs := by
  refine ⟨h.1, ?_⟩
  rcases h.2 with ⟨rfl, hn⟩ | ⟨g, cap, cur, rfl, hg, hh, rest⟩
  · exact Or.inl ⟨rfl, hn⟩
  · have hlt : g < w.heap.size := (h.lt g rfl).2
    exact Or.inr ⟨g, cap, cur, rfl, hg, (hb.block g hlt).trans hh, rest⟩

theorem own_down {w : World} {B B' e sz n : Nat} {v : Value} {xs : List Value} (h : w.ownsRow B e sz v n xs) (hb : B' ≤ B) : w.ownsRow B' e sz v n xs := by
  refine ⟨h.1, ?_⟩
  rcases h.2 with h0 | ⟨g, cap, cur, e1, hg, rest⟩
  · exact Or.inl h0
  · exact Or.inr ⟨g, cap, cur, e1, Nat.le_trans hb hg, rest⟩

/-- the cells of a row of texts -/
def strs (l : List ByteArray) : List Value := l.map Value.string

theorem strs_length (l : List ByteArray) : (strs l).length = l.length := by simp [strs]

theorem strs_at (l : List ByteArray) (k : Nat) (h : k < l.length) : (strs l)[k]? = some (.string l[k]) := by simp [strs, h]

/-- how much a list of texts holds: a place each, and its bytes -/
def bulkS : List ByteArray → Nat
  | [] => 0
  | s :: l => 1 + s.size + bulkS l

/-- what a size's count leaves -/
def szOut (left total : Nat) : Int := if total ≤ left then ((left - total : Nat) : Int) else -1

theorem szOut_yes {left total : Nat} (h : total ≤ left) : szOut left total = ((left - total : Nat) : Int) := if_pos h

theorem szOut_no {left total : Nat} (h : left < total) : szOut left total = -1 := if_neg (by omega)

/-- the bytes of the first k texts -/
def sumS (l : List ByteArray) (k : Nat) : Nat := ((l.take k).map ByteArray.size).sum

theorem sumS_succ (l : List ByteArray) (k : Nat) (h : k < l.length) : sumS l (k + 1) = sumS l k + (l[k]).size := by
  unfold sumS
  rw [List.take_succ_eq_append_getElem h, List.map_append, List.sum_append]
  simp

theorem sumS_zero (l : List ByteArray) : sumS l 0 = 0 := by simp [sumS]

theorem sumS_mono (l : List ByteArray) (k : Nat) : sumS l k ≤ sumS l l.length := by
  unfold sumS
  conv => rhs; rw [List.take_length, ← List.take_append_drop k l, List.map_append, List.sum_append]
  omega

theorem bulkS_eq (l : List ByteArray) : bulkS l = l.length + sumS l l.length := by
  unfold sumS
  rw [List.take_length]
  induction l with
  | nil => rfl
  | cons s l ih => simp [bulkS, ih]; omega

theorem Try.infoStrR : (Try.prog.info? 9).map (fun i => (i.zero, i.size, i.bytes)) = some (some (.string ⟨#[]⟩), 1, 16) := by kernel_rfl

theorem strs_made (n : Nat) : (madeCells #[Value.string ⟨#[]⟩] n).toList = strs (List.replicate n ⟨#[]⟩) := by simp [toList_madeCells_one, strs]

theorem strs_set (l : List ByteArray) (k : Nat) (x : ByteArray) : (strs l).set k (.string x) = strs (l.set k x) := by rw [strs, strs, List.map_set]

theorem own_n {w : World} {B e sz n m : Nat} {v : Value} {xs ys : List Value} (h : w.ownsRow B e sz v n xs) (hm : n = m) (hx : xs = ys) : w.ownsRow B e sz v m ys := by subst hm hx; exact h

theorem strs_ne {l m : List ByteArray} {k : Nat} (hk : k < l.length) (hm : k < m.length) (h : l[k] ≠ m[k]) : decide (l = m) = false := by
  simp only [decide_eq_false_iff_not]
  intro e
  subst e
  exact h rfl

theorem ba_beq (x y : ByteArray) : (x.toList == y.toList) = decide (x = y) := by
  rw [ByteArray.toList_eq, ByteArray.toList_eq]
  by_cases h : x = y
  · subst h; simp
  · have hne : ¬ x.data.toList = y.data.toList := fun e => h (ByteArray.ext (Array.toList_inj.1 e))
    rw [decide_eq_false h]
    simpa using hne

end Go.Proofs.Ytmmepgincbngeaa
