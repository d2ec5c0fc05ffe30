/-
  Rows of ints in memory of one's own that may begin in the midst of their block ('IntOwn'), and laws.markIntS over such a row by a contract.
-/
import Derived.Test.YtmmepgincbngeaaNode
namespace Go.Proofs.Ytmmepgincbngeaa
open Go.RowKit

/-- a row of ints in memory of its own, from a place of its block on -/
def IntOwn (w : World) (B : Nat) (v : Value) (l : List Int) : Prop :=
  ∃ a cap, v = .slice a l.length cap ∧ l.length ≤ cap ∧ (a = none ∧ l = [] ∨ ∃ g off cs, a = some ⟨g, off, none⟩ ∧ B ≤ g ∧ w.heap[g]? = some (.cells cs 3 (0, 0)) ∧ ∀ i, i < l.length → cs[off + i]? = (ints l)[i]?)

theorem intOwn_cap {w : World} {B : Nat} {v : Value} {l : List Int} (h : IntOwn w B v l) : ∃ a cap, v = .slice a l.length cap ∧ l.length ≤ cap := by
  obtain ⟨a, cap, e, hc, -⟩ := h
  exact ⟨a, cap, e, hc⟩

theorem intOwn_row {w : World} {B : Nat} {v : Value} {l : List Int} (h : IntOwn w B v l) : RowAt w 1 v l.length (ints l) := by
  obtain ⟨a, cap, rfl, hcap, h⟩ := h
  refine ⟨by rw [ints_length]; omega, a, cap, rfl, ?_⟩
  rcases h with ⟨-, rfl⟩ | ⟨g, off, cs, rfl, -, hh, hc⟩
  · exact Or.inl rfl
  · exact Or.inr ⟨g, off, rfl, (Array.getElem?_eq_some_iff.1 hh).1, fun j hj => (cell_at hh (off + j)).1.trans (hc j (by omega))⟩

theorem intOwn_slice {w : World} {B : Nat} {v : Value} {l : List Int} (h : IntOwn w B v l) : ∃ a cap, v = .slice a l.length cap := by
  obtain ⟨a, cap, e, -⟩ := h
  exact ⟨a, cap, e⟩

theorem intOwn_lt {w : World} {B : Nat} {v : Value} {l : List Int} (h : IntOwn w B v l) : ∀ k, v.ownBlock = some k → B ≤ k ∧ k < w.heap.size := by
  obtain ⟨a, cap, rfl, hcap, h⟩ := h
  intro k hk
  rcases h with ⟨rfl, -⟩ | ⟨g, off, cs, rfl, hB, hh, -⟩
  · cases hk
  · injection hk with hk
    have hk : g = k := hk
    subst hk
    exact ⟨hB, (Array.getElem?_eq_some_iff.1 hh).1⟩

theorem intOwn_typ {w : World} {B : Nat} {v : Value} {l : List Int} (h : IntOwn w B v l) {k : Nat} (hk : v.ownBlock = some k) : ∃ cs, w.heap[k]? = some (.cells cs 3 (0, 0)) := by
  obtain ⟨a, cap, rfl, hcap, h⟩ := h
  rcases h with ⟨rfl, -⟩ | ⟨g, off, cs, rfl, hB, hh, -⟩
  · cases hk
  · injection hk with hk
    have hk : g = k := hk
    subst hk
    exact ⟨cs, hh⟩

theorem intOwn_kept {w w' : World} {B : Nat} {v : Value} {l : List Int} {S : Nat → Prop} (h : IntOwn w B v l) (hk : Kept w w' S) (hS : ∀ k, v.ownBlock = some k → ¬ S k) : IntOwn w' B v l := by
  obtain ⟨a, cap, rfl, hcap, h⟩ := h
  refine ⟨a, cap, rfl, hcap, ?_⟩
  rcases h with h | ⟨g, off, cs, rfl, hB, hh, hc⟩
  · exact Or.inl h
  · exact Or.inr ⟨g, off, cs, rfl, hB, (hk.2.2.2.2 g (Array.getElem?_eq_some_iff.1 hh).1 (hS g rfl)).trans hh, hc⟩

theorem intOwn_below {w w' : World} {B : Nat} {v : Value} {l : List Int} (h : IntOwn w B v l) (hb : Below w.heap.size w w') : IntOwn w' B v l :=
  intOwn_kept h (kept_of_all hb (fun _ => False)) (fun _ _ h => h)

theorem intOwn_down {w : World} {B B' : Nat} {v : Value} {l : List Int} (h : IntOwn w B v l) (hB : B' ≤ B) : IntOwn w B' v l := by
  obtain ⟨a, cap, rfl, hcap, h⟩ := h
  refine ⟨a, cap, rfl, hcap, ?_⟩
  rcases h with h | ⟨g, off, cs, rfl, hg, hh, hc⟩
  · exact Or.inl h
  · exact Or.inr ⟨g, off, cs, rfl, Nat.le_trans hB hg, hh, hc⟩

theorem intOwn_of_own {w : World} {B : Nat} {v : Value} {l : List Int} (h : w.ownsRow B 3 1 v l.length (ints l)) : IntOwn w B v l := by
  have hc := h
  rcases h.2 with ⟨rfl, h0⟩ | ⟨g, cap, cur, rfl, hg, hh, hnc, -⟩
  · have h0 : l.length = 0 := h0
    exact ⟨none, 0, by rw [h0], by omega, Or.inl ⟨rfl, List.eq_nil_of_length_eq_zero h0⟩⟩
  · exact ⟨_, _, rfl, hnc, Or.inr ⟨g, 0, cur, rfl, hg, hh, fun i hi => by rw [Nat.zero_add]; exact (cell_at hh i).1.symm.trans (hc.cellAt i (by omega))⟩⟩

/-- all but the first one -/
theorem intOwn_tail {w : World} {B g off c c' : Nat} {x : Int} {l : List Int} {n n' : Nat} (hn : n = l.length + 1) (hn' : n' = l.length) (hc' : l.length ≤ c') (h : IntOwn w B (.slice (some ⟨g, off, none⟩) n c) (x :: l)) : IntOwn w B (.slice (some ⟨g, off + 1, none⟩) n' c') l := by
  subst hn hn'
  obtain ⟨a, cap, e, -, h⟩ := h
  injection e with e1 e2 e3
  subst e1
  rcases h with ⟨h, -⟩ | ⟨g', off', cs, e, hB, hh, hc⟩
  · cases h
  · injection e with e
    injection e with e1 e2
    subst e1 e2
    refine ⟨_, _, rfl, hc', Or.inr ⟨g, off + 1, cs, rfl, hB, hh, fun i hi => ?_⟩⟩
    have := hc (i + 1) (by simp; omega)
    rw [Nat.add_assoc, Nat.add_comm 1 i, this]
    simp [ints]

theorem intOwn_apart {w : World} {B B' e sz n : Nat} {v v' : Value} {xs : List Value} {l : List Int} (h : w.ownsRow B e sz v n xs) (h' : IntOwn w B' v' l) (hne : e ≠ 3) (k : Nat) (h1 : v.ownBlock = some k) : v'.ownBlock ≠ some k := by
  intro h2
  obtain ⟨cs, hh'⟩ := intOwn_typ h' h2
  rcases h.2 with ⟨rfl, -⟩ | ⟨g, cap, cur, rfl, -, hh, -⟩
  · cases h1
  · injection h1 with h1
    have h1 : g = k := h1
    subst h1
    rw [hh] at hh'
    injection hh' with hh'
    injection hh' with _ he _
    exact hne he

theorem intOwn_stored {w : World} {B g off n cap : Nat} {m : List Int} (k : Nat) (x : Int) (hn : n = m.length) (hk : k < m.length) (h : IntOwn w B (.slice (some ⟨g, off, none⟩) n cap) m) : IntOwn (w.setCell ⟨g, off + k, none⟩ (.int .i64 x)) B (.slice (some ⟨g, off, none⟩) n cap) (m.set k x) := by
  subst hn
  obtain ⟨a, cap', e, hcp, h⟩ := h
  injection e with e1 e2 e3
  subst e1 e3
  rcases h with ⟨h, -⟩ | ⟨g', off', cs, e, hB, hh, hc⟩
  · cases h
  · injection e with e
    injection e with e1 e2
    subst e1 e2
    have h2 := heap_setCell_same w g (off + k) _ _ (.int .i64 x) hh
    refine ⟨_, _, by rw [List.length_set], by rw [List.length_set]; exact hcp, Or.inr ⟨g, off, _, rfl, hB, h2, fun i hi => ?_⟩⟩
    rw [List.length_set] at hi
    rw [← ints_set]
    have hsz : off + k < cs.size := by
      have := hc k hk
      rw [ints_at m k hk] at this
      exact (Array.getElem?_eq_some_iff.1 this).1
    by_cases e : k = i
    · subst e
      rw [Array.getElem?_setIfInBounds_self_of_lt hsz, List.getElem?_set_self (by rw [ints_length]; exact hk)]
    · rw [Array.getElem?_setIfInBounds_ne (by omega), List.getElem?_set_ne e]
      exact hc i hi

theorem intOwn_cell {w : World} {B g off n cap : Nat} {m : List Int} (k : Nat) (hn : n = m.length) (hk : k < m.length) (h : IntOwn w B (.slice (some ⟨g, off, none⟩) n cap) m) : w.cell? ⟨g, off + k, none⟩ = some (.int .i64 m[k]) ∧ w.frozen? ⟨g, off + k, none⟩ = false := by
  subst hn
  obtain ⟨a, cap', e, hcp, h⟩ := h
  injection e with e1 e2 e3
  subst e1 e3
  rcases h with ⟨h, -⟩ | ⟨g', off', cs, e, hB, hh, hc⟩
  · cases h
  · injection e with e
    injection e with e1 e2
    subst e1 e2
    exact ⟨(cell_at hh _).1.trans ((hc k hk).trans (ints_at m k hk)), (cell_at hh _).2⟩

end Go.Proofs.Ytmmepgincbngeaa
