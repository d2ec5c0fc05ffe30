/-
  A disk that is laid into the variable of an answer, and rows that lie apart by their types. No function of the program.
-/
import Derived.Test.YthcakofocbileaaEnv
namespace Go.Proofs.Ythcakofocbileaa
open Go.RowKit

theorem own_ne_type {w : World} {B e sz n g : Nat} {v : Value} {xs : List Value} {cs : Array Value} {t : TypeId} {fr : Nat × Nat} (h : w.ownsRow B e sz v n xs) (hg : w.heap[g]? = some (.cells cs t fr)) (hne : e ≠ t) : v.ownBlock ≠ some g := by
  intro h1
  rcases h.2 with ⟨rfl, -⟩ | ⟨k, cap, cur, rfl, -, hh, -⟩
  · cases h1
  · injection h1 with h1
    have h1 : k = g := h1
    subst h1
    rw [hh] at hg
    injection hg with hg
    injection hg with _ he _
    exact hne he

theorem own_apart {w w' : World} {B B' e e' sz sz' n n' : Nat} {v v' : Value} {xs xs' : List Value} (h : w.ownsRow B e sz v n xs) (h' : w.ownsRow B' e' sz' v' n' xs') (hne : e ≠ e') (hg : w.grownBy w' v'.ownBlock) : w'.ownsRow B e sz v n xs := by
  cases hv : v.ownBlock with
  | none => exact h.kept hg (Or.inl hv)
  | some k => exact h.kept hg (Or.inr (by rw [hv]; exact fun e1 => one_type h h' hne k hv e1.symm))

end Go.Proofs.Ythcakofocbileaa
