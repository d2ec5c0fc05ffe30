/-
  Several texts in one. Plain facts of sorted lists of numbers: a list has one sorted order; the step of a sort by insertion. No program. · spec.l07Sorted by a contract: a new row of the same numbers, in order. · spec.DropPage by a contract: a fresh page is usable again, another one is gone.
-/
import Derived.WalkKit
import Derived.Test.YtghjbfdbheokcaaGreatSwC
import Derived.Test.YtghjbfdbheokcaaGreatIntRow
import Derived.BigQuiet
import Derived.Test.YtghjbfdbheokcaaGreatSwD
import Derived.Test.YtghjbfdbheokcaaGreatSpecIn
namespace Go.Proofs.YtghjbfdbheokcaaGreat

def Srt (l : List Int) : Prop := l.Pairwise (fun x y => x ≤ y)

theorem srt_one {l m : List Int} (h : l.Perm m) (hl : Srt l) (hm : Srt m) : l = m :=
  h.eq_of_pairwise (fun _ _ _ _ h1 h2 => Int.le_antisymm h1 h2) hl hm

/-- the sort by insertion, in the midst of its inner loop: what lies up to i is in order, but what is at k may be too great a place up -/
structure InsI (l0 l : List Int) (i k : Nat) : Prop where
  perm : l.Perm l0
  ki : k ≤ i
  il : i < l.length
  ord : ∀ a b, a < b → b ≤ i → b ≠ k → l.getD a 0 ≤ l.getD b 0

theorem srt_of {l : List Int} (h : ∀ a b, a < b → b < l.length → l.getD a 0 ≤ l.getD b 0) : Srt l := by
  rw [Srt, List.pairwise_iff_getElem]
  intro i j hi hj hij
  have := h i j hij hj
  simpa [List.getD_eq_getElem?_getD, hi, hj] using this

/-- the list with its k-th and the one ahead of it exchanged -/
def xch (l : List Int) (k : Nat) : List Int := (l.set k (l.getD (k - 1) 0)).set (k - 1) (l.getD k 0)

theorem xch_length (l : List Int) (k : Nat) : (xch l k).length = l.length := by simp [xch]

theorem xch_perm (l : List Int) (k : Nat) (h : k < l.length) : (xch l k).Perm l := by
  have h1 : k - 1 < l.length := by omega
  have := List.set_set_perm (i := k) (j := k - 1) h h1
  simpa [xch, List.getD_eq_getElem?_getD, h, h1] using this

theorem xch_at (l : List Int) (k a : Nat) (hk : 0 < k) (h : k < l.length) : (xch l k).getD a 0 = if a = k then l.getD (k - 1) 0 else if a = k - 1 then l.getD k 0 else l.getD a 0 := by
  have h1 : k - 1 < l.length := by omega
  simp only [xch, List.getD_eq_getElem?_getD, List.getElem?_set, List.length_set]
  by_cases e1 : a = k
  · subst e1
    have : ¬ a - 1 = a := by omega
    simp [this, h]
  · by_cases e2 : a = k - 1
    · subst e2; simp [h1, e1]
    · have g1 : ¬ k - 1 = a := fun e => e2 e.symm
      have g2 : ¬ k = a := fun e => e1 e.symm
      simp [g1, g2, e1, e2]

theorem InsI.step {l0 l : List Int} {i k : Nat} (h : InsI l0 l i k) (hk : 0 < k) (hgt : l.getD k 0 < l.getD (k - 1) 0) : InsI l0 (xch l k) i (k - 1) where
  perm := (xch_perm l k (Nat.lt_of_le_of_lt h.ki h.il)).trans h.perm
  ki := by have := h.ki; omega
  il := by rw [xch_length]; exact h.il
  ord a b hab hb hbk := by
    have hkl := Nat.lt_of_le_of_lt h.ki h.il
    rw [xch_at l k a hk hkl, xch_at l k b hk hkl]
    by_cases b1 : b = k
    · subst b1
      rw [if_pos rfl, if_neg (by omega)]
      by_cases a1 : a = b - 1
      · rw [if_pos a1]; omega
      · rw [if_neg a1]; exact h.ord a (b - 1) (by omega) (by omega) (by omega)
    · rw [if_neg b1, if_neg hbk]
      by_cases a1 : a = k
      · rw [if_pos a1]; exact h.ord (k - 1) b (by omega) hb b1
      · rw [if_neg a1]
        by_cases a2 : a = k - 1
        · rw [if_pos a2]; have := h.ord k b (by omega) hb b1; exact this
        · rw [if_neg a2]; exact h.ord a b hab hb b1

theorem InsI.fin {l0 l : List Int} {i k : Nat} (h : InsI l0 l i k) (hd : k = 0 ∨ ¬ (l.getD k 0 < l.getD (k - 1) 0)) : ∀ a b, a < b → b ≤ i → l.getD a 0 ≤ l.getD b 0 := by
  intro a b hab hb
  by_cases b1 : b = k
  · subst b1
    rcases hd with hd | hd
    · omega
    · by_cases a1 : a = b - 1
      · rw [a1]; omega
      · have := h.ord a (b - 1) (by omega) (by omega) (by omega); omega
  · exact h.ord a b hab hb b1
end Go.Proofs.YtghjbfdbheokcaaGreat

namespace Go.Proofs.YtghjbfdbheokcaaGreat
open Go.RowKit

theorem at_getD {l : List Int} {k : Nat} (h : k < l.length) : (ints l)[k]? = some (.int .i64 (l.getD k 0)) := by rw [ints_at l k h]; simp [List.getD_eq_getElem?_getD, h]

end Go.Proofs.YtghjbfdbheokcaaGreat

namespace Go.Proofs.YtghjbfdbheokcaaGreat
open Go.RowKit

theorem rowForm {w : World} {sz n : Nat} {v : Value} {xs : List Value} (h : RowAt w sz v n xs) : ∃ a cap, v = .slice a n cap := by
  obtain ⟨-, a, cap, e, -⟩ := h
  exact ⟨a, cap, e⟩

theorem srt_mergeL (l : List Int) : Srt (l.mergeSort fun x y => decide (x ≤ y)) := by
  have h := List.pairwise_mergeSort (le := fun x y : Int => decide (x ≤ y)) (fun a b c h1 h2 => by simp at h1 h2 ⊢; omega) (fun a b => by simp; omega) l
  exact h.imp (fun h => by simpa using h)

def srtL (l : List Int) : List Int := l.mergeSort fun x y => decide (x ≤ y)

theorem srtL_of {l m : List Int} (h : m.Perm l) (hs : Srt m) : m = srtL l := srt_one (h.trans (List.mergeSort_perm _ _).symm) hs (srt_mergeL _)

theorem srtL_len (l : List Int) : (srtL l).length = l.length := List.length_mergeSort _

def dropS (k : Wk) (page : Int) : Wk := if page ∈ k.fs then { k with us := srtL (k.us ++ [page]), fs := k.fs.filter (fun x => x != page) } else { k with gs := k.gs ++ [page] }

end Go.Proofs.YtghjbfdbheokcaaGreat
