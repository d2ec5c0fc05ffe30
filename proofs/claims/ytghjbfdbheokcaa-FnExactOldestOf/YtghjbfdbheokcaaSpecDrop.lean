/-
  spec.DropPage by a contract: a fresh page is usable again, another one is gone.
-/
import Derived.Test.YtghjbfdbheokcaaSepWork
import Derived.Test.YtghjbfdbheokcaaGiveVar
import Derived.Test.YtghjbfdbheokcaaWCopySpec
import Derived.Test.YtghjbfdbheokcaaSpecIn
import Derived.Test.YtghjbfdbheokcaaSpecSorted
import Derived.Test.YtghjbfdbheokcaaTwoWays
import Derived.Test.YtghjbfdbheokcaaSrtPlain
namespace Go.Proofs.Ytghjbfdbheokcaa
open Go.RowKit

theorem rowForm {w : World} {sz n : Nat} {v : Value} {xs : List Value} (h : RowAt w sz v n xs) : ∃ a cap, v = .slice a n cap := by
  obtain ⟨-, a, cap, e, -⟩ := h
  exact ⟨a, cap, e⟩

theorem srt_mergeL (l : List Int) : Srt (l.mergeSort fun x y => decide (x ≤ y)) := by
  have h := List.pairwise_mergeSort (le := fun x y : Int => decide (x ≤ y)) (fun a b c h1 h2 => by simp at h1 h2 ⊢; omega) (fun a b => by simp; omega) l
  exact h.imp (fun h => by simpa using h)

def srtL (l : List Int) : List Int := l.mergeSort fun x y => decide (x ≤ y)

theorem srtL_of {l m : List Int} (h : m.Perm l) (hs : Srt m) : m = srtL l := srt_one (h.trans (List.mergeSort_perm _ _).symm) hs (srt_mergeL _)

theorem srtL_len (l : List Int) : (srtL l).length = l.length := List.length_mergeSort _

def dropS (k : Wk) (page : Int) : Wk := if page ∈ k.fs then { k with us := srtL (k.us ++ [page]), fs := k.fs.filter (fun x => x != page) } else { k with gs := k.gs ++ [page] }

end Go.Proofs.Ytghjbfdbheokcaa
