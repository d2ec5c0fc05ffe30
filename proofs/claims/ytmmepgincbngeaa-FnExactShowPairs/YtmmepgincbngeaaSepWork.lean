/-
  A disk and a work among things that lie side by side. No function of the program.
-/
import Derived.Test.YtmmepgincbngeaaSepApp
import Derived.Test.YtmmepgincbngeaaWorkCp
namespace Go.Proofs.Ytmmepgincbngeaa
open Go.RowKit

theorem row_n {W : World} {B e n : Nat} {v : Value} {l : List Int} (h : W.ownsRow B e 1 v n (ints l)) : n = l.length := by
  have := h.1
  rw [ints_length] at this
  omega

theorem rowat_some {w : World} {n c : Nat} {a : Option Addr} {xs : List Value} (h : RowAt w 1 (.slice a n c) n xs) (hn : 0 < n) : ∃ b off, a = some ⟨b, off, none⟩ := by
  obtain ⟨-, a', cap, e, h⟩ := h
  injection e with e1
  rcases h with h0 | ⟨b, off, e, -⟩
  · omega
  · exact ⟨b, off, by rw [e1, e]⟩

theorem rowat_cell {w wx : World} {n c b off : Nat} {l : List Int} (h : RowAt w 1 (.slice (some ⟨b, off, none⟩) n c) n (ints l)) (hb : Below w.heap.size w wx) (i : Nat) (hi : i < n) (hn : n = l.length) : wx.cell? ⟨b, off + i, none⟩ = some (.int .i64 (l.getD i 0)) := by
  obtain ⟨-, a', cap, e, h⟩ := h
  injection e with e1 e2 e3
  subst e1
  rcases h with h0 | ⟨b', off', e, hlt, hc⟩
  · omega
  · injection e with e
    injection e with e e'
    subst e e'
    rw [hb.cell (by exact hlt), hc i (by omega), ints_at l i (by omega)]
    simp [List.getD_eq_getElem?_getD, show i < l.length by omega]

theorem ints_snocW (l : List Int) (x : Int) : ints l ++ [.int .i64 x] = ints (l ++ [x]) := by simp [ints]

end Go.Proofs.Ytmmepgincbngeaa
