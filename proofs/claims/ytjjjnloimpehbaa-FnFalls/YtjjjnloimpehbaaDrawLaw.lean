/-
  Small facts that the drawn laws of chapter 3 share. No function of the program.
-/
import Derived.Test.YtjjjnloimpehbaaDiskLaw
import Derived.Test.YtjjjnloimpehbaaDrawFall
import Derived.Test.YtjjjnloimpehbaaDraw4
import Derived.Test.YtjjjnloimpehbaaSameDisk
import Derived.Test.YtjjjnloimpehbaaImplFall
import Derived.Test.YtjjjnloimpehbaaPlain11
namespace Go.Proofs.Ytjjjnloimpehbaa
open Go.RowKit

theorem code_at {w wx : World} {a : Option Addr} {len : Nat} (h : CodeIn w w.heap.size a len) (hb : Below w.heap.size w wx) : CodeIn wx wx.heap.size a len := code_below h hb

theorem small_bounds {ps : List ByteArray} {ls : List (Int × ByteArray)} (h : Small ps ls) : ps.length ≤ 1048576 ∧ ls.length ≤ 1048576 ∧ (∀ s ∈ ps, s.size ≤ 1048576) ∧ ∀ p ∈ ls, p.2.size ≤ 1048576 :=
  ⟨by have := h.1; omega, by have := h.2.1; omega, fun s hs => by have := h.2.2.1 s hs; omega, fun p hp => by have := h.2.2.2 p hp; omega⟩

theorem page_cell {w : World} {B c n k : Nat} {x : Option Addr} {u1 : Value} {ps : List ByteArray} {ls : List (Int × ByteArray)} (h : DiskOwn w B (.agg #[.slice x n c, u1]) ps ls) (hn : n = ps.length) (hk : k < ps.length) :
    ∃ b, x = some ⟨b, 0, none⟩ ∧ w.cell? ⟨b, k, none⟩ = some (.string (ps.getD k ⟨#[]⟩)) := by
  obtain ⟨o1, -⟩ := disk_rows h
  rcases o1.2 with ⟨-, h0⟩ | ⟨b, cc, cur, e, -⟩
  · omega
  · injection e with e1 e2 e3
    refine ⟨b, e1, ?_⟩
    subst e1
    subst hn
    rw [o1.cellAt k (show k < ps.length * 1 by omega), strs_at ps k hk]
    simp [List.getD, hk]

theorem bools_one (w : World) (x : Bool) : RowAt (w.alloc (Obj.cells #[.bool x] 4)) 1 (.slice (some ⟨w.heap.size, 0, none⟩) 1 1) 1 (bools [x]) := by
  refine ⟨rfl, _, _, rfl, Or.inr ⟨w.heap.size, 0, rfl, by simp, fun j hj => ?_⟩⟩
  rw [Nat.zero_add, (cell_at (heap_alloc_new w _) j).1]
  simp [bools]
end Go.Proofs.Ytjjjnloimpehbaa
