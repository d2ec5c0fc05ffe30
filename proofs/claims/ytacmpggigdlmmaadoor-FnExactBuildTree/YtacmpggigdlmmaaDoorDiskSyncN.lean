/-
  spec.SyncDisk, spec.l03Copy and spec.FallDisk by contracts.
-/
import Derived.Test.YtacmpggigdlmmaaDoorDiskSpecN
import Derived.Test.YtacmpggigdlmmaaDoorAppRow
namespace Go.Proofs.YtacmpggigdlmmaaDoor
open Go.RowKit

/-- what a round of SyncDisk keeps: its argument's box, its answer's variable, the new disk's variable, the new pages; nothing that was there is turned -/
structure SyncIn (wr : World) (a0 a1 a3 : Nat) (vp vl u : Value) (n : Nat) (m : List ByteArray) (w : World) : Prop where
  box : wr.heap[a0]? = some (Obj.cells #[vp, vl] 34)
  res : wr.heap[a1]? = some (Obj.cells #[.slice none 0 0, .slice none 0 0] 34)
  out : wr.heap[a3]? = some (Obj.cells #[u, .slice none 0 0] 34)
  own : wr.ownsRow (a1 + 1) 9 1 u n (strs m)
  low : Below a0 w wr

theorem syncIn_drewN {wr : World} {a0 a1 a3 : Nat} {vp vl u : Value} {n : Nat} {m : List ByteArray} {w : World} (h : SyncIn wr a0 a1 a3 vp vl u n m w) (k : Nat) : SyncIn (wr.drewN k) a0 a1 a3 vp vl u n m w :=
  ⟨h.box, h.res, h.out, h.own, below_drewN h.low _⟩

theorem syncIn_set {wr : World} {a0 a1 a3 : Nat} {vp vl : Value} {n g c : Nat} {m : List ByteArray} {w : World} (h0 : a0 < g) (h1 : a1 < g) (h3 : g < a3) (h : SyncIn wr a0 a1 a3 vp vl (.slice (some ⟨g, 0, none⟩) n c) n m w) (k j : Nat) (t : ByteArray) :
    SyncIn ((wr.drewN k).setCell ⟨g, j, none⟩ (.string t)) a0 a1 a3 vp vl (.slice (some ⟨g, 0, none⟩) n c) n (m.set j t) w := by
  have h' := syncIn_drewN h k
  refine ⟨?_, ?_, ?_, ?_, ?_⟩
  · rw [heap_setCell_other _ ⟨g, j, none⟩ a0 _ (by show a0 ≠ g; omega)]; exact h'.box
  · rw [heap_setCell_other _ ⟨g, j, none⟩ a1 _ (by show a1 ≠ g; omega)]; exact h'.res
  · rw [heap_setCell_other _ ⟨g, j, none⟩ a3 _ (by show a3 ≠ g; omega)]; exact h'.out
  · have := (h'.own.stored j (.string t)).1
    rw [strs_set] at this
    exact this
  · exact h'.low.setCell (by show a0 ≤ g; omega) _

end Go.Proofs.YtacmpggigdlmmaaDoor
