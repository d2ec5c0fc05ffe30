/-
  Disks (pages and what is late), read only ('DiskAt') or in new memory ('DiskOwn'), and the laws' own helpers over them by contracts: szDisk, toDisk, eqDisk, markDisk, heldDisk.
-/
import Derived.Test.YtmmepgincbngeaaNode
namespace Go.Proofs.Ytmmepgincbngeaa
open Go.RowKit

/-- a disk that reads so -/
def DiskAt (w : World) (v : Value) (ps : List ByteArray) (ls : List (Int × ByteArray)) : Prop :=
  ∃ vp vl, v = .agg #[vp, vl] ∧ RowAt w 1 vp ps.length (strs ps) ∧ RowAt w 2 vl ls.length (puts ls)

theorem disk_below {w w' : World} {v : Value} {ps : List ByteArray} {ls : List (Int × ByteArray)} (h : DiskAt w v ps ls) (hb : Below w.heap.size w w') : DiskAt w' v ps ls := by
  obtain ⟨vp, vl, e, h1, h2⟩ := h
  exact ⟨vp, vl, e, row_below h1 hb, row_below h2 hb⟩

/-- the blocks of a disk's two rows -/
def diskBlocks (v : Value) (k : Nat) : Prop := ∃ vp vl, v = .agg #[vp, vl] ∧ (vp.ownBlock = some k ∨ vl.ownBlock = some k)

theorem disk_kept {w w' : World} {v : Value} {ps : List ByteArray} {ls : List (Int × ByteArray)} {S : Nat → Prop} (h : DiskAt w v ps ls) (hk : Kept w w' S) (hS : ∀ k, k < w.heap.size → diskBlocks v k → ¬ S k) : DiskAt w' v ps ls := by
  obtain ⟨vp, vl, rfl, h1, h2⟩ := h
  exact ⟨vp, vl, rfl, row_kept h1 hk (Or.inr fun k hlt e => hS k hlt ⟨vp, vl, rfl, Or.inl e⟩), row_kept h2 hk (Or.inr fun k hlt e => hS k hlt ⟨vp, vl, rfl, Or.inr e⟩)⟩

end Go.Proofs.Ytmmepgincbngeaa
