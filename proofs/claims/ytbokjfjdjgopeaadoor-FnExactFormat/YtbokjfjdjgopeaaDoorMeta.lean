/-
  Metas (three numbers and frees), read only ('MetaAt') or in new memory ('MetaOwn'), and the laws' own helpers over them by contracts: szMeta, toMeta, eqMeta.
-/
import Derived.Test.YtbokjfjdjgopeaaDoorFreeRow2
import Derived.Test.YtbokjfjdjgopeaaDoorPlain18
namespace Go.Proofs.YtbokjfjdjgopeaaDoor
open Go.RowKit

/-- a meta that reads so -/
def MetaAt (w : World) (v : Value) (m : Mt) : Prop := ∃ vf, v = .agg #[.int .i64 m.tx, .int .i64 m.root, .int .i64 m.next, vf] ∧ FreesAt w vf m.fs

/-- a meta in memory of its own -/
def MetaOwn (w : World) (B : Nat) (v : Value) (m : Mt) : Prop := ∃ vf l, v = .agg #[.int .i64 m.tx, .int .i64 m.root, .int .i64 m.next, vf] ∧ OwnF w B vf l m.fs

theorem meta_of_own {w : World} {B : Nat} {v : Value} {m : Mt} (h : MetaOwn w B v m) : MetaAt w v m := by
  obtain ⟨vf, l, e, h⟩ := h
  exact ⟨vf, e, frees_of_own h⟩

theorem meta_below {w w' : World} {v : Value} {m : Mt} (h : MetaAt w v m) (hb : Below w.heap.size w w') : MetaAt w' v m := by
  obtain ⟨vf, e, h⟩ := h
  exact ⟨vf, e, frees_below h hb⟩

theorem metaOwn_below {w w' : World} {B : Nat} {v : Value} {m : Mt} (h : MetaOwn w B v m) (hb : Below w.heap.size w w') : MetaOwn w' B v m := by
  obtain ⟨vf, l, e, h⟩ := h
  exact ⟨vf, l, e, ownF_stays h hb⟩

theorem metaOwn_down {w : World} {B B' : Nat} {v : Value} {m : Mt} (h : MetaOwn w B v m) (hb : B' ≤ B) : MetaOwn w B' v m := by
  obtain ⟨vf, l, e, h⟩ := h
  exact ⟨vf, l, e, ownF_down h hb⟩

/-- the blocks of a meta's rows -/
def metaBlocks (w : World) (B : Nat) (v : Value) (m : Mt) (b : Nat) : Prop := ∃ vf l, v = .agg #[.int .i64 m.tx, .int .i64 m.root, .int .i64 m.next, vf] ∧ OwnF w B vf l m.fs ∧ freeBlocks vf l b

end Go.Proofs.YtbokjfjdjgopeaaDoor
