/-
  Metas (three numbers and frees), read only ('MetaAt') or in new memory ('MetaOwn'), and the laws' own helpers over them by contracts: szMeta, toMeta, eqMeta.
-/
import Derived.Test.YtplkioelbdemjaaGreatDoorFreeRow2
import Derived.Test.YtplkioelbdemjaaGreatDoorPlain18
namespace Go.Proofs.YtplkioelbdemjaaGreatDoor
open Go.RowKit

/-- a meta that reads so -/
def MetaAt (w : World) (v : Value) (m : Mt) : Prop := ∃ vf, v = .agg #[.int .i64 m.tx, .int .i64 m.root, .int .i64 m.next, vf] ∧ FreesAt w vf m.fs

/-- a meta in memory of its own -/
def MetaOwn (w : World) (B : Nat) (v : Value) (m : Mt) : Prop := ∃ vf l, v = .agg #[.int .i64 m.tx, .int .i64 m.root, .int .i64 m.next, vf] ∧ OwnF w B vf l m.fs

theorem meta_of_own {w : World} {B : Nat} {v : Value} {m : Mt} (h : MetaOwn w B v m) : MetaAt w v m := by
  obtain ⟨vf, l, e, h⟩ := h
  exact ⟨vf, e, frees_of_own h⟩

theorem meta_below {w w' : World} {v : Value} {m : Mt} (h : MetaAt w v m) (hb : Below w.heap.size w w') : MetaAt w' v m := by
  obtain ⟨vf, e, h⟩ := h
  exact ⟨vf, e, frees_below h hb⟩

theorem metaOwn_below {w w' : World} {B : Nat} {v : Value} {m : Mt} (h : MetaOwn w B v m) (hb : Below w.heap.size w w') : MetaOwn w' B v m := by
  obtain ⟨vf, l, e, h⟩ := h
  exact ⟨vf, l, e, ownF_stays h hb⟩

theorem metaOwn_down {w : World} {B B' : Nat} {v : Value} {m : Mt} (h : MetaOwn w B v m) (hb : B' ≤ B) : MetaOwn w B' v m := by
  obtain ⟨vf, l, e, h⟩ := h
  exact ⟨vf, l, e, ownF_down h hb⟩

/-- the blocks of a meta's rows -/
def metaBlocks (w : World) (B : Nat) (v : Value) (m : Mt) (b : Nat) : Prop := ∃ vf l, v = .agg #[.int .i64 m.tx, .int .i64 m.root, .int .i64 m.next, vf] ∧ OwnF w B vf l m.fs ∧ freeBlocks vf l b

set_option maxHeartbeats 1000000 in
set_option maxRecDepth 100000 in
theorem eqMeta_same (v u : Value) (m : Mt) (hl : m.fs.length ≤ 1048576) (hs : ∀ f ∈ m.fs, f.2.length ≤ 1048576) (w : World) (hd : MetaAt w v m) (hu : MetaAt w u m) :
    Calls Tryz.prog 23 #[v, u] w fun e w' => e = .returned (.bool true) ∧ Below w.heap.size w w' := by
  obtain ⟨vf, rfl, hr⟩ := hd
  obtain ⟨uf, rfl, hq⟩ := hu
  obtain ⟨tx, root, next, fs⟩ := m
  dsimp only at hr hq hl hs ⊢
  have HC3 := hide (fun wx h h' => eqFreeS_same fs hl hs vf uf wx h h')
  have HR := hide (⟨hr, hq⟩ : _ ∧ _)
  clear hr hq hl hs
  obtain ⟨w0, hw0⟩ : ∃ w0, w0 = (w.alloc (Obj.cells #[.int .i64 tx, .int .i64 root, .int .i64 next, vf] 32)).alloc (Obj.cells #[.int .i64 tx, .int .i64 root, .int .i64 next, uf] 32) := ⟨_, rfl⟩
  have hb0 : Below w.heap.size w w0 := by rw [hw0]; exact ((Below.refl w.heap.size w).alloc (Nat.le_refl _) _).alloc (by simp) _
  have HB0 := hide hb0
  have dl : (tx != tx) = false := by simp
  have dr : (root != root) = false := by simp
  have dn : (next != next) = false := by simp
  clear hb0
  go_enter Tryz.func23, Tryz.ntmps23
  go_wp2_with fail
  rw [← hw0]
  clear hw0
  refine (HC3.out _ (frees_below HR.out.1 HB0.out) (frees_below HR.out.2 HB0.out)).mono ?_
  rintro e w3 ⟨rfl, hb3⟩
  have HB3 : Hid (Below w.heap.size w w3) := hide (HB0.out.trans (hb3.mono HB0.out.size))
  clear hb3
  go_wp2_with fail
  go_ret
  exact ⟨rfl, HB3.out⟩
end Go.Proofs.YtplkioelbdemjaaGreatDoor
