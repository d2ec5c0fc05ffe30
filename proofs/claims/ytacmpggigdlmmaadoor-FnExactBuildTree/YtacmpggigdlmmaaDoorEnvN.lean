/-
  What a law holds over its calls: facts on blocks of an interval ('Held'), which stay where nothing of that interval is turned.
-/
import Derived.Test.YtacmpggigdlmmaaDoorDiskN
namespace Go.Proofs.YtacmpggigdlmmaaDoor
open Go.RowKit

/-- a fact that hangs on the blocks B .. U - 1 alone -/
def Loc (B U : Nat) (p : World → Prop) : Prop := ∀ w w' : World, w.heap.size ≤ w'.heap.size → U ≤ w.heap.size → (∀ k, B ≤ k → k < U → w'.heap[k]? = w.heap[k]?) → p w → p w'

structure Held (wr : World) (B U : Nat) (p : World → Prop) : Prop where
  loc : Loc B U p
  le : U ≤ wr.heap.size
  is : p wr

theorem held_below {wr wr' : World} {B U : Nat} {p : World → Prop} (h : Held wr B U p) (hb : Below wr.heap.size wr wr') : Held wr' B U p :=
  ⟨h.loc, Nat.le_trans h.le hb.size, h.loc wr wr' hb.size h.le (fun k _ hk => hb.block k (Nat.lt_of_lt_of_le hk h.le)) h.is⟩

theorem held_kept {wr wr' : World} {B U : Nat} {p : World → Prop} {S : Nat → Prop} (h : Held wr B U p) (hk : Kept wr wr' S) (hS : ∀ k, B ≤ k → k < U → ¬ S k) : Held wr' B U p :=
  ⟨h.loc, Nat.le_trans h.le hk.2.2.2.1, h.loc wr wr' hk.2.2.2.1 h.le (fun k h1 h2 => hk.2.2.2.2 k (Nat.lt_of_lt_of_le h2 h.le) (hS k h1 h2)) h.is⟩

/-- a variable of two cells -/
def IsVar (g : Nat) (u0 u1 : Value) (t : TypeId) (w : World) : Prop := w.heap[g]? = some (Obj.cells #[u0, u1] t)

theorem held_var {w : World} {g : Nat} {u0 u1 : Value} {t : TypeId} (h : w.heap[g]? = some (Obj.cells #[u0, u1] t)) : Held w g (g + 1) (IsVar g u0 u1 t) :=
  ⟨fun a b _ _ hk hp => (hk g (Nat.le_refl _) (by omega)).trans hp, (Array.getElem?_eq_some_iff.1 h).1, h⟩

theorem held_cells {w : World} {B U g : Nat} {u0 u1 : Value} {t : TypeId} (h : Held w B U (IsVar g u0 u1 t)) : w.cell? ⟨g, 0, none⟩ = some u0 ∧ w.cell? ⟨g, 1, none⟩ = some u1 := ⟨(cell_at h.is 0).1, (cell_at h.is 1).1⟩

/-- a disk of our own whose rows lie in B .. U - 1 -/
def IsDisk (B U : Nat) (v : Value) (ps : List ByteArray) (ls : List (Int × ByteArray)) (w : World) : Prop := DiskOwn w B v ps ls ∧ ∀ k, diskBlocks v k → k < U

theorem diskOwn_loc {w w' : World} {B U : Nat} {v : Value} {ps : List ByteArray} {ls : List (Int × ByteArray)} (h : IsDisk B U v ps ls w) (_hs : w.heap.size ≤ w'.heap.size) (hk : ∀ k, B ≤ k → k < U → w'.heap[k]? = w.heap[k]?) : IsDisk B U v ps ls w' := by
  refine ⟨?_, h.2⟩
  have hl := diskOwn_lt h.1
  have hu := h.2
  obtain ⟨⟨vp, vl, rfl, h1, h2⟩, -⟩ := h
  have key : ∀ {e sz n : Nat} {u : Value} {xs : List Value}, w.ownsRow B e sz u n xs → (∀ k, u.ownBlock = some k → k < U) → w'.ownsRow B e sz u n xs := fun {e sz n u xs} h hlt => by
    refine ⟨h.1, ?_⟩
    rcases h.2 with ⟨rfl, hn⟩ | ⟨g, cap, cur, rfl, hg, hh, rest⟩
    · exact Or.inl ⟨rfl, hn⟩
    · exact Or.inr ⟨g, cap, cur, rfl, hg, (hk g hg (hlt g rfl)).trans hh, rest⟩
  exact ⟨vp, vl, rfl, key h1 (fun k e => hu k ⟨vp, vl, rfl, Or.inl e⟩), key h2 (fun k e => hu k ⟨vp, vl, rfl, Or.inr e⟩)⟩

theorem held_disk {w : World} {B : Nat} {v : Value} {ps : List ByteArray} {ls : List (Int × ByteArray)} (h : DiskOwn w B v ps ls) : Held w B w.heap.size (IsDisk B w.heap.size v ps ls) :=
  ⟨fun _ _ hs _ hk hp => diskOwn_loc hp hs hk, Nat.le_refl _, h, fun k hk => (diskOwn_lt h k hk).2⟩

/-- the same disk with other contents, turned in place -/
theorem held_again {w : World} {B U : Nat} {v : Value} {ps qs : List ByteArray} {ls ms : List (Int × ByteArray)} {w' : World} (h : Held w B U (IsDisk B U v ps ls)) (hd : DiskOwn w' B v qs ms) (hs : w.heap.size ≤ w'.heap.size) : Held w' B U (IsDisk B U v qs ms) :=
  ⟨fun _ _ hs _ hk hp => diskOwn_loc hp hs hk, Nat.le_trans h.le hs, hd, h.is.2⟩

theorem disk_form {w : World} {B : Nat} {v : Value} {ps : List ByteArray} {ls : List (Int × ByteArray)} (h : DiskOwn w B v ps ls) : ∃ x c y d, v = .agg #[.slice x ps.length c, .slice y ls.length d] := by
  obtain ⟨vp, vl, rfl, h1, h2⟩ := h
  obtain ⟨x, c, rfl⟩ := own_slice h1
  obtain ⟨y, d, rfl⟩ := own_slice h2
  exact ⟨x, c, y, d, rfl⟩

/-- a new variable behind what was -/
theorem new_var (w : World) (u0 u1 : Value) (t : TypeId) : Below w.heap.size w (w.alloc (Obj.cells #[u0, u1] t)) ∧ Held (w.alloc (Obj.cells #[u0, u1] t)) w.heap.size (w.heap.size + 1) (IsVar w.heap.size u0 u1 t) :=
  ⟨(Below.refl _ _).alloc (Nat.le_refl _) _, held_var (heap_alloc_new w _)⟩
end Go.Proofs.YtacmpggigdlmmaaDoor
