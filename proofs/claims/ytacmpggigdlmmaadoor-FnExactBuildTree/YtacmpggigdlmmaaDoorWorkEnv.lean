/-
  What a law over works holds over its calls: variables of six cells, works and nodes of our own. No function of the program.
-/
import Derived.Test.YtacmpggigdlmmaaDoorWorkCp
import Derived.Test.YtacmpggigdlmmaaDoorEnvN
namespace Go.Proofs.YtacmpggigdlmmaaDoor
open Go.RowKit

/-- a variable, cell by cell -/
def IsBlk (g : Nat) (cs : Array Value) (t : TypeId) (w : World) : Prop := w.heap[g]? = some (Obj.cells cs t)

theorem held_blk {w : World} {g : Nat} {cs : Array Value} {t : TypeId} (h : w.heap[g]? = some (Obj.cells cs t)) : Held w g (g + 1) (IsBlk g cs t) :=
  ⟨fun a b _ _ hk hp => (hk g (Nat.le_refl _) (by omega)).trans hp, (Array.getElem?_eq_some_iff.1 h).1, h⟩

theorem new_blk (w : World) (cs : Array Value) (t : TypeId) : Below w.heap.size w (w.alloc (Obj.cells cs t)) ∧ Held (w.alloc (Obj.cells cs t)) w.heap.size (w.heap.size + 1) (IsBlk w.heap.size cs t) :=
  ⟨(Below.refl _ _).alloc (Nat.le_refl _) _, held_blk (heap_alloc_new w _)⟩

theorem blk6h {w : World} {B U g : Nat} {c0 c1 c2 c3 c4 c5 : Value} {t : TypeId} (h : Held w B U (IsBlk g #[c0, c1, c2, c3, c4, c5] t)) : w.cell? ⟨g, 0, none⟩ = some c0 ∧ w.cell? ⟨g, 1, none⟩ = some c1 ∧ w.cell? ⟨g, 2, none⟩ = some c2 ∧ w.cell? ⟨g, 3, none⟩ = some c3 ∧ w.cell? ⟨g, 4, none⟩ = some c4 ∧ w.cell? ⟨g, 5, none⟩ = some c5 := blk6c h.is

theorem blk4h {w : World} {B U g : Nat} {c0 c1 c2 c3 : Value} {t : TypeId} (h : Held w B U (IsBlk g #[c0, c1, c2, c3] t)) : w.cell? ⟨g, 0, none⟩ = some c0 ∧ w.cell? ⟨g, 1, none⟩ = some c1 ∧ w.cell? ⟨g, 2, none⟩ = some c2 ∧ w.cell? ⟨g, 3, none⟩ = some c3 :=
  ⟨(cell_at h.is 0).1, (cell_at h.is 1).1, (cell_at h.is 2).1, (cell_at h.is 3).1⟩

/-- a work of our own whose rows lie in B .. U - 1 -/
def IsWork (B U : Nat) (v : Value) (k : Wk) (w : World) : Prop := WorkOwn w B v k ∧ ∀ j, workBlocks v j → j < U

theorem intOwn_loc {w w' : World} {B U : Nat} {v : Value} {l : List Int} (h : IntOwn w B v l) (hU : ∀ j, v.ownBlock = some j → j < U) (hk : ∀ k, B ≤ k → k < U → w'.heap[k]? = w.heap[k]?) : IntOwn w' B v l := by
  obtain ⟨a, cap, rfl, hc, h⟩ := h
  refine ⟨a, cap, rfl, hc, ?_⟩
  rcases h with h | ⟨g, off, cs, rfl, hB, hh, hx⟩
  · exact Or.inl h
  · exact Or.inr ⟨g, off, cs, rfl, hB, (hk g hB (hU g rfl)).trans hh, hx⟩

theorem workOwn_loc {w w' : World} {B U : Nat} {v : Value} {k : Wk} (h : IsWork B U v k w) (hs : w.heap.size ≤ w'.heap.size) (hk : ∀ j, B ≤ j → j < U → w'.heap[j]? = w.heap[j]?) : IsWork B U v k w' := by
  refine ⟨?_, h.2⟩
  have hu := h.2
  obtain ⟨⟨vp, vl, vu, vg, vf, rfl, h1, h2, h3, h4, h5⟩, -⟩ := h
  exact ⟨vp, vl, vu, vg, vf, rfl, (diskOwn_loc (U := U) ⟨h1, fun j hj => hu j ⟨_, _, _, _, _, _, rfl, Or.inl hj⟩⟩ hs hk).1, intOwn_loc h2 (fun j e => hu j ⟨_, _, _, _, _, _, rfl, Or.inr (Or.inl e)⟩) hk, intOwn_loc h3 (fun j e => hu j ⟨_, _, _, _, _, _, rfl, Or.inr (Or.inr (Or.inl e))⟩) hk, intOwn_loc h4 (fun j e => hu j ⟨_, _, _, _, _, _, rfl, Or.inr (Or.inr (Or.inr e))⟩) hk, h5⟩

theorem held_work {w : World} {B : Nat} {v : Value} {k : Wk} (h : WorkOwn w B v k) : Held w B w.heap.size (IsWork B w.heap.size v k) :=
  ⟨fun _ _ hs _ hk hp => workOwn_loc hp hs hk, Nat.le_refl _, h, fun j hj => (workOwn_lt h j hj).2⟩

theorem held_workA {w : World} {B U : Nat} {v : Value} {k k' : Wk} {w' : World} (h : Held w B U (IsWork B U v k)) (hd : WorkOwn w' B v k') (hs : w.heap.size ≤ w'.heap.size) : Held w' B U (IsWork B U v k') :=
  ⟨fun _ _ hs _ hk hp => workOwn_loc hp hs hk, Nat.le_trans h.le hs, hd, h.is.2⟩

theorem own_loc {w w' : World} {B U e sz n : Nat} {v : Value} {xs : List Value} (h : w.ownsRow B e sz v n xs) (hU : ∀ j, v.ownBlock = some j → j < U) (hk : ∀ k, B ≤ k → k < U → w'.heap[k]? = w.heap[k]?) : w'.ownsRow B e sz v n xs := by
  refine ⟨h.1, ?_⟩
  rcases h.2 with ⟨rfl, hn⟩ | ⟨g, cap, cur, rfl, hg, hh, rest⟩
  · exact Or.inl ⟨rfl, hn⟩
  · exact Or.inr ⟨g, cap, cur, rfl, hg, (hk g hg (hU g rfl)).trans hh, rest⟩

/-- a node of our own whose rows lie in B .. U - 1 -/
def IsNode (B U : Nat) (v : Value) (lf : Bool) (ks vs : List ByteArray) (cs : List Int) (w : World) : Prop := NodeOwn w B v lf ks vs cs ∧ ∀ j, nodeBlocks v j → j < U

theorem held_node {w : World} {B : Nat} {v : Value} {lf : Bool} {ks vs : List ByteArray} {cs : List Int} (h : NodeOwn w B v lf ks vs cs) : Held w B w.heap.size (IsNode B w.heap.size v lf ks vs cs) := by
  refine ⟨fun a b _ _ hk hp => ⟨?_, hp.2⟩, Nat.le_refl _, h, fun j hj => (nodeOwn_lt h j hj).2⟩
  have hu := hp.2
  obtain ⟨⟨vk, vv, vc, rfl, h1, h2, h3, h4⟩, -⟩ := hp
  exact ⟨vk, vv, vc, rfl, own_loc h1 (fun j e => hu j ⟨_, _, _, _, rfl, Or.inl e⟩) hk, own_loc h2 (fun j e => hu j ⟨_, _, _, _, rfl, Or.inr (Or.inl e)⟩) hk, own_loc h3 (fun j e => hu j ⟨_, _, _, _, rfl, Or.inr (Or.inr e)⟩) hk, h4⟩

theorem node_form {w : World} {B : Nat} {v : Value} {lf : Bool} {ks vs : List ByteArray} {cs : List Int} (h : NodeOwn w B v lf ks vs cs) : ∃ a1 c1 a2 c2 a3 c3, v = .agg #[.bool lf, .slice a1 ks.length c1, .slice a2 vs.length c2, .slice a3 cs.length c3] := by
  obtain ⟨vk, vv, vc, rfl, h1, h2, h3, -⟩ := h
  obtain ⟨a1, c1, rfl⟩ := own_slice h1
  obtain ⟨a2, c2, rfl⟩ := own_slice h2
  obtain ⟨a3, c3, rfl⟩ := own_slice h3
  exact ⟨_, _, _, _, _, _, rfl⟩
end Go.Proofs.YtacmpggigdlmmaaDoor
