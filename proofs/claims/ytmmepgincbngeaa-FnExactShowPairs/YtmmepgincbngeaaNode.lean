/-
  Nodes (a flag, keys, values, kids), read only ('NodeAt') or in new memory ('NodeOwn'), and the laws' own helpers over them by contracts: szNode, toNode, eqNode, markNode, heldNode.
-/
import Derived.Test.YtmmepgincbngeaaIntRow
namespace Go.Proofs.Ytmmepgincbngeaa
open Go.RowKit

/-- a node that reads so -/
def NodeAt (w : World) (v : Value) (lf : Bool) (ks vs : List ByteArray) (cs : List Int) : Prop :=
  ∃ vk vv vc, v = .agg #[.bool lf, vk, vv, vc] ∧ RowAt w 1 vk ks.length (strs ks) ∧ RowAt w 1 vv vs.length (strs vs) ∧ RowAt w 1 vc cs.length (ints cs)

/-- a node in memory of its own: no two of its rows share a block -/
def NodeOwn (w : World) (B : Nat) (v : Value) (lf : Bool) (ks vs : List ByteArray) (cs : List Int) : Prop :=
  ∃ vk vv vc, v = .agg #[.bool lf, vk, vv, vc] ∧ w.ownsRow B 9 1 vk ks.length (strs ks) ∧ w.ownsRow B 9 1 vv vs.length (strs vs) ∧ w.ownsRow B 3 1 vc cs.length (ints cs) ∧ ∀ k, vk.ownBlock = some k → vv.ownBlock ≠ some k

theorem node_of_own {w : World} {B : Nat} {v : Value} {lf : Bool} {ks vs : List ByteArray} {cs : List Int} (h : NodeOwn w B v lf ks vs cs) : NodeAt w v lf ks vs cs := by
  obtain ⟨vk, vv, vc, e, h1, h2, h3, -⟩ := h
  exact ⟨vk, vv, vc, e, row_of_own h1, row_of_own h2, row_of_own h3⟩

theorem node_below {w w' : World} {v : Value} {lf : Bool} {ks vs : List ByteArray} {cs : List Int} (h : NodeAt w v lf ks vs cs) (hb : Below w.heap.size w w') : NodeAt w' v lf ks vs cs := by
  obtain ⟨vk, vv, vc, e, h1, h2, h3⟩ := h
  exact ⟨vk, vv, vc, e, row_below h1 hb, row_below h2 hb, row_below h3 hb⟩

theorem nodeOwn_below {w w' : World} {B : Nat} {v : Value} {lf : Bool} {ks vs : List ByteArray} {cs : List Int} (h : NodeOwn w B v lf ks vs cs) (hb : Below w.heap.size w w') : NodeOwn w' B v lf ks vs cs := by
  obtain ⟨vk, vv, vc, e, h1, h2, h3, h4⟩ := h
  exact ⟨vk, vv, vc, e, own_stays h1 hb, own_stays h2 hb, own_stays h3 hb, h4⟩

theorem own_slice {w : World} {B e sz n : Nat} {v : Value} {xs : List Value} (h : w.ownsRow B e sz v n xs) : ∃ a cap, v = .slice a n cap := by
  obtain ⟨-, a, cap, e, -⟩ := row_of_own h
  exact ⟨a, cap, e⟩

/-- the blocks of a node's rows -/
def nodeBlocks (v : Value) (k : Nat) : Prop := ∃ b vk vv vc, v = .agg #[b, vk, vv, vc] ∧ (vk.ownBlock = some k ∨ vv.ownBlock = some k ∨ vc.ownBlock = some k)

theorem agg4 {a b c d a' b' c' d' : Value} (h : Value.agg #[a, b, c, d] = .agg #[a', b', c', d']) : a = a' ∧ b = b' ∧ c = c' ∧ d = d' := by
  injection h with h
  have := congrArg Array.toList h
  simp at this
  exact this

theorem nodeOwn_lt {w : World} {B : Nat} {v : Value} {lf : Bool} {ks vs : List ByteArray} {cs : List Int} (h : NodeOwn w B v lf ks vs cs) : ∀ k, nodeBlocks v k → B ≤ k ∧ k < w.heap.size := by
  obtain ⟨vk, vv, vc, rfl, h1, h2, h3, -⟩ := h
  rintro k ⟨b, vk', vv', vc', e, hk⟩
  obtain ⟨-, rfl, rfl, rfl⟩ := agg4 e
  rcases hk with hk | hk | hk
  · exact h1.lt k hk
  · exact h2.lt k hk
  · exact h3.lt k hk

theorem nodeOwn_kept {w w' : World} {B : Nat} {v : Value} {lf : Bool} {ks vs : List ByteArray} {cs : List Int} {S : Nat → Prop} (h : NodeOwn w B v lf ks vs cs) (hk : Kept w w' S) (hS : ∀ k, nodeBlocks v k → ¬ S k) : NodeOwn w' B v lf ks vs cs := by
  obtain ⟨vk, vv, vc, rfl, h1, h2, h3, h4⟩ := h
  exact ⟨vk, vv, vc, rfl, own_kept h1 hk (fun k e => hS k ⟨_, vk, vv, vc, rfl, Or.inl e⟩), own_kept h2 hk (fun k e => hS k ⟨_, vk, vv, vc, rfl, Or.inr (Or.inl e)⟩), own_kept h3 hk (fun k e => hS k ⟨_, vk, vv, vc, rfl, Or.inr (Or.inr e)⟩), h4⟩

theorem one_type {w : World} {B B' e e' sz sz' n n' : Nat} {v v' : Value} {xs xs' : List Value} (h : w.ownsRow B e sz v n xs) (h' : w.ownsRow B' e' sz' v' n' xs') (hne : e ≠ e') (k : Nat) (h1 : v.ownBlock = some k) : v'.ownBlock ≠ some k := by
  intro h2
  rcases h.2 with ⟨rfl, -⟩ | ⟨g, cap, cur, rfl, -, hh, -⟩
  · cases h1
  · rcases h'.2 with ⟨rfl, -⟩ | ⟨g', cap', cur', rfl, -, hh', -⟩
    · cases h2
    · injection h1 with h1
      injection h2 with h2
      have h1 : g = k := h1
      have h2 : g' = k := h2
      subst h1
      subst h2
      rw [hh] at hh'
      injection hh' with hh'
      injection hh' with _ he _
      exact hne he

theorem Try.str_int : (9 : Nat) ≠ 3 := by decide

/-- how much there is to a node -/
def bulkN (ks vs : List ByteArray) (cs : List Int) : Nat := bulkS ks + bulkS vs + cs.length

theorem blk_other {w : World} {g g' j : Nat} {u : Value} {o : Obj} (h : w.heap[g]? = some o) (hne : g ≠ g') : (w.setCell ⟨g', j, none⟩ u).heap[g]? = some o := (heap_setCell_other w ⟨g', j, none⟩ g u (by exact hne)).trans h

end Go.Proofs.Ytmmepgincbngeaa
