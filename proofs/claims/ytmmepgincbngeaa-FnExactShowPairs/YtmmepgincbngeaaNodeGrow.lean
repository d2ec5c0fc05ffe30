/-
  A node that grows in a variable of its own, row by row: what stays and what is new behind an append and a store. No function of the program.
-/
import Derived.Test.YtmmepgincbngeaaNode
import Derived.Test.YtmmepgincbngeaaPlain16
import Derived.Test.YtmmepgincbngeaaStepCall
import Derived.Test.YtmmepgincbngeaaDraw2
import Derived.Deep.AppendLies
namespace Go.Proofs.Ytmmepgincbngeaa
open Go.RowKit

/-- an append to a row that lies behind gn: the rest stays -/
theorem grown_high {a b c : World} {g : Nat} {r : Option Nat} (h : a.grownBy b (some g)) (k : b.grownBy c r) (hr : ∀ j, r = some j → a.heap.size ≤ j) : a.grownBy c (some g) :=
  ⟨k.os.trans h.os, k.tape.trans h.tape, k.output.trans h.output, Nat.le_trans h.size k.size, fun j hj hne => by
    rw [k.block j (Nat.lt_of_lt_of_le hj h.size) (fun e => by have := hr j e.symm; omega)]
    exact h.block j hj hne⟩

theorem str_snoc (l : List ByteArray) (x : ByteArray) : strs l ++ [.string x] = strs (l ++ [x]) := by simp [strs]

theorem int_snoc (l : List Int) (x : Int) : ints l ++ [.int .i64 x] = ints (l ++ [x]) := by simp [ints]

theorem one_new (w : World) (n : Nat) (hn : n = w.heap.size) (x : Value) (T : TypeId) : ∀ (j : Nat) (u : Value), [x][j]? = some u → (w.alloc (Obj.cells #[x] T)).cell? ((⟨n, 0, none⟩ : Addr).add j) = some u := by
  subst hn
  intro j u hj
  obtain rfl : j = 0 := by have := (List.getElem?_eq_some_iff.1 hj).1; simp at this; omega
  rw [Addr.add_lit, ← hj]
  exact (cell_at (heap_alloc_new w _) 0).1

theorem apart {u v : Value} (h : ∀ k, u.ownBlock = some k → v.ownBlock ≠ some k) : v.ownBlock = none ∨ v.ownBlock ≠ u.ownBlock := by
  cases hv : v.ownBlock with
  | none => exact Or.inl rfl
  | some k => exact Or.inr (fun e => h k e.symm hv)

theorem away {u : Value} {gn : Nat} (h : ∀ k, u.ownBlock = some k → gn < k) : some gn ≠ u.ownBlock := fun e => by have := h gn e.symm; omega

theorem grown_low {a b c : World} {g gn : Nat} (h : a.grownBy b (some g)) (k : Below gn b c) (hle : a.heap.size ≤ gn) : a.grownBy c (some g) :=
  ⟨k.os.trans h.os, k.tape.trans h.tape, k.output.trans h.output, Nat.le_trans h.size k.size, fun j hj hne => by
    rw [k.block j (by omega)]
    exact h.block j hj hne⟩

theorem nodeOwn_down {w : World} {B B' : Nat} {v : Value} {lf : Bool} {ks vs : List ByteArray} {cs : List Int} (h : NodeOwn w B v lf ks vs cs) (hb : B' ≤ B) : NodeOwn w B' v lf ks vs cs := by
  obtain ⟨u1, u2, u3, e, h1, h2, h3, h4⟩ := h
  exact ⟨u1, u2, u3, e, own_down h1 hb, own_down h2 hb, own_down h3 hb, h4⟩
end Go.Proofs.Ytmmepgincbngeaa
