/-
  What a call may turn, block by block ('Kept'), and the laws' own marks over rows of texts and of puts by contracts: markText, markStringS, heldStringS, markPutS, heldPutS.
-/
import Derived.Test.YtmmepgincbngeaaPutRow
import Derived.Test.YtmmepgincbngeaaDec
namespace Go.Proofs.Ytmmepgincbngeaa
open Go.RowKit

/-- all that was there stays, but the blocks of S -/
def Kept (w w' : World) (S : Nat → Prop) : Prop := w'.os = w.os ∧ w'.tape = w.tape ∧ w'.output = w.output ∧ w.heap.size ≤ w'.heap.size ∧ ∀ k, k < w.heap.size → ¬ S k → w'.heap[k]? = w.heap[k]?

theorem kept_refl (w : World) (S : Nat → Prop) : Kept w w S := ⟨rfl, rfl, rfl, Nat.le_refl _, fun _ _ _ => rfl⟩

theorem kept_trans {a b c : World} {S T : Nat → Prop} (h : Kept a b S) (k : Kept b c T) (hT : ∀ j, j < a.heap.size → T j → S j) : Kept a c S :=
  ⟨k.1.trans h.1, k.2.1.trans h.2.1, k.2.2.1.trans h.2.2.1, Nat.le_trans h.2.2.2.1 k.2.2.2.1, fun j hj hn => (k.2.2.2.2 j (Nat.lt_of_lt_of_le hj h.2.2.2.1) (fun t => hn (hT j hj t))).trans (h.2.2.2.2 j hj hn)⟩

theorem kept_mono {a b : World} {S T : Nat → Prop} (h : Kept a b S) (hT : ∀ j, j < a.heap.size → S j → T j) : Kept a b T :=
  ⟨h.1, h.2.1, h.2.2.1, h.2.2.2.1, fun j hj hn => h.2.2.2.2 j hj (fun s => hn (hT j hj s))⟩

theorem kept_of_below {B : Nat} {a b : World} (h : Below B a b) : Kept a b (fun k => B ≤ k) := ⟨h.os, h.tape, h.output, h.size, fun k _ hn => h.block k (by omega)⟩

theorem kept_of_all {a b : World} (h : Below a.heap.size a b) (S : Nat → Prop) : Kept a b S := ⟨h.os, h.tape, h.output, h.size, fun k hk _ => h.block k hk⟩

theorem below_of_kept {B : Nat} {a b : World} {S : Nat → Prop} (h : Kept a b S) (hB : B ≤ a.heap.size) (hS : ∀ k, S k → B ≤ k) : Below B a b :=
  ⟨h.1, h.2.1, h.2.2.1, h.2.2.2.1, fun k hk => h.2.2.2.2 k (by omega) (fun s => by have := hS k s; omega)⟩

theorem kept_setCell (w : World) (g j : Nat) (u : Value) : Kept w (w.setCell ⟨g, j, none⟩ u) (fun k => k = g) :=
  ⟨rfl, rfl, rfl, by simp, fun k _ hn => heap_setCell_other w ⟨g, j, none⟩ k u hn⟩

theorem own_kept {w w' : World} {B e sz n : Nat} {v : Value} {xs : List Value} {S : Nat → Prop} (h : w.ownsRow B e sz v n xs) (hk : Kept w w' S) (hS : ∀ k, v.ownBlock = some k → ¬ S k) : w'.ownsRow B e sz v n xs := by
  refine ⟨h.1, ?_⟩
  rcases h.2 with ⟨rfl, hn⟩ | ⟨g, cap, cur, rfl, hg, hh, rest⟩
  · exact Or.inl ⟨rfl, hn⟩
  · have hlt : g < w.heap.size := (h.lt g rfl).2
    exact Or.inr ⟨g, cap, cur, rfl, hg, (hk.2.2.2.2 g hlt (hS g rfl)).trans hh, rest⟩

theorem row_kept {w w' : World} {sz n : Nat} {v : Value} {xs : List Value} {S : Nat → Prop} (h : RowAt w sz v n xs) (hk : Kept w w' S) (hS : n = 0 ∨ ∀ k, k < w.heap.size → v.ownBlock = some k → ¬ S k) : RowAt w' sz v n xs := by
  obtain ⟨hl, a, cap, rfl, h2⟩ := h
  refine ⟨hl, a, cap, rfl, ?_⟩
  rcases h2 with h0 | ⟨b, off, rfl, hlt, hc⟩
  · exact Or.inl h0
  · rcases hS with h0 | hS
    · exact Or.inl h0
    · refine Or.inr ⟨b, off, rfl, Nat.lt_of_lt_of_le hlt hk.2.2.2.1, fun j hj => ?_⟩
      rw [World.cell?_of_block (hk.2.2.2.2 b hlt (hS b hlt rfl))]
      exact hc j hj

theorem heap_push (w : World) (o : Obj) (k : Nat) : (w.alloc o).heap[k]? = if k = w.heap.size then some o else w.heap[k]? := by
  show (w.heap.push o)[k]? = _
  rw [Array.getElem?_push]

theorem three_allocs (w : World) (a b c : Obj) : (((w.alloc a).alloc b).alloc c).heap[w.heap.size]? = some a ∧ (((w.alloc a).alloc b).alloc c).heap[w.heap.size + 1]? = some b ∧ (((w.alloc a).alloc b).alloc c).heap[w.heap.size + 1 + 1]? = some c ∧ (((w.alloc a).alloc b).alloc c).heap.size = w.heap.size + 3 := by
  refine ⟨?_, ?_, ?_, by simp⟩
  · rw [heap_push, heap_push, heap_push]; simp; omega
  · rw [heap_push, heap_push]; simp
  · rw [heap_push]; simp

theorem two_allocs (w : World) (a b : Obj) : ((w.alloc a).alloc b).heap[w.heap.size]? = some a ∧ ((w.alloc a).alloc b).heap[w.heap.size + 1]? = some b ∧ ((w.alloc a).alloc b).heap.size = w.heap.size + 2 := by
  refine ⟨?_, ?_, by simp⟩
  · rw [heap_push, heap_push]; simp
  · rw [heap_push]; simp

/-- a cell of a block that is told whole -/
theorem cell_at {w : World} {g : Nat} {cs : Array Value} {t : TypeId} (h : w.heap[g]? = some (.cells cs t (0, 0))) (j : Nat) : w.cell? ⟨g, j, none⟩ = cs[j]? ∧ w.frozen? ⟨g, j, none⟩ = false :=
  ⟨cell_of_row w g j cs t (0, 0) h, frozen_of_row w g j cs t h⟩

/-- the mark of k -/
def markB (k : Nat) : ByteArray := ⟨(109 :: decF 20 k).toArray⟩

/-- the marks from k on, n of them -/
def marksS (k n : Nat) : List ByteArray := (List.range n).map fun i => markB (k + i)

theorem marksS_length (k n : Nat) : (marksS k n).length = n := by simp [marksS]

theorem marksS_at (k n i : Nat) (h : i < n) : (strs (marksS k n))[i]? = some (.string (markB (k + i))) := by simp [strs, marksS, h]

theorem marksS_of (k n : Nat) (m : List ByteArray) (hl : m.length = n) (h : ∀ i, i < n → m[i]? = some (markB (k + i))) : m = marksS k n := by
  apply List.ext_getElem?
  intro i
  by_cases hi : i < n
  · rw [h i hi]; simp [marksS, hi]
  · rw [List.getElem?_eq_none (by omega), List.getElem?_eq_none (by rw [marksS_length]; omega)]

/-- the marks of puts from k on, n of them -/
def marksP (k n : Nat) : List (Int × ByteArray) := (List.range n).map fun i => (((k + i * 2 : Nat) : Int), markB (k + i * 2 + 1))

theorem marksP_length (k n : Nat) : (marksP k n).length = n := by simp [marksP]

theorem marksP_at (k n i : Nat) (h : i < n) : (puts (marksP k n))[i * 2]? = some (.int .i64 ((k + i * 2 : Nat) : Int)) ∧ (puts (marksP k n))[i * 2 + 1]? = some (.string (markB (k + i * 2 + 1))) := by
  have := puts_at (marksP k n) i (by rw [marksP_length]; exact h)
  simpa [marksP] using this

theorem marksP_of (k n : Nat) (m : List (Int × ByteArray)) (hl : m.length = n) (h : ∀ i, i < n → m[i]? = some (((k + i * 2 : Nat) : Int), markB (k + i * 2 + 1))) : m = marksP k n := by
  apply List.ext_getElem?
  intro i
  by_cases hi : i < n
  · rw [h i hi]; simp [marksP, hi]
  · rw [List.getElem?_eq_none (by omega), List.getElem?_eq_none (by rw [marksP_length]; omega)]

end Go.Proofs.Ytmmepgincbngeaa
