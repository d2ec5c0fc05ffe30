/-
  Things that lie side by side in memory of our own: each with the blocks that it stands in, no two share one. No program.
-/
import Derived.Test.YtmmepgincbngeaaFrame
import Derived.Deep.RegionHeld
namespace Go.Proofs.Ytmmepgincbngeaa
open Go.RowKit

/-- what is said of some blocks alone -/
structure Ast where
  F : Nat → Prop
  P : World → Prop
  loc : ∀ W W', P W → (∀ k, F k → W'.heap[k]? = W.heap[k]?) → P W'

/-- a block -/
def cellA (g : Nat) (o : Obj) : Ast := ⟨fun k => k = g, fun W => W.heap[g]? = some o, fun _ _ h hk => (hk g rfl).trans h⟩

/-- a row of our own -/
def rowA (B e sz : Nat) (v : Value) (n : Nat) (xs : List Value) : Ast := ⟨fun k => v.ownBlock = some k, fun W => W.ownsRow B e sz v n xs, fun W W' h hk => by
  refine ⟨h.1, ?_⟩
  rcases h.2 with ⟨rfl, hn⟩ | ⟨g, cap, cur, rfl, hg, hh, rest⟩
  · exact Or.inl ⟨rfl, hn⟩
  · exact Or.inr ⟨g, cap, cur, rfl, hg, (hk g rfl).trans hh, rest⟩⟩

/-- they lie side by side, in blocks from B on -/
def Sep (B : Nat) (W : World) (l : List Ast) : Prop := (∀ A ∈ l, A.P W ∧ ∀ k, A.F k → B ≤ k ∧ k < W.heap.size) ∧ l.Pairwise (fun A A' => ∀ k, A.F k → ¬ A'.F k)

theorem sep_nil (B : Nat) (W : World) : Sep B W [] := ⟨fun _ h => (by cases h), List.Pairwise.nil⟩

theorem sep_get {B : Nat} {W : World} {l : List Ast} (h : Sep B W l) (i : Nat) {A : Ast} (hi : l[i]? = some A) : A.P W := (h.1 A (List.mem_of_getElem? hi)).1

theorem sep_lt {B : Nat} {W : World} {l : List Ast} (h : Sep B W l) (i : Nat) {A : Ast} (hi : l[i]? = some A) : ∀ k, A.F k → B ≤ k ∧ k < W.heap.size := (h.1 A (List.mem_of_getElem? hi)).2

theorem sep_apart {B : Nat} {W : World} {l : List Ast} (h : Sep B W l) (i j : Nat) {A A' : Ast} (hi : l[i]? = some A) (hj : l[j]? = some A') (hne : i ≠ j) : ∀ k, A.F k → ¬ A'.F k := by
  obtain ⟨hi1, rfl⟩ := List.getElem?_eq_some_iff.1 hi
  obtain ⟨hj1, rfl⟩ := List.getElem?_eq_some_iff.1 hj
  rcases Nat.lt_or_gt_of_ne hne with h1 | h1
  · exact List.pairwise_iff_getElem.1 h.2 i j hi1 hj1 h1
  · exact fun k ha hb => List.pairwise_iff_getElem.1 h.2 j i hj1 hi1 h1 k hb ha

theorem sep_agree {B : Nat} {W W' : World} {l : List Ast} (h : Sep B W l) (hs : W.heap.size ≤ W'.heap.size) (hk : ∀ A ∈ l, ∀ k, A.F k → W'.heap[k]? = W.heap[k]?) : Sep B W' l :=
  ⟨fun A hA => ⟨A.loc W W' (h.1 A hA).1 (hk A hA), fun k hF => ⟨((h.1 A hA).2 k hF).1, Nat.lt_of_lt_of_le ((h.1 A hA).2 k hF).2 hs⟩⟩, h.2⟩

theorem sep_below {B : Nat} {W W' : World} {l : List Ast} (h : Sep B W l) (hb : Below W.heap.size W W') : Sep B W' l :=
  sep_agree h hb.size (fun A hA k hF => hb.block k ((h.1 A hA).2 k hF).2)

theorem sep_drew {B : Nat} {W : World} {l : List Ast} (h : Sep B W l) : Sep B W.drew l := sep_below h (Below.refl _ _).drew

theorem sep_alloc {B : Nat} {W : World} {l : List Ast} (h : Sep B W l) (o : Obj) : Sep B (W.alloc o) l := sep_below h ((Below.refl _ _).alloc (Nat.le_refl _) o)

/-- all changes lie in S, which none of them stands in -/
theorem sep_kept {B : Nat} {W W' : World} {l : List Ast} {S : Nat → Prop} (h : Sep B W l) (hk : Kept W W' S) (hS : ∀ A ∈ l, ∀ k, A.F k → ¬ S k) : Sep B W' l :=
  sep_agree h hk.2.2.2.1 (fun A hA k hF => hk.2.2.2.2 k ((h.1 A hA).2 k hF).2 (hS A hA k hF))

theorem sep_cons {B : Nat} {W : World} {A : Ast} {l : List Ast} : Sep B W (A :: l) ↔ (A.P W ∧ ∀ k, A.F k → B ≤ k ∧ k < W.heap.size) ∧ (∀ A' ∈ l, ∀ k, A.F k → ¬ A'.F k) ∧ Sep B W l := by
  constructor
  · rintro ⟨h1, h2⟩
    obtain ⟨h3, h4⟩ := List.pairwise_cons.1 h2
    exact ⟨h1 A List.mem_cons_self, h3, fun A' h => h1 A' (List.mem_cons_of_mem _ h), h4⟩
  · rintro ⟨h1, h2, h3, h4⟩
    refine ⟨fun A' h => ?_, List.pairwise_cons.2 ⟨h2, h4⟩⟩
    rcases List.mem_cons.1 h with rfl | h
    · exact h1
    · exact h3 A' h

theorem sep_del {B : Nat} {W : World} {A : Ast} {l : List Ast} (h : Sep B W (A :: l)) : Sep B W l := (sep_cons.1 h).2.2

/-- a new thing -/
theorem sep_add {B : Nat} {W W' : World} {l : List Ast} (h : Sep B W l) (hb : Below W.heap.size W W') (A : Ast) (hP : A.P W') (hF : ∀ k, A.F k → W.heap.size ≤ k ∧ k < W'.heap.size) (hB : B ≤ W.heap.size) : Sep B W' (A :: l) :=
  sep_cons.2 ⟨⟨hP, fun k hk => ⟨Nat.le_trans hB (hF k hk).1, (hF k hk).2⟩⟩, fun A' hA' k hk hk' => by have := ((h.1 A' hA').2 k hk').2; have := (hF k hk).1; omega, sep_below h hb⟩

theorem sep_new {B : Nat} {W : World} {l : List Ast} (h : Sep B W l) (o : Obj) (hB : B ≤ W.heap.size) : Sep B (W.alloc o) (cellA W.heap.size o :: l) :=
  sep_add h ((Below.refl _ _).alloc (Nat.le_refl _) o) (cellA W.heap.size o) (heap_alloc_new W o) (fun k hk => by have hk : k = W.heap.size := hk; subst hk; exact ⟨Nat.le_refl _, by simp⟩) hB

/-- one of them is turned into another -/
theorem sep_set {B : Nat} {W W' : World} {l : List Ast} (h : Sep B W l) (i : Nat) {A : Ast} (hi : l[i]? = some A) (hk : Kept W W' A.F) (A' : Ast) (hP : A'.P W') (hF : ∀ k, A'.F k → (A.F k ∨ W.heap.size ≤ k) ∧ k < W'.heap.size) (hB : B ≤ W.heap.size) : Sep B W' (l.set i A') := by
  obtain ⟨hi1, hie⟩ := List.getElem?_eq_some_iff.1 hi
  have hap : ∀ (j : Nat) (hj : j < l.length), j ≠ i → ∀ k, A'.F k → ¬ l[j].F k := fun j hj hne k ha hb => by
    rcases (hF k ha).1 with h1 | h1
    · exact sep_apart h i j hi (List.getElem?_eq_getElem hj) (fun e => hne e.symm) k h1 hb
    · have := (sep_lt h j (List.getElem?_eq_getElem hj) k hb).2; omega
  refine ⟨fun X hX => ?_, ?_⟩
  · obtain ⟨j, hj, rfl⟩ := List.getElem_of_mem hX
    rw [List.length_set] at hj
    rw [List.getElem_set]
    split
    · refine ⟨hP, fun k hk' => ⟨?_, (hF k hk').2⟩⟩
      rcases (hF k hk').1 with h1 | h1
      · exact (sep_lt h i hi k h1).1
      · omega
    · rename_i hne
      have h1 := h.1 l[j] (List.getElem_mem hj)
      have h2 : ∀ k, l[j].F k → ¬ A.F k := sep_apart h j i (List.getElem?_eq_getElem hj) hi (fun e => hne e.symm)
      exact ⟨l[j].loc W W' h1.1 (fun k hF' => hk.2.2.2.2 k (h1.2 k hF').2 (h2 k hF')), fun k hF' => ⟨(h1.2 k hF').1, Nat.lt_of_lt_of_le (h1.2 k hF').2 hk.2.2.2.1⟩⟩
  · refine List.pairwise_iff_getElem.2 fun p q hp hq hpq => ?_
    rw [List.length_set] at hp hq
    rw [List.getElem_set, List.getElem_set]
    split
    · rename_i e
      subst e
      rw [if_neg (by omega)]
      exact hap q hq (by omega)
    · rename_i e
      split
      · rename_i e2
        subst e2
        exact fun k ha hb => hap p hp (by omega) k hb ha
      · exact List.pairwise_iff_getElem.1 h.2 p q hp hq hpq

/-- a store into a block -/
theorem sep_store {B : Nat} {W : World} {l : List Ast} (h : Sep B W l) (i : Nat) {g : Nat} {cs : Array Value} {T : TypeId} (hi : l[i]? = some (cellA g (.cells cs T (0, 0)))) (off : Nat) (v : Value) : Sep B (W.setCell ⟨g, off, none⟩ v) (l.set i (cellA g (.cells (cs.setIfInBounds off v) T (0, 0)))) := by
  have h1 : W.heap[g]? = some (.cells cs T (0, 0)) := sep_get h i hi
  have h2 := sep_lt h i hi g rfl
  refine sep_set h i hi (kept_setCell W g off v) _ (heap_setCell_same W g off cs T v h1) (fun k hk => ⟨Or.inl hk, ?_⟩) (Nat.le_of_lt (Nat.lt_of_le_of_lt h2.1 h2.2))
  have hk : k = g := hk
  subst hk
  simpa using h2.2

/-- a row that has grown -/
theorem sep_grow {B : Nat} {W W0 W' : World} {l : List Ast} (h : Sep B W l) (hb : Below W.heap.size W W0) (i : Nat) {B' e sz n n' : Nat} {v : Value} {xs xs' : List Value} (hi : l[i]? = some (rowA B' e sz v n xs)) (hgr : W0.grownBy W' v.ownBlock) {b c : Nat} (hown : W'.ownsRow B' e sz (.slice (some ⟨b, 0, none⟩) n' c) n' xs') (hbb : v.ownBlock = some b ∨ W.heap.size ≤ b) (hB : B ≤ W.heap.size) : Sep B W' (l.set i (rowA B' e sz (.slice (some ⟨b, 0, none⟩) n' c) n' xs')) := by
  refine sep_set h i hi ⟨hgr.os.trans hb.os, hgr.tape.trans hb.tape, hgr.output.trans hb.output, Nat.le_trans hb.size hgr.size, fun j hj hn => (hgr.block j (Nat.lt_of_lt_of_le hj hb.size) (fun e => hn e.symm)).trans (hb.block j hj)⟩ _ hown (fun k hk => ⟨?_, (hown.lt k hk).2⟩) hB
  injection hk with hk
  have hk : b = k := hk
  subst hk
  exact hbb

theorem grown_below {B : Nat} {W W0 W' : World} {v : Value} {B' e sz n : Nat} {xs : List Value} (hb : Below W.heap.size W W0) (hgr : W0.grownBy W' v.ownBlock) (ho : W.ownsRow B' e sz v n xs) (hB : B ≤ B') (hBW : B ≤ W.heap.size) : Below B W W' :=
  ⟨hgr.os.trans hb.os, hgr.tape.trans hb.tape, hgr.output.trans hb.output, Nat.le_trans hb.size hgr.size, fun k hk => (hgr.block k (Nat.lt_of_lt_of_le (Nat.lt_of_lt_of_le hk hBW) hb.size) (fun e => by have := (ho.lt k e.symm).1; omega)).trans (hb.block k (Nat.lt_of_lt_of_le hk hBW))⟩

theorem sep_take {B : Nat} {W : World} {l : List Ast} (h : Sep B W l) (l' : List Ast) (hs : l'.Sublist l) : Sep B W l' := ⟨fun A hA => h.1 A (hs.subset hA), h.2.sublist hs⟩

theorem sep_perm {B : Nat} {W : World} {l l' : List Ast} (h : Sep B W l) (hp : l.Perm l') : Sep B W l' :=
  ⟨fun A hA => h.1 A (hp.mem_iff.2 hA), (hp.pairwise_iff (fun hd k ha hb => hd k hb ha)).1 h.2⟩
end Go.Proofs.Ytmmepgincbngeaa
