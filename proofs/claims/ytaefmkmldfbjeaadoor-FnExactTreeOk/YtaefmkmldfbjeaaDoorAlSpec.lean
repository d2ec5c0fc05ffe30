/-
  What is met in a tree (spec.l07All) behind a pointer: three lists and two flags, and how each of them grows. No function of the program.
-/
import Derived.Test.YtaefmkmldfbjeaaDoorPlJ
import Derived.Test.YtaefmkmldfbjeaaDoorNode
import Derived.Test.YtaefmkmldfbjeaaDoorRangeSep
namespace Go.Proofs.YtaefmkmldfbjeaaDoor
open Go.RowKit

/-- a row of pairs -/
def prs (l : List (ByteArray × ByteArray)) : List Value := l.flatMap fun p => [.string p.1, .string p.2]

theorem prs_snoc (l : List (ByteArray × ByteArray)) (k v : ByteArray) : prs l ++ [.string k, .string v] = prs (l ++ [(k, v)]) := by simp [prs]

theorem prs_length (l : List (ByteArray × ByteArray)) : (prs l).length = l.length * 2 := by
  induction l with
  | nil => rfl
  | cons p l ih => simp only [prs, List.flatMap_cons, List.length_append, List.length_cons, List.length_nil] at ih ⊢; omega

theorem ints_snoc (l : List Int) (x : Int) : ints l ++ [.int .i64 x] = ints (l ++ [x]) := by simp [ints]

/-- what was met, behind ga -/
def AlIs (W : World) (ga : Nat) (a : Al) (vp vg vd : Value) : Prop :=
  W.heap[ga]? = some (.cells #[vp, vg, vd, .bool a.bad, .bool a.loose] 41 (0, 0)) ∧ W.ownsRow (ga + 1) 43 2 vp a.pairs.length (prs a.pairs) ∧ W.ownsRow (ga + 1) 3 1 vg a.pages.length (ints a.pages) ∧ W.ownsRow (ga + 1) 3 1 vd a.depths.length (ints a.depths) ∧ (∀ k, vg.ownBlock = some k → vd.ownBlock ≠ some k)

/-- its blocks -/
def AlF (ga : Nat) (vp vg vd : Value) (k : Nat) : Prop := k = ga ∨ vp.ownBlock = some k ∨ vg.ownBlock = some k ∨ vd.ownBlock = some k

theorem al_lt {W : World} {ga : Nat} {a : Al} {vp vg vd : Value} (h : AlIs W ga a vp vg vd) : ∀ k, AlF ga vp vg vd k → ga ≤ k ∧ k < W.heap.size := by
  obtain ⟨h1, h2, h3, h4, -⟩ := h
  rintro k (rfl | hk | hk | hk)
  · exact ⟨Nat.le_refl _, (Array.getElem?_eq_some_iff.1 h1).1⟩
  · have := h2.lt k hk; omega
  · have := h3.lt k hk; omega
  · have := h4.lt k hk; omega

theorem Tryd.pair_int : (43 : Nat) ≠ 3 := by decide

theorem al_kept {W W' : World} {ga : Nat} {a : Al} {vp vg vd : Value} {S : Nat → Prop} (h : AlIs W ga a vp vg vd) (hk : Kept W W' S) (hS : ∀ k, AlF ga vp vg vd k → ¬ S k) : AlIs W' ga a vp vg vd := by
  obtain ⟨h1, h2, h3, h4, h5⟩ := h
  exact ⟨(hk.2.2.2.2 ga (Array.getElem?_eq_some_iff.1 h1).1 (hS ga (Or.inl rfl))).trans h1, own_kept h2 hk (fun k e => hS k (Or.inr (Or.inl e))), own_kept h3 hk (fun k e => hS k (Or.inr (Or.inr (Or.inl e)))), own_kept h4 hk (fun k e => hS k (Or.inr (Or.inr (Or.inr e)))), h5⟩

theorem al_below {W W' : World} {ga : Nat} {a : Al} {vp vg vd : Value} (h : AlIs W ga a vp vg vd) (hb : Below W.heap.size W W') : AlIs W' ga a vp vg vd := al_kept h (kept_of_all hb (fun _ => False)) (fun _ _ h => h)

theorem al_bad {W : World} {ga : Nat} {a : Al} {vp vg vd : Value} (h : AlIs W ga a vp vg vd) (b : Bool) : AlIs (W.setCell ⟨ga, 3, none⟩ (.bool b)) ga { a with bad := b } vp vg vd := by
  obtain ⟨h1, h2, h3, h4, h5⟩ := h
  have hk := kept_setCell W ga 3 (.bool b)
  refine ⟨heap_setCell_same _ ga 3 _ _ _ h1, own_kept h2 hk (fun k e => ?_), own_kept h3 hk (fun k e => ?_), own_kept h4 hk (fun k e => ?_), h5⟩
  · have := (h2.lt k e).1; omega
  · have := (h3.lt k e).1; omega
  · have := (h4.lt k e).1; omega

theorem al_loose {W : World} {ga : Nat} {a : Al} {vp vg vd : Value} (h : AlIs W ga a vp vg vd) (b : Bool) : AlIs (W.setCell ⟨ga, 4, none⟩ (.bool b)) ga { a with loose := b } vp vg vd := by
  obtain ⟨h1, h2, h3, h4, h5⟩ := h
  have hk := kept_setCell W ga 4 (.bool b)
  refine ⟨heap_setCell_same _ ga 4 _ _ _ h1, own_kept h2 hk (fun k e => ?_), own_kept h3 hk (fun k e => ?_), own_kept h4 hk (fun k e => ?_), h5⟩
  · have := (h2.lt k e).1; omega
  · have := (h3.lt k e).1; omega
  · have := (h4.lt k e).1; omega

theorem kept_app {W w' : World} {o : Obj} {v : Value} (hg : (W.alloc o).grownBy w' v.ownBlock) : Kept W w' (fun k => v.ownBlock = some k) :=
  ⟨hg.os, hg.tape, hg.output, Nat.le_trans (by simp) hg.size, fun k hk hn => (hg.block k (by simp; omega) (fun e => hn e.symm)).trans (heap_alloc_old W o hk)⟩

theorem al_page {W w' : World} {ga b cap : Nat} {a : Al} {vp vg vd : Value} {p : Int} {o : Obj} (h : AlIs W ga a vp vg vd) (hown : w'.ownsRow (ga + 1) 3 1 (.slice (some ⟨b, 0, none⟩) (a.pages.length + 1) cap) (a.pages.length + 1) (ints a.pages ++ [.int .i64 p])) (hg : (W.alloc o).grownBy w' vg.ownBlock) (hb : vg.ownBlock = some b ∨ b = W.heap.size + 1) :
    AlIs (w'.setCell ⟨ga, 1, none⟩ (.slice (some ⟨b, 0, none⟩) (a.pages.length + 1) cap)) ga { a with pages := a.pages ++ [p] } vp (.slice (some ⟨b, 0, none⟩) (a.pages.length + 1) cap) vd ∧
    KeptC (AlF ga vp vg vd) W (w'.setCell ⟨ga, 1, none⟩ (.slice (some ⟨b, 0, none⟩) (a.pages.length + 1) cap)) ∧ (∀ k, AlF ga vp (.slice (some ⟨b, 0, none⟩) (a.pages.length + 1) cap) vd k → AlF ga vp vg vd k ∨ W.heap.size ≤ k) ∧
    w'.cell? ⟨ga, 1, none⟩ = some vg ∧ w'.frozen? ⟨ga, 1, none⟩ = false := by
  obtain ⟨h1, h2, h3, h4, h5⟩ := h
  have k1 : Kept W w' (fun k => vg.ownBlock = some k) := kept_app hg
  have hga : ga < W.heap.size := (Array.getElem?_eq_some_iff.1 h1).1
  have g1 := (k1.2.2.2.2 ga hga (fun e => by have := (h3.lt ga e).1; omega)).trans h1
  have k2 := kept_setCell w' ga 1 (.slice (some ⟨b, 0, none⟩) (a.pages.length + 1) cap)
  have hbe := hb
  refine ⟨⟨heap_setCell_same _ ga 1 _ _ _ g1, own_kept (own_kept h2 k1 (fun k e => one_type h2 h3 Tryd.pair_int k e)) k2 (fun k e => by have := (h2.lt k e).1; omega), ?_, own_kept (own_kept h4 k1 (fun k e e2 => h5 k e2 e)) k2 (fun k e => by have := (h4.lt k e).1; omega), fun k e => ?_⟩, ?_, fun k hk => ?_, (cell_at g1 1).1, (cell_at g1 1).2⟩
  · have ho := own_kept hown k2 (fun k e => by have := (hown.lt k e).1; omega)
    rw [ints_snoc] at ho
    rw [List.length_append, List.length_singleton]
    exact ho
  · injection e with e
    have e : b = k := e
    subst e
    rcases hbe with e2 | e2
    · exact h5 b e2
    · intro e3
      have := (h4.lt b e3).2
      omega
  · refine keptC_trans (C := AlF ga vp vg vd) (C' := fun k => k = ga) ⟨k1.1, k1.2.1, k1.2.2.1, k1.2.2.2.1, fun k hk hn => k1.2.2.2.2 k hk (fun e => hn (Or.inr (Or.inr (Or.inl e))))⟩ k2 (fun j e => Or.inl (Or.inl e))
  · rcases hk with hk | hk | hk | hk
    · exact Or.inl (Or.inl hk)
    · exact Or.inl (Or.inr (Or.inl hk))
    · injection hk with hk
      have hk : b = k := hk
      subst hk
      rcases hbe with e2 | e2
      · exact Or.inl (Or.inr (Or.inr (Or.inl e2)))
      · exact Or.inr (by omega)
    · exact Or.inl (Or.inr (Or.inr (Or.inr hk)))

theorem al_depth {W w' : World} {ga b cap : Nat} {a : Al} {vp vg vd : Value} {p : Int} {o : Obj} (h : AlIs W ga a vp vg vd) (hown : w'.ownsRow (ga + 1) 3 1 (.slice (some ⟨b, 0, none⟩) (a.depths.length + 1) cap) (a.depths.length + 1) (ints a.depths ++ [.int .i64 p])) (hg : (W.alloc o).grownBy w' vd.ownBlock) (hb : vd.ownBlock = some b ∨ b = W.heap.size + 1) :
    AlIs (w'.setCell ⟨ga, 2, none⟩ (.slice (some ⟨b, 0, none⟩) (a.depths.length + 1) cap)) ga { a with depths := a.depths ++ [p] } vp vg (.slice (some ⟨b, 0, none⟩) (a.depths.length + 1) cap) ∧
    KeptC (AlF ga vp vg vd) W (w'.setCell ⟨ga, 2, none⟩ (.slice (some ⟨b, 0, none⟩) (a.depths.length + 1) cap)) ∧ (∀ k, AlF ga vp vg (.slice (some ⟨b, 0, none⟩) (a.depths.length + 1) cap) k → AlF ga vp vg vd k ∨ W.heap.size ≤ k) ∧
    w'.cell? ⟨ga, 2, none⟩ = some vd ∧ w'.frozen? ⟨ga, 2, none⟩ = false := by
  obtain ⟨h1, h2, h3, h4, h5⟩ := h
  have k1 : Kept W w' (fun k => vd.ownBlock = some k) := kept_app hg
  have hga : ga < W.heap.size := (Array.getElem?_eq_some_iff.1 h1).1
  have g1 := (k1.2.2.2.2 ga hga (fun e => by have := (h4.lt ga e).1; omega)).trans h1
  have k2 := kept_setCell w' ga 2 (.slice (some ⟨b, 0, none⟩) (a.depths.length + 1) cap)
  have hbe := hb
  refine ⟨⟨heap_setCell_same _ ga 2 _ _ _ g1, own_kept (own_kept h2 k1 (fun k e => one_type h2 h4 Tryd.pair_int k e)) k2 (fun k e => by have := (h2.lt k e).1; omega), own_kept (own_kept h3 k1 (fun k e e2 => h5 k e e2)) k2 (fun k e => by have := (h3.lt k e).1; omega), ?_, fun k e e3 => ?_⟩, ?_, fun k hk => ?_, (cell_at g1 2).1, (cell_at g1 2).2⟩
  · have ho := own_kept hown k2 (fun k e => by have := (hown.lt k e).1; omega)
    rw [ints_snoc] at ho
    rw [List.length_append, List.length_singleton]
    exact ho
  · injection e3 with e3
    have e3 : b = k := e3
    subst e3
    rcases hbe with e2 | e2
    · exact h5 b e e2
    · have := (h3.lt b e).2
      omega
  · refine keptC_trans (C := AlF ga vp vg vd) (C' := fun k => k = ga) ⟨k1.1, k1.2.1, k1.2.2.1, k1.2.2.2.1, fun k hk hn => k1.2.2.2.2 k hk (fun e => hn (Or.inr (Or.inr (Or.inr e))))⟩ k2 (fun j e => Or.inl (Or.inl e))
  · rcases hk with hk | hk | hk | hk
    · exact Or.inl (Or.inl hk)
    · exact Or.inl (Or.inr (Or.inl hk))
    · exact Or.inl (Or.inr (Or.inr (Or.inl hk)))
    · injection hk with hk
      have hk : b = k := hk
      subst hk
      rcases hbe with e2 | e2
      · exact Or.inl (Or.inr (Or.inr (Or.inr e2)))
      · exact Or.inr (by omega)

theorem al_pair {W w' : World} {ga b cap : Nat} {a : Al} {vp vg vd : Value} {x y : ByteArray} {o : Obj} (h : AlIs W ga a vp vg vd) (hown : w'.ownsRow (ga + 1) 43 2 (.slice (some ⟨b, 0, none⟩) (a.pairs.length + 1) cap) (a.pairs.length + 1) (prs a.pairs ++ [.string x, .string y])) (hg : (W.alloc o).grownBy w' vp.ownBlock) (hb : vp.ownBlock = some b ∨ b = W.heap.size + 1) :
    AlIs (w'.setCell ⟨ga, 0, none⟩ (.slice (some ⟨b, 0, none⟩) (a.pairs.length + 1) cap)) ga { a with pairs := a.pairs ++ [(x, y)] } (.slice (some ⟨b, 0, none⟩) (a.pairs.length + 1) cap) vg vd ∧
    KeptC (AlF ga vp vg vd) W (w'.setCell ⟨ga, 0, none⟩ (.slice (some ⟨b, 0, none⟩) (a.pairs.length + 1) cap)) ∧ (∀ k, AlF ga (.slice (some ⟨b, 0, none⟩) (a.pairs.length + 1) cap) vg vd k → AlF ga vp vg vd k ∨ W.heap.size ≤ k) ∧
    w'.cell? ⟨ga, 0, none⟩ = some vp ∧ w'.frozen? ⟨ga, 0, none⟩ = false := by
  obtain ⟨h1, h2, h3, h4, h5⟩ := h
  have k1 : Kept W w' (fun k => vp.ownBlock = some k) := kept_app hg
  have hga : ga < W.heap.size := (Array.getElem?_eq_some_iff.1 h1).1
  have g1 := (k1.2.2.2.2 ga hga (fun e => by have := (h2.lt ga e).1; omega)).trans h1
  have k2 := kept_setCell w' ga 0 (.slice (some ⟨b, 0, none⟩) (a.pairs.length + 1) cap)
  have hbe := hb
  refine ⟨⟨heap_setCell_same _ ga 0 _ _ _ g1, ?_, own_kept (own_kept h3 k1 (fun k e => one_type h3 h2 (Ne.symm Tryd.pair_int) k e)) k2 (fun k e => by have := (h3.lt k e).1; omega), own_kept (own_kept h4 k1 (fun k e => one_type h4 h2 (Ne.symm Tryd.pair_int) k e)) k2 (fun k e => by have := (h4.lt k e).1; omega), h5⟩, ?_, fun k hk => ?_, (cell_at g1 0).1, (cell_at g1 0).2⟩
  · have ho := own_kept hown k2 (fun k e => by have := (hown.lt k e).1; omega)
    rw [prs_snoc] at ho
    rw [List.length_append, List.length_singleton]
    exact ho
  · refine keptC_trans (C := AlF ga vp vg vd) (C' := fun k => k = ga) ⟨k1.1, k1.2.1, k1.2.2.1, k1.2.2.2.1, fun k hk hn => k1.2.2.2.2 k hk (fun e => hn (Or.inr (Or.inl e)))⟩ k2 (fun j e => Or.inl (Or.inl e))
  · rcases hk with hk | hk | hk | hk
    · exact Or.inl (Or.inl hk)
    · injection hk with hk
      have hk : b = k := hk
      subst hk
      rcases hbe with e2 | e2
      · exact Or.inl (Or.inr (Or.inl e2))
      · exact Or.inr (by omega)
    · exact Or.inl (Or.inr (Or.inr (Or.inl hk)))
    · exact Or.inl (Or.inr (Or.inr (Or.inr hk)))
end Go.Proofs.YtaefmkmldfbjeaaDoor
