/-
  A node that grows in a variable of its own, row by row: what stays and what is new behind an append and a store. No function of the program.
-/
import Derived.Test.YtdcmpjefemcppaaDoorNode
import Derived.Test.YtdcmpjefemcppaaDoorPlain16
import Derived.Test.YtdcmpjefemcppaaDoorStepCall
import Derived.Test.YtdcmpjefemcppaaDoorDraw2
import Derived.Deep.AppendLies
namespace Go.Proofs.YtdcmpjefemcppaaDoor
open Go.RowKit

/-- a node in the variable at block gn, its rows in memory behind it -/
def NSt (w : World) (gn : Nat) (n : Nd) (v1 v2 v3 : Value) : Prop :=
  w.heap[gn]? = some (.cells #[.bool n.lf, v1, v2, v3] 59 (0, 0)) ∧ w.ownsRow (gn + 1) 9 1 v1 n.ks.length (strs n.ks) ∧ w.ownsRow (gn + 1) 9 1 v2 n.vs.length (strs n.vs) ∧ w.ownsRow (gn + 1) 3 1 v3 n.cs.length (ints n.cs) ∧ ∀ k, v1.ownBlock = some k → v2.ownBlock ≠ some k

theorem nst_lt {w : World} {gn : Nat} {n : Nd} {v1 v2 v3 : Value} (h : NSt w gn n v1 v2 v3) : gn < w.heap.size := (Array.getElem?_eq_some_iff.1 h.1).1

theorem nst_grown {w w' : World} {g gn : Nat} {n : Nd} {v1 v2 v3 : Value} (h : NSt w gn n v1 v2 v3) (hg : w.grownBy w' (some g)) (hlt : g < gn) : NSt w' gn n v1 v2 v3 := by
  have hl := nst_lt h
  obtain ⟨h0, h1, h2, h3, h4⟩ := h
  refine ⟨(hg.block gn hl (fun e => by injection e with e; omega)).trans h0, h1.kept hg (Or.inr (fun e => by have := (h1.lt _ e).1; omega)), h2.kept hg (Or.inr (fun e => by have := (h2.lt _ e).1; omega)), h3.kept hg (Or.inr (fun e => by have := (h3.lt _ e).1; omega)), h4⟩

theorem nst_below {w w' : World} {gn : Nat} {n : Nd} {v1 v2 v3 : Value} (h : NSt w gn n v1 v2 v3) (hb : Below w.heap.size w w') : NSt w' gn n v1 v2 v3 := by
  have hl := nst_lt h
  obtain ⟨h0, h1, h2, h3, h4⟩ := h
  exact ⟨(hb.block gn hl).trans h0, own_stays h1 hb, own_stays h2 hb, own_stays h3 hb, h4⟩

theorem nst_node {w : World} {gn : Nat} {n : Nd} {v1 v2 v3 : Value} (h : NSt w gn n v1 v2 v3) : NodeOwn w (gn + 1) (.agg #[.bool n.lf, v1, v2, v3]) n.lf n.ks n.vs n.cs := ⟨v1, v2, v3, rfl, h.2.1, h.2.2.1, h.2.2.2.1, h.2.2.2.2⟩

/-- an append to a row that lies behind gn: the rest stays -/
theorem grown_high {a b c : World} {g : Nat} {r : Option Nat} (h : a.grownBy b (some g)) (k : b.grownBy c r) (hr : ∀ j, r = some j → a.heap.size ≤ j) : a.grownBy c (some g) :=
  ⟨k.os.trans h.os, k.tape.trans h.tape, k.output.trans h.output, Nat.le_trans h.size k.size, fun j hj hne => by
    rw [k.block j (Nat.lt_of_lt_of_le hj h.size) (fun e => by have := hr j e.symm; omega)]
    exact h.block j hj hne⟩

theorem str_snoc (l : List ByteArray) (x : ByteArray) : strs l ++ [.string x] = strs (l ++ [x]) := by simp [strs]

theorem int_snoc (l : List Int) (x : Int) : ints l ++ [.int .i64 x] = ints (l ++ [x]) := by simp [ints]

theorem one_new (w : World) (n : Nat) (hn : n = w.heap.size) (x : Value) (T : TypeId) : ∀ (j : Nat) (u : Value), [x][j]? = some u → (w.alloc (Obj.cells #[x] T)).cell? ((⟨n, 0, none⟩ : Addr).add j) = some u := by
  subst hn
  intro j u hj
  obtain rfl : j = 0 := by have := (List.getElem?_eq_some_iff.1 hj).1; simp at this; omega
  rw [Addr.add_lit, ← hj]
  exact (cell_at (heap_alloc_new w _) 0).1

theorem apart {u v : Value} (h : ∀ k, u.ownBlock = some k → v.ownBlock ≠ some k) : v.ownBlock = none ∨ v.ownBlock ≠ u.ownBlock := by
  cases hv : v.ownBlock with
  | none => exact Or.inl rfl
  | some k => exact Or.inr (fun e => h k e.symm hv)

theorem away {u : Value} {gn : Nat} (h : ∀ k, u.ownBlock = some k → gn < k) : some gn ≠ u.ownBlock := fun e => by have := h gn e.symm; omega

theorem nst_key {w w' : World} {gn b cap : Nat} {n : Nd} {v1 v2 v3 : Value} {x : ByteArray} (h : NSt w gn n v1 v2 v3) (hown : w'.ownsRow (gn + 1) 9 1 (.slice (some ⟨b, 0, none⟩) (n.ks.length + 1) cap) (n.ks.length + 1) (strs n.ks ++ [.string x])) (hg : w.grownBy w' v1.ownBlock) (hb : v1.ownBlock = some b ∨ b = w.heap.size) :
    NSt (w'.setCell ⟨gn, 1, none⟩ (.slice (some ⟨b, 0, none⟩) (n.ks.length + 1) cap)) gn ⟨n.lf, n.ks ++ [x], n.vs, n.cs⟩ (.slice (some ⟨b, 0, none⟩) (n.ks.length + 1) cap) v2 v3 := by
  have hl := nst_lt h
  obtain ⟨h0, h1, h2, h3, h4⟩ := h
  have hgn : w'.heap[gn]? = _ := (hg.block gn hl (away (fun k e => by have := (h1.lt k e).1; omega))).trans h0
  have hs := grown_setCell w' gn 1 (.slice (some ⟨b, 0, none⟩) (n.ks.length + 1) cap)
  have k2 := h2.kept hg (apart h4)
  have k3 := h3.kept hg (apart (fun k e => one_type h1 h3 Tryd.str_int k e))
  refine ⟨heap_setCell_same w' gn 1 _ _ _ hgn, ?_, k2.kept hs (Or.inr (fun e => by have := (h2.lt _ e).1; omega)), k3.kept hs (Or.inr (fun e => by have := (h3.lt _ e).1; omega)), ?_⟩
  · rw [List.length_append, ← str_snoc]
    exact hown.kept hs (Or.inr (fun e => by have := (hown.lt _ e).1; omega))
  · intro k e1 e2
    have e1 : b = k := Option.some.inj e1
    subst e1
    rcases hb with hb | hb
    · exact h4 b hb e2
    · have := (h2.lt b e2).2; omega

theorem nst_val {w w' : World} {gn b cap : Nat} {n : Nd} {v1 v2 v3 : Value} {x : ByteArray} (h : NSt w gn n v1 v2 v3) (hown : w'.ownsRow (gn + 1) 9 1 (.slice (some ⟨b, 0, none⟩) (n.vs.length + 1) cap) (n.vs.length + 1) (strs n.vs ++ [.string x])) (hg : w.grownBy w' v2.ownBlock) (hb : v2.ownBlock = some b ∨ b = w.heap.size) :
    NSt (w'.setCell ⟨gn, 2, none⟩ (.slice (some ⟨b, 0, none⟩) (n.vs.length + 1) cap)) gn ⟨n.lf, n.ks, n.vs ++ [x], n.cs⟩ v1 (.slice (some ⟨b, 0, none⟩) (n.vs.length + 1) cap) v3 := by
  have hl := nst_lt h
  obtain ⟨h0, h1, h2, h3, h4⟩ := h
  have hgn : w'.heap[gn]? = _ := (hg.block gn hl (away (fun k e => by have := (h2.lt k e).1; omega))).trans h0
  have hs := grown_setCell w' gn 2 (.slice (some ⟨b, 0, none⟩) (n.vs.length + 1) cap)
  have k1 := h1.kept hg (apart (fun k e e' => h4 k e' e))
  have k3 := h3.kept hg (apart (fun k e => one_type h2 h3 Tryd.str_int k e))
  refine ⟨heap_setCell_same w' gn 2 _ _ _ hgn, k1.kept hs (Or.inr (fun e => by have := (h1.lt _ e).1; omega)), ?_, k3.kept hs (Or.inr (fun e => by have := (h3.lt _ e).1; omega)), ?_⟩
  · rw [List.length_append, ← str_snoc]
    exact hown.kept hs (Or.inr (fun e => by have := (hown.lt _ e).1; omega))
  · intro k e1 e2
    have e2 : b = k := Option.some.inj e2
    subst e2
    rcases hb with hb | hb
    · exact h4 b e1 hb
    · have := (h1.lt b e1).2; omega

theorem nst_kid {w w' : World} {gn b cap : Nat} {n : Nd} {v1 v2 v3 : Value} {x : Int} (h : NSt w gn n v1 v2 v3) (hown : w'.ownsRow (gn + 1) 3 1 (.slice (some ⟨b, 0, none⟩) (n.cs.length + 1) cap) (n.cs.length + 1) (ints n.cs ++ [.int .i64 x])) (hg : w.grownBy w' v3.ownBlock) :
    NSt (w'.setCell ⟨gn, 3, none⟩ (.slice (some ⟨b, 0, none⟩) (n.cs.length + 1) cap)) gn ⟨n.lf, n.ks, n.vs, n.cs ++ [x]⟩ v1 v2 (.slice (some ⟨b, 0, none⟩) (n.cs.length + 1) cap) := by
  have hl := nst_lt h
  obtain ⟨h0, h1, h2, h3, h4⟩ := h
  have hgn : w'.heap[gn]? = _ := (hg.block gn hl (away (fun k e => by have := (h3.lt k e).1; omega))).trans h0
  have hs := grown_setCell w' gn 3 (.slice (some ⟨b, 0, none⟩) (n.cs.length + 1) cap)
  have k1 := h1.kept hg (apart (fun k e => one_type h3 h1 Tryd.str_int.symm k e))
  have k2 := h2.kept hg (apart (fun k e => one_type h3 h2 Tryd.str_int.symm k e))
  refine ⟨heap_setCell_same w' gn 3 _ _ _ hgn, k1.kept hs (Or.inr (fun e => by have := (h1.lt _ e).1; omega)), k2.kept hs (Or.inr (fun e => by have := (h2.lt _ e).1; omega)), ?_, h4⟩
  rw [List.length_append, ← int_snoc]
  exact hown.kept hs (Or.inr (fun e => by have := (hown.lt _ e).1; omega))

theorem key_step {w w' : World} {gn b cap : Nat} {n : Nd} {v1 v2 v3 : Value} {x : ByteArray} {o : Obj} (h : NSt w gn n v1 v2 v3) (hown : w'.ownsRow (gn + 1) 9 1 (.slice (some ⟨b, 0, none⟩) (n.ks.length + 1) cap) (n.ks.length + 1) (strs n.ks ++ [.string x])) (hg : (w.alloc o).grownBy w' v1.ownBlock) (hb : v1.ownBlock = some b ∨ b = (w.alloc o).heap.size) :
    NSt (w'.setCell ⟨gn, 1, none⟩ (.slice (some ⟨b, 0, none⟩) (n.ks.length + 1) cap)) gn ⟨n.lf, n.ks ++ [x], n.vs, n.cs⟩ (.slice (some ⟨b, 0, none⟩) (n.ks.length + 1) cap) v2 v3 ∧ Below gn w (w'.setCell ⟨gn, 1, none⟩ (.slice (some ⟨b, 0, none⟩) (n.ks.length + 1) cap)) ∧ w'.cell? ⟨gn, 1, none⟩ = some v1 ∧ w'.frozen? ⟨gn, 1, none⟩ = false := by
  have hl := nst_lt h
  have hba : Below w.heap.size w (w.alloc o) := (Below.refl _ _).alloc (Nat.le_refl _) _
  have hA := nst_below h hba
  have hlt := fun k e => (h.2.1.lt k e).1
  have cg : w'.heap[gn]? = _ := (hg.block gn (nst_lt hA) (away (fun k e => by have := hlt k e; omega))).trans hA.1
  refine ⟨nst_key hA hown hg hb, ?_, (cell_at cg 1).1, (cell_at cg 1).2⟩
  have h1 : Below gn w w' := ((Below.refl gn w).alloc (by omega) o).grown hg (by have := nst_lt hA; omega) (fun k e => by have := hlt k e; omega)
  exact h1.grown (grown_setCell w' gn 1 _) (by have := h1.size; omega) (fun k e => by injection e with e; omega)

theorem val_step {w w' : World} {gn b cap : Nat} {n : Nd} {v1 v2 v3 : Value} {x : ByteArray} {o : Obj} (h : NSt w gn n v1 v2 v3) (hown : w'.ownsRow (gn + 1) 9 1 (.slice (some ⟨b, 0, none⟩) (n.vs.length + 1) cap) (n.vs.length + 1) (strs n.vs ++ [.string x])) (hg : (w.alloc o).grownBy w' v2.ownBlock) (hb : v2.ownBlock = some b ∨ b = (w.alloc o).heap.size) :
    NSt (w'.setCell ⟨gn, 2, none⟩ (.slice (some ⟨b, 0, none⟩) (n.vs.length + 1) cap)) gn ⟨n.lf, n.ks, n.vs ++ [x], n.cs⟩ v1 (.slice (some ⟨b, 0, none⟩) (n.vs.length + 1) cap) v3 ∧ Below gn w (w'.setCell ⟨gn, 2, none⟩ (.slice (some ⟨b, 0, none⟩) (n.vs.length + 1) cap)) ∧ w'.cell? ⟨gn, 2, none⟩ = some v2 ∧ w'.frozen? ⟨gn, 2, none⟩ = false := by
  have hl := nst_lt h
  have hba : Below w.heap.size w (w.alloc o) := (Below.refl _ _).alloc (Nat.le_refl _) _
  have hA := nst_below h hba
  have hlt := fun k e => (h.2.2.1.lt k e).1
  have cg : w'.heap[gn]? = _ := (hg.block gn (nst_lt hA) (away (fun k e => by have := hlt k e; omega))).trans hA.1
  refine ⟨nst_val hA hown hg hb, ?_, (cell_at cg 2).1, (cell_at cg 2).2⟩
  have h1 : Below gn w w' := ((Below.refl gn w).alloc (by omega) o).grown hg (by have := nst_lt hA; omega) (fun k e => by have := hlt k e; omega)
  exact h1.grown (grown_setCell w' gn 2 _) (by have := h1.size; omega) (fun k e => by injection e with e; omega)

theorem kid_step {w w' : World} {gn b cap : Nat} {n : Nd} {v1 v2 v3 : Value} {x : Int} {o : Obj} (h : NSt w gn n v1 v2 v3) (hown : w'.ownsRow (gn + 1) 3 1 (.slice (some ⟨b, 0, none⟩) (n.cs.length + 1) cap) (n.cs.length + 1) (ints n.cs ++ [.int .i64 x])) (hg : (w.alloc o).grownBy w' v3.ownBlock) (_hb : v3.ownBlock = some b ∨ b = (w.alloc o).heap.size) :
    NSt (w'.setCell ⟨gn, 3, none⟩ (.slice (some ⟨b, 0, none⟩) (n.cs.length + 1) cap)) gn ⟨n.lf, n.ks, n.vs, n.cs ++ [x]⟩ v1 v2 (.slice (some ⟨b, 0, none⟩) (n.cs.length + 1) cap) ∧ Below gn w (w'.setCell ⟨gn, 3, none⟩ (.slice (some ⟨b, 0, none⟩) (n.cs.length + 1) cap)) ∧ w'.cell? ⟨gn, 3, none⟩ = some v3 ∧ w'.frozen? ⟨gn, 3, none⟩ = false := by
  have hl := nst_lt h
  have hba : Below w.heap.size w (w.alloc o) := (Below.refl _ _).alloc (Nat.le_refl _) _
  have hA := nst_below h hba
  have hlt := fun k e => (h.2.2.2.1.lt k e).1
  have cg : w'.heap[gn]? = _ := (hg.block gn (nst_lt hA) (away (fun k e => by have := hlt k e; omega))).trans hA.1
  refine ⟨nst_kid hA hown hg, ?_, (cell_at cg 3).1, (cell_at cg 3).2⟩
  have h1 : Below gn w w' := ((Below.refl gn w).alloc (by omega) o).grown hg (by have := nst_lt hA; omega) (fun k e => by have := hlt k e; omega)
  exact h1.grown (grown_setCell w' gn 3 _) (by have := h1.size; omega) (fun k e => by injection e with e; omega)

theorem grown_low {a b c : World} {g gn : Nat} (h : a.grownBy b (some g)) (k : Below gn b c) (hle : a.heap.size ≤ gn) : a.grownBy c (some g) :=
  ⟨k.os.trans h.os, k.tape.trans h.tape, k.output.trans h.output, Nat.le_trans h.size k.size, fun j hj hne => by
    rw [k.block j (by omega)]
    exact h.block j hj hne⟩

/-- a node stored into another variable -/
theorem ret_node {w : World} {a B : Nat} {lf : Bool} {v1 v2 v3 c0 c1 c2 c3 : Value} {ks vs : List ByteArray} {cs : List Int} (hq : w.heap[a]? = some (.cells #[c0, c1, c2, c3] 59 (0, 0))) (hn : NodeOwn w B (.agg #[.bool lf, v1, v2, v3]) lf ks vs cs) (hlt : a < B) :
    ((((w.setCell ⟨a, 0, none⟩ (.bool lf)).setCell ⟨a, 1, none⟩ v1).setCell ⟨a, 2, none⟩ v2).setCell ⟨a, 3, none⟩ v3).heap[a]? = some (.cells #[.bool lf, v1, v2, v3] 59 (0, 0)) ∧
    NodeOwn ((((w.setCell ⟨a, 0, none⟩ (.bool lf)).setCell ⟨a, 1, none⟩ v1).setCell ⟨a, 2, none⟩ v2).setCell ⟨a, 3, none⟩ v3) B (.agg #[.bool lf, v1, v2, v3]) lf ks vs cs ∧
    Below a w ((((w.setCell ⟨a, 0, none⟩ (.bool lf)).setCell ⟨a, 1, none⟩ v1).setCell ⟨a, 2, none⟩ v2).setCell ⟨a, 3, none⟩ v3) := by
  have hal : a < w.heap.size := (Array.getElem?_eq_some_iff.1 hq).1
  have g1 := grown_trans (grown_trans (grown_trans (grown_setCell w a 0 (.bool lf)) (grown_setCell _ a 1 v1)) (grown_setCell _ a 2 v2)) (grown_setCell _ a 3 v3)
  refine ⟨heap_setCell_same _ a 3 _ _ _ (heap_setCell_same _ a 2 _ _ _ (heap_setCell_same _ a 1 _ _ _ (heap_setCell_same w a 0 _ _ _ hq))), ?_, (Below.refl a w).grown g1 (by omega) (fun k e => by injection e with e; omega)⟩
  obtain ⟨u1, u2, u3, e, h1, h2, h3, h4⟩ := hn
  obtain ⟨-, rfl, rfl, rfl⟩ := agg4 e
  exact ⟨_, _, _, rfl, h1.kept g1 (Or.inr (fun e => by have := (h1.lt _ e).1; omega)), h2.kept g1 (Or.inr (fun e => by have := (h2.lt _ e).1; omega)), h3.kept g1 (Or.inr (fun e => by have := (h3.lt _ e).1; omega)), h4⟩

theorem nodeOwn_down {w : World} {B B' : Nat} {v : Value} {lf : Bool} {ks vs : List ByteArray} {cs : List Int} (h : NodeOwn w B v lf ks vs cs) (hb : B' ≤ B) : NodeOwn w B' v lf ks vs cs := by
  obtain ⟨u1, u2, u3, e, h1, h2, h3, h4⟩ := h
  exact ⟨u1, u2, u3, e, own_down h1 hb, own_down h2 hb, own_down h3 hb, h4⟩
end Go.Proofs.YtdcmpjefemcppaaDoor
