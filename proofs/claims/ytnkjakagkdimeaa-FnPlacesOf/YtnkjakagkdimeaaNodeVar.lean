/-
  A node in a variable of its own whose rows lie wherever: its flag turned, the first of a row turned, a key appended. No function of the program.
-/
import Derived.Test.YtnkjakagkdimeaaNodeGrow
namespace Go.Proofs.Ytnkjakagkdimeaa
open Go.RowKit

/-- a row is no node's variable -/
theorem row_not_var {w : World} {B e n gn : Nat} {v : Value} {xs : List Value} {cs : Array Value} (h : w.ownsRow B e 1 v n xs) (hq : w.heap[gn]? = some (.cells cs 27 (0, 0))) (he : e ≠ 27) : v.ownBlock ≠ some gn := by
  intro h1
  rcases h.2 with ⟨rfl, -⟩ | ⟨g, cap, cur, rfl, -, hh, -⟩
  · cases h1
  · have h1 : g = gn := Option.some.inj h1
    subst h1
    rw [hh] at hq
    injection hq with hq
    injection hq with _ hq _
    exact he hq

theorem Try.str_node : (9 : Nat) ≠ 27 := by decide

theorem Try.int_node : (3 : Nat) ≠ 27 := by decide

/-- a node in the variable at block gn, its rows in memory from B on -/
def NVar (w : World) (gn B : Nat) (n : Nd) (v1 v2 v3 : Value) : Prop :=
  w.heap[gn]? = some (.cells #[.bool n.lf, v1, v2, v3] 27 (0, 0)) ∧ NodeOwn w B (.agg #[.bool n.lf, v1, v2, v3]) n.lf n.ks n.vs n.cs

theorem nvar_rows {w : World} {gn B : Nat} {n : Nd} {v1 v2 v3 : Value} (h : NVar w gn B n v1 v2 v3) : w.ownsRow B 9 1 v1 n.ks.length (strs n.ks) ∧ w.ownsRow B 9 1 v2 n.vs.length (strs n.vs) ∧ w.ownsRow B 3 1 v3 n.cs.length (ints n.cs) ∧ ∀ k, v1.ownBlock = some k → v2.ownBlock ≠ some k := by
  obtain ⟨-, u1, u2, u3, e, h1, h2, h3, h4⟩ := h
  obtain ⟨-, rfl, rfl, rfl⟩ := agg4 e
  exact ⟨h1, h2, h3, h4⟩

theorem nvar_mk {w : World} {gn B : Nat} {n : Nd} {v1 v2 v3 : Value} (h0 : w.heap[gn]? = some (.cells #[.bool n.lf, v1, v2, v3] 27 (0, 0))) (h1 : w.ownsRow B 9 1 v1 n.ks.length (strs n.ks)) (h2 : w.ownsRow B 9 1 v2 n.vs.length (strs n.vs)) (h3 : w.ownsRow B 3 1 v3 n.cs.length (ints n.cs)) (h4 : ∀ k, v1.ownBlock = some k → v2.ownBlock ≠ some k) : NVar w gn B n v1 v2 v3 := ⟨h0, _, _, _, rfl, h1, h2, h3, h4⟩

theorem nvar_grown {w w' : World} {g gn B : Nat} {n : Nd} {v1 v2 v3 : Value} (h : NVar w gn B n v1 v2 v3) (hg : w.grownBy w' (some g)) (hne : gn ≠ g) (hlt : g < B) : NVar w' gn B n v1 v2 v3 := by
  obtain ⟨h1, h2, h3, h4⟩ := nvar_rows h
  exact nvar_mk ((hg.block gn (Array.getElem?_eq_some_iff.1 h.1).1 (fun e => by injection e with e; exact hne e)).trans h.1) (h1.kept hg (Or.inr (fun e => by have := (h1.lt _ e).1; omega))) (h2.kept hg (Or.inr (fun e => by have := (h2.lt _ e).1; omega))) (h3.kept hg (Or.inr (fun e => by have := (h3.lt _ e).1; omega))) h4

theorem nvar_below {w w' : World} {gn B : Nat} {n : Nd} {v1 v2 v3 : Value} (h : NVar w gn B n v1 v2 v3) (hb : Below w.heap.size w w') : NVar w' gn B n v1 v2 v3 :=
  ⟨(hb.block gn (Array.getElem?_eq_some_iff.1 h.1).1).trans h.1, nodeOwn_below h.2 hb⟩

/-- the flag turned -/
theorem nvar_flag {w : World} {gn B : Nat} {n : Nd} {v1 v2 v3 : Value} (h : NVar w gn B n v1 v2 v3) (b : Bool) : NVar (w.setCell ⟨gn, 0, none⟩ (.bool b)) gn B ⟨b, n.ks, n.vs, n.cs⟩ v1 v2 v3 := by
  obtain ⟨h1, h2, h3, h4⟩ := nvar_rows h
  have hs := grown_setCell w gn 0 (.bool b)
  exact nvar_mk (heap_setCell_same w gn 0 _ _ _ h.1) (h1.kept hs (Or.inr (row_not_var h1 h.1 Try.str_node))) (h2.kept hs (Or.inr (row_not_var h2 h.1 Try.str_node))) (h3.kept hs (Or.inr (row_not_var h3 h.1 Try.int_node))) h4

theorem strs_set2 (l : List ByteArray) (k : Nat) (x : ByteArray) : (strs l).set k (.string x) = strs (l.set k x) := by simp [strs, List.map_set]

theorem ints_set2 (l : List Int) (k : Nat) (x : Int) : (ints l).set k (.int .i64 x) = ints (l.set k x) := by simp [ints, List.map_set]

/-- the first key turned -/
theorem nvar_key0 {w : World} {gn B b c : Nat} {n : Nd} {v2 v3 : Value} (h : NVar w gn B n (.slice (some ⟨b, 0, none⟩) n.ks.length c) v2 v3) (x : ByteArray) : NVar (w.setCell ⟨b, 0, none⟩ (.string x)) gn B ⟨n.lf, n.ks.set 0 x, n.vs, n.cs⟩ (.slice (some ⟨b, 0, none⟩) n.ks.length c) v2 v3 := by
  obtain ⟨h1, h2, h3, h4⟩ := nvar_rows h
  have hs := grown_setCell w b 0 (.string x)
  have hne : some gn ≠ some b := fun e => row_not_var h1 h.1 Try.str_node (by injection e with e; rw [e]; rfl)
  refine nvar_mk ((hs.block gn (Array.getElem?_eq_some_iff.1 h.1).1 hne).trans h.1) ?_ (h2.kept hs (Or.inr (fun e => h4 b rfl e))) (h3.kept hs (Or.inr (one_type h1 h3 Try.str_int b rfl))) h4
  have o3 := (h1.stored 0 (.string x)).1
  rw [strs_set2] at o3
  rw [List.length_set]
  exact o3

/-- the first value turned -/
theorem nvar_val0 {w : World} {gn B b c : Nat} {n : Nd} {v1 v3 : Value} (h : NVar w gn B n v1 (.slice (some ⟨b, 0, none⟩) n.vs.length c) v3) (x : ByteArray) : NVar (w.setCell ⟨b, 0, none⟩ (.string x)) gn B ⟨n.lf, n.ks, n.vs.set 0 x, n.cs⟩ v1 (.slice (some ⟨b, 0, none⟩) n.vs.length c) v3 := by
  obtain ⟨h1, h2, h3, h4⟩ := nvar_rows h
  have hs := grown_setCell w b 0 (.string x)
  have hne : some gn ≠ some b := fun e => row_not_var h2 h.1 Try.str_node (by injection e with e; rw [e]; rfl)
  refine nvar_mk ((hs.block gn (Array.getElem?_eq_some_iff.1 h.1).1 hne).trans h.1) (h1.kept hs (Or.inr (fun e => h4 b e rfl))) ?_ (h3.kept hs (Or.inr (one_type h2 h3 Try.str_int b rfl))) h4
  have o3 := (h2.stored 0 (.string x)).1
  rw [strs_set2] at o3
  rw [List.length_set]
  exact o3

/-- the first kid turned -/
theorem nvar_kid0 {w : World} {gn B b c : Nat} {n : Nd} {v1 v2 : Value} (h : NVar w gn B n v1 v2 (.slice (some ⟨b, 0, none⟩) n.cs.length c)) (x : Int) : NVar (w.setCell ⟨b, 0, none⟩ (.int .i64 x)) gn B ⟨n.lf, n.ks, n.vs, n.cs.set 0 x⟩ v1 v2 (.slice (some ⟨b, 0, none⟩) n.cs.length c) := by
  obtain ⟨h1, h2, h3, h4⟩ := nvar_rows h
  have hs := grown_setCell w b 0 (.int .i64 x)
  have hne : some gn ≠ some b := fun e => row_not_var h3 h.1 Try.int_node (by injection e with e; rw [e]; rfl)
  refine nvar_mk ((hs.block gn (Array.getElem?_eq_some_iff.1 h.1).1 hne).trans h.1) (h1.kept hs (Or.inr (one_type h3 h1 Try.str_int.symm b rfl))) (h2.kept hs (Or.inr (one_type h3 h2 Try.str_int.symm b rfl))) ?_ h4
  have o3 := (h3.stored 0 (.int .i64 x)).1
  rw [ints_set2] at o3
  rw [List.length_set]
  exact o3

/-- a key appended -/
theorem nvar_key {w w' : World} {gn B b cap : Nat} {n : Nd} {v1 v2 v3 : Value} {x : ByteArray} {o : Obj} (h : NVar w gn B n v1 v2 v3) (hown : w'.ownsRow B 9 1 (.slice (some ⟨b, 0, none⟩) (n.ks.length + 1) cap) (n.ks.length + 1) (strs n.ks ++ [.string x])) (hg : (w.alloc o).grownBy w' v1.ownBlock) (hb : v1.ownBlock = some b ∨ b = (w.alloc o).heap.size) :
    NVar (w'.setCell ⟨gn, 1, none⟩ (.slice (some ⟨b, 0, none⟩) (n.ks.length + 1) cap)) gn B ⟨n.lf, n.ks ++ [x], n.vs, n.cs⟩ (.slice (some ⟨b, 0, none⟩) (n.ks.length + 1) cap) v2 v3 ∧ w'.cell? ⟨gn, 1, none⟩ = some v1 ∧ w'.frozen? ⟨gn, 1, none⟩ = false := by
  have hA := nvar_below h ((Below.refl _ _).alloc (Nat.le_refl _) o)
  obtain ⟨h1, h2, h3, h4⟩ := nvar_rows hA
  have hgn : w'.heap[gn]? = _ := (hg.block gn (Array.getElem?_eq_some_iff.1 hA.1).1 (fun e => row_not_var h1 hA.1 Try.str_node e.symm)).trans hA.1
  have hs := grown_setCell w' gn 1 (.slice (some ⟨b, 0, none⟩) (n.ks.length + 1) cap)
  have k2 := h2.kept hg (apart h4)
  have k3 := h3.kept hg (apart (fun k e => one_type h1 h3 Try.str_int k e))
  refine ⟨nvar_mk (heap_setCell_same w' gn 1 _ _ _ hgn) ?_ (k2.kept hs (Or.inr (row_not_var k2 hgn Try.str_node))) (k3.kept hs (Or.inr (row_not_var k3 hgn Try.int_node))) ?_, (cell_at hgn 1).1, (cell_at hgn 1).2⟩
  · rw [List.length_append, ← str_snoc]
    exact hown.kept hs (Or.inr (row_not_var hown hgn Try.str_node))
  · intro k e1 e2
    have e1 : b = k := Option.some.inj e1
    subst e1
    rcases hb with hb | hb
    · exact h4 b hb e2
    · have := (h2.lt b e2).2; omega
end Go.Proofs.Ytnkjakagkdimeaa
