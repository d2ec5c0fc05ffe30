/-
  A node among things that lie side by side; an append of a text. No function of the program.
-/
import Derived.Test.YtmmepgincbngeaaSepWork
import Derived.Test.YtmmepgincbngeaaNode
import Derived.Test.YtmmepgincbngeaaNodeGrow
namespace Go.Proofs.Ytmmepgincbngeaa
open Go.RowKit

def nodeA (B : Nat) (v : Value) (lf : Bool) (ks vs : List ByteArray) (cs : List Int) : Ast := ⟨nodeBlocks v, fun W => NodeOwn W B v lf ks vs cs, fun W W' h hk => by
  obtain ⟨vk, vv, vc, rfl, h1, h2, h3, h4⟩ := h
  exact ⟨vk, vv, vc, rfl, (rowA B 9 1 vk ks.length (strs ks)).loc W W' h1 (fun k e => hk k ⟨_, _, _, _, rfl, Or.inl e⟩), (rowA B 9 1 vv vs.length (strs vs)).loc W W' h2 (fun k e => hk k ⟨_, _, _, _, rfl, Or.inr (Or.inl e)⟩), (rowA B 3 1 vc cs.length (ints cs)).loc W W' h3 (fun k e => hk k ⟨_, _, _, _, rfl, Or.inr (Or.inr e)⟩), h4⟩⟩

theorem strs_snocN (l : List ByteArray) (x : ByteArray) : strs l ++ [.string x] = strs (l ++ [x]) := by simp [strs]

theorem strs_lenN (l : List ByteArray) : (strs l).length = l.length := by simp [strs]

theorem row_nS {W : World} {B e n : Nat} {v : Value} {l : List ByteArray} (h : W.ownsRow B e 1 v n (strs l)) : n = l.length := by
  have := h.1
  rw [strs_lenN] at this
  omega

/-- the rows of a node, their lengths as letters -/
abbrev nodeN (B : Nat) (v1 v2 v3 : Value) (ks vs : List ByteArray) (cs : List Int) (nk nv nc : Nat) : List Ast := [rowA B 9 1 v1 nk (strs ks), rowA B 9 1 v2 nv (strs vs), rowA B 3 1 v3 nc (ints cs)]

theorem sep_node {W : World} {B B' : Nat} {v1 v2 v3 : Value} {lf : Bool} {ks vs : List ByteArray} {cs : List Int} {nk nv nc : Nat} (h : Sep B W (nodeN B' v1 v2 v3 ks vs cs nk nv nc)) : NodeOwn W B' (.agg #[.bool lf, v1, v2, v3]) lf ks vs cs := by
  have h1 : W.ownsRow B' 9 1 v1 nk (strs ks) := sep_get h 0 rfl
  have h2 : W.ownsRow B' 9 1 v2 nv (strs vs) := sep_get h 1 rfl
  have h3 : W.ownsRow B' 3 1 v3 nc (ints cs) := sep_get h 2 rfl
  exact ⟨v1, v2, v3, rfl, by rw [← row_nS h1]; exact h1, by rw [← row_nS h2]; exact h2, by rw [← row_n h3]; exact h3, fun j => sep_apart h 0 1 rfl rfl (by decide) j⟩

theorem rowat_cellS {w wx : World} {n c b off : Nat} {l : List ByteArray} (h : RowAt w 1 (.slice (some ⟨b, off, none⟩) n c) n (strs l)) (hb : Below w.heap.size w wx) (i : Nat) (hi : i < n) (hn : n = l.length) : wx.cell? ⟨b, off + i, none⟩ = some (.string (l.getD i ⟨#[]⟩)) := by
  obtain ⟨-, a', cap, e, h⟩ := h
  injection e with e1 e2 e3
  subst e1
  rcases h with h0 | ⟨b', off', e, hlt, hc⟩
  · omega
  · injection e with e
    injection e with e e'
    subst e e'
    rw [hb.cell (by exact hlt), hc i (by omega)]
    simp [strs, List.getD_eq_getElem?_getD, show i < l.length by omega]

theorem blk4c {W : World} {g : Nat} {c0 c1 c2 c3 : Value} {t : TypeId} (h : W.heap[g]? = some (Obj.cells #[c0, c1, c2, c3] t)) :
    W.cell? ⟨g, 0, none⟩ = some c0 ∧ W.cell? ⟨g, 1, none⟩ = some c1 ∧ W.cell? ⟨g, 2, none⟩ = some c2 ∧ W.cell? ⟨g, 3, none⟩ = some c3 :=
  ⟨(cell_at h 0).1, (cell_at h 1).1, (cell_at h 2).1, (cell_at h 3).1⟩

theorem blk4z {W : World} {g : Nat} {c0 c1 c2 c3 : Value} {t : TypeId} (h : W.heap[g]? = some (Obj.cells #[c0, c1, c2, c3] t)) :
    W.frozen? ⟨g, 0, none⟩ = false ∧ W.frozen? ⟨g, 1, none⟩ = false ∧ W.frozen? ⟨g, 2, none⟩ = false ∧ W.frozen? ⟨g, 3, none⟩ = false :=
  ⟨(cell_at h 0).2, (cell_at h 1).2, (cell_at h 2).2, (cell_at h 3).2⟩

abbrev set4 (wr : World) (a : Nat) (u0 u1 u2 u3 : Value) : World := (((wr.setCell ⟨a, 0, none⟩ u0).setCell ⟨a, 1, none⟩ u1).setCell ⟨a, 2, none⟩ u2).setCell ⟨a, 3, none⟩ u3

/-- an answer that is a node: it is laid into the answer's variable -/
theorem ret_sepN {w wr : World} {b0 a1 B : Nat} {r0 r1 r2 r3 v1 v2 v3 : Value} {t : TypeId} {lf : Bool} {ks vs : List ByteArray} {cs : List Int} {nk nv nc : Nat} {l : List Ast} (h : Sep b0 wr l) (r : Nat) (hr : l[r]? = some (cellA a1 (Obj.cells #[r0, r1, r2, r3] t))) (hs : (nodeN B v1 v2 v3 ks vs cs nk nv nc).Sublist l) (hB : a1 < B) (hw : w.heap.size ≤ a1) (hb : Below w.heap.size w wr) :
    (set4 wr a1 (.bool lf) v1 v2 v3).heap[a1]? = some (Obj.cells #[.bool lf, v1, v2, v3] t) ∧ NodeOwn (set4 wr a1 (.bool lf) v1 v2 v3) w.heap.size (.agg #[.bool lf, v1, v2, v3]) lf ks vs cs ∧ Below w.heap.size w (set4 wr a1 (.bool lf) v1 v2 v3) := by
  have h1 := sep_get h r hr
  have hk : Kept wr (set4 wr a1 (.bool lf) v1 v2 v3) (fun k => k = a1) := kept_trans (kept_trans (kept_trans (kept_setCell _ _ _ _) (kept_setCell _ _ _ _) (fun _ _ h => h)) (kept_setCell _ _ _ _) (fun _ _ h => h)) (kept_setCell _ _ _ _) (fun _ _ h => h)
  have hN := sep_take h _ hs
  have hN2 : Sep b0 (set4 wr a1 (.bool lf) v1 v2 v3) (nodeN B v1 v2 v3 ks vs cs nk nv nc) := sep_kept hN hk (fun A hA k hF e => by
    have : B ≤ k := by
      rcases List.mem_cons.1 hA with rfl | hA
      · exact ((sep_get hN 0 rfl : wr.ownsRow B 9 1 v1 nk (strs ks)).lt k hF).1
      rcases List.mem_cons.1 hA with rfl | hA
      · exact ((sep_get hN 1 rfl : wr.ownsRow B 9 1 v2 nv (strs vs)).lt k hF).1
      rcases List.mem_cons.1 hA with rfl | hA
      · exact ((sep_get hN 2 rfl : wr.ownsRow B 3 1 v3 nc (ints cs)).lt k hF).1
      · cases hA
    omega)
  refine ⟨heap_setCell_same _ a1 3 _ _ _ (heap_setCell_same _ a1 2 _ _ _ (heap_setCell_same _ a1 1 _ _ _ (heap_setCell_same wr a1 0 _ _ _ h1))), ?_, hb.trans (below_of_kept hk hb.size (fun k e => by omega))⟩
  obtain ⟨x1, x2, x3, e, d1, d2, d3, d4⟩ := sep_node (lf := lf) hN2
  exact ⟨x1, x2, x3, e, own_down d1 (by omega), own_down d2 (by omega), own_down d3 (by omega), d4⟩

theorem node_formS {w : World} {B : Nat} {v : Value} {lf : Bool} {ks vs : List ByteArray} {cs : List Int} (h : NodeOwn w B v lf ks vs cs) : ∃ a1 c1 a2 c2 a3 c3, v = .agg #[.bool lf, .slice a1 ks.length c1, .slice a2 vs.length c2, .slice a3 cs.length c3] := by
  obtain ⟨v1, v2, v3, rfl, h1, h2, h3, -⟩ := h
  obtain ⟨a1, c1, rfl⟩ := own_slice h1
  obtain ⟨a2, c2, rfl⟩ := own_slice h2
  obtain ⟨a3, c3, rfl⟩ := own_slice h3
  exact ⟨a1, c1, a2, c2, a3, c3, rfl⟩

theorem nodeOwn_downP {w : World} {B B' : Nat} {v : Value} {lf : Bool} {ks vs : List ByteArray} {cs : List Int} (h : NodeOwn w B v lf ks vs cs) (hB : B' ≤ B) : NodeOwn w B' v lf ks vs cs := by
  obtain ⟨v1, v2, v3, e, h1, h2, h3, h4⟩ := h
  exact ⟨v1, v2, v3, e, own_down h1 hB, own_down h2 hB, own_down h3 hB, h4⟩

theorem sep_swap {B : Nat} {W : World} {A A' : Ast} {l : List Ast} (h : Sep B W (A :: A' :: l)) : Sep B W (A' :: A :: l) := sep_perm h (List.Perm.swap _ _ _)

/-- a work is laid into a variable -/
theorem sep_store6 {B : Nat} {W : World} {l : List Ast} (h : Sep B W l) (i : Nat) {g : Nat} {r0 r1 r2 r3 r4 r5 : Value} {T : TypeId} (hi : l[i]? = some (cellA g (Obj.cells #[r0, r1, r2, r3, r4, r5] T))) (u0 u1 u2 u3 u4 u5 : Value) : Sep B (set6 W g u0 u1 u2 u3 u4 u5) (l.set i (cellA g (Obj.cells #[u0, u1, u2, u3, u4, u5] T))) := by
  have h1 : W.heap[g]? = some (Obj.cells #[r0, r1, r2, r3, r4, r5] T) := sep_get h i hi
  have h2 := sep_lt h i hi g rfl
  refine sep_set h i hi (set6_kept W g u0 u1 u2 u3 u4 u5) _ (set6_blk h1) (fun k hk => ⟨Or.inl hk, ?_⟩) (Nat.le_of_lt (Nat.lt_of_le_of_lt h2.1 h2.2))
  have hk : k = g := hk
  subst hk
  simpa using h2.2

/-- a node is laid into a variable -/
theorem sep_store4 {B : Nat} {W : World} {l : List Ast} (h : Sep B W l) (i : Nat) {g : Nat} {r0 r1 r2 r3 : Value} {T : TypeId} (hi : l[i]? = some (cellA g (Obj.cells #[r0, r1, r2, r3] T))) (u0 u1 u2 u3 : Value) : Sep B (set4 W g u0 u1 u2 u3) (l.set i (cellA g (Obj.cells #[u0, u1, u2, u3] T))) := by
  have h1 : W.heap[g]? = some (Obj.cells #[r0, r1, r2, r3] T) := sep_get h i hi
  have h2 := sep_lt h i hi g rfl
  have hk : Kept W (set4 W g u0 u1 u2 u3) (fun k => k = g) := kept_trans (kept_trans (kept_trans (kept_setCell _ _ _ _) (kept_setCell _ _ _ _) (fun _ _ h => h)) (kept_setCell _ _ _ _) (fun _ _ h => h)) (kept_setCell _ _ _ _) (fun _ _ h => h)
  refine sep_set h i hi hk _ (heap_setCell_same _ g 3 _ _ _ (heap_setCell_same _ g 2 _ _ _ (heap_setCell_same _ g 1 _ _ _ (heap_setCell_same W g 0 _ _ _ h1)))) (fun k hk => ⟨Or.inl hk, ?_⟩) (Nat.le_of_lt (Nat.lt_of_le_of_lt h2.1 h2.2))
  have hk : k = g := hk
  subst hk
  simpa using h2.2

theorem blk6z {W : World} {g : Nat} {c0 c1 c2 c3 c4 c5 : Value} {t : TypeId} (h : W.heap[g]? = some (Obj.cells #[c0, c1, c2, c3, c4, c5] t)) :
    W.frozen? ⟨g, 0, none⟩ = false ∧ W.frozen? ⟨g, 1, none⟩ = false ∧ W.frozen? ⟨g, 2, none⟩ = false ∧ W.frozen? ⟨g, 3, none⟩ = false ∧ W.frozen? ⟨g, 4, none⟩ = false ∧ W.frozen? ⟨g, 5, none⟩ = false :=
  ⟨(cell_at h 0).2, (cell_at h 1).2, (cell_at h 2).2, (cell_at h 3).2, (cell_at h 4).2, (cell_at h 5).2⟩

/-- the first m of a row, and what is behind them -/
theorem rowat_take {w : World} {a : Option Addr} {n c c' : Nat} {xs : List Value} (h : RowAt w 1 (.slice a n c) n xs) (m : Nat) (hm : m ≤ n) : RowAt w 1 (.slice a m c') m (xs.take m) := by
  obtain ⟨hl, a', cap, e, h⟩ := h
  injection e with e1
  subst e1
  refine ⟨by rw [List.length_take]; omega, _, _, rfl, ?_⟩
  rcases h with h0 | ⟨b, off, rfl, hlt, hc⟩
  · exact Or.inl (by omega)
  · exact Or.inr ⟨b, off, rfl, hlt, fun j hj => by rw [hc j (by omega), List.getElem?_take, if_pos (by omega)]⟩

theorem rowat_drop {w : World} {b off n c c' : Nat} {xs : List Value} (h : RowAt w 1 (.slice (some ⟨b, off, none⟩) n c) n xs) (m : Nat) (hm : m ≤ n) : RowAt w 1 (.slice (some ⟨b, off + m, none⟩) (n - m) c') (n - m) (xs.drop m) := by
  obtain ⟨hl, a', cap, e, h⟩ := h
  injection e with e1
  subst e1
  refine ⟨by rw [List.length_drop]; omega, _, _, rfl, ?_⟩
  rcases h with h0 | ⟨b', off', e, hlt, hc⟩
  · exact Or.inl (by omega)
  · injection e with e
    injection e with e e'
    subst e e'
    exact Or.inr ⟨b, off + m, rfl, hlt, fun j hj => by rw [Nat.add_assoc, hc (m + j) (by omega), List.getElem?_drop]⟩

theorem strs_take (l : List ByteArray) (m : Nat) : (strs l).take m = strs (l.take m) := by simp [strs, List.map_take]
theorem strs_drop (l : List ByteArray) (m : Nat) : (strs l).drop m = strs (l.drop m) := by simp [strs, List.map_drop]
theorem ints_take (l : List Int) (m : Nat) : (ints l).take m = ints (l.take m) := by simp [ints, List.map_take]
theorem ints_drop (l : List Int) (m : Nat) : (ints l).drop m = ints (l.drop m) := by simp [ints, List.map_drop]
end Go.Proofs.Ytmmepgincbngeaa
