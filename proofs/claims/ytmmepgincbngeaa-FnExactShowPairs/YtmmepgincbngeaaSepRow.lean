/-
  An append of a whole row to a row among things that lie side by side. No function of the program.
-/
import Derived.Test.YtmmepgincbngeaaSepNode
import Derived.Test.YtmmepgincbngeaaAppRow
import Derived.Maps.AppendAt
namespace Go.Proofs.Ytmmepgincbngeaa
open Go.RowKit

theorem run_append_sep {P : Program} (w : World) (t ty : TypeId) (base : Nat) (e : TypeId) (i : TypeInfo) (z : Value) (size bytes : Nat) (ht : P.underlying t = some (.slice e)) (hi : P.info? e = some i) (hz : i.zero = some z)
    (hsize : i.size = size) (hby : i.bytes = bytes) (hzs : z.cells.size = size) (hsz : 0 < size)
    (v : Value) (n : Nat) (xs : List Value) (hown : w.ownsRow base e size v n xs)
    (u : Value) (m : Nat) (ys : List Value) (hrow : RowAt w size u m ys) (h1 : ∀ y ∈ ys, y.oneCell' = true)
    (h63 : n + m ≤ maxLen) (hbytes : (n + m) * bytes ≤ 140737488355328) (hbase : base ≤ w.heap.size) :
    ∃ x c w', (Builtin.append_ #[t, t] ty #[v, u]).run P w = .ok (.slice x (n + m) c) w' ∧ w'.ownsRow base e size (.slice x (n + m) c) (n + m) (xs ++ ys) ∧ w.grownBy w' v.ownBlock ∧ ∀ j, (Value.slice x (n + m) c).ownBlock = some j → v.ownBlock = some j ∨ j = w.heap.size := by
  have key : ∀ (v' : Value) (w' : World), w'.ownsRow base e size v' (n + m) (xs ++ ys) → ∃ x c, v' = Value.slice x (n + m) c := fun v' w' h => by
    obtain ⟨-, a, cap, ee, -⟩ := row_of_own h
    exact ⟨a, cap, ee⟩
  obtain ⟨hl, a, cap, rfl, h2⟩ := hrow
  rcases a with _ | ad
  · rcases h2 with h0 | ⟨b, off, e, _⟩
    · subst h0
      have hy : ys = [] := List.length_eq_zero_iff.1 (by rw [hl]; omega)
      subst hy
      obtain ⟨x, c, hx⟩ := key v w (by rw [List.append_nil]; exact hown)
      refine ⟨x, c, w, ?_, ?_, ⟨rfl, rfl, rfl, Nat.le_refl _, fun _ _ _ => rfl⟩, fun j hj => Or.inl (by rw [hx]; exact hj)⟩
      · rw [← hx]
        rcases hown.2 with ⟨rfl, rfl⟩ | ⟨g, cap, cur, rfl, _, _, hnc, _⟩
        · simp [Builtin.append_, run_underlying ht, sizeOf, typeInfo, hi, Builtin.lenOf, Builtin.firstCells]
        · simp [Builtin.append_, run_underlying ht, sizeOf, typeInfo, hi, Builtin.lenOf, Builtin.firstCells, hnc, storeCells]
      · rw [← hx, List.append_nil]; exact hown
    · cases e
  · have hnews : ∀ j y, ys[j]? = some y → w.cell? (ad.add j) = some y := fun j y hj => by
      have hjl : j < m * size := by rw [← hl]; exact (List.getElem?_eq_some_iff.1 hj).1
      rcases h2 with h0 | ⟨b, off, e, hlt, hc⟩
      · subst h0; simp at hjl
      · injection e with e
        subst e
        rw [Addr.add_lit, hc j hjl, hj]
    obtain ⟨v', w', hr, g2, g3, g4, g5⟩ := run_append_own_at (P := P) w base t ty e i z size bytes ht hi hz hsize hby hzs hsz v n xs hown ad m cap ys hl hnews h1 h63 hbytes hbase
    obtain ⟨x, c, rfl⟩ := key v' w' g2
    refine ⟨x, c, w', hr, g2, g3, fun j hj => ?_⟩
    rcases g5 with g5 | g5
    · exact Or.inl (by rw [← g5]; exact hj)
    · rw [g5] at hj
      injection hj with hj
      exact Or.inr hj.symm

/-- a row that has grown by another -/
theorem row_sep {B : Nat} {W W' : World} {l : List Ast} (h : Sep B W l) (i : Nat) {B' e sz n n' c : Nat} {x : Option Addr} {v : Value} {xs xs' : List Value} (hi : l[i]? = some (rowA B' e sz v n xs)) (hBB : B ≤ B') (hBW : B ≤ W.heap.size) (hgr : W.grownBy W' v.ownBlock) (hown : W'.ownsRow B' e sz (.slice x n' c) n' xs') (hb : ∀ j, (Value.slice x n' c).ownBlock = some j → v.ownBlock = some j ∨ j = W.heap.size) :
    Sep B W' (l.set i (rowA B' e sz (.slice x n' c) n' xs')) ∧ Below B W W' := by
  refine ⟨sep_set h i hi ⟨hgr.os, hgr.tape, hgr.output, hgr.size, fun j hj hn => hgr.block j hj (fun e => hn e.symm)⟩ _ hown (fun k hk => ⟨?_, (hown.lt k hk).2⟩) hBW, grown_below (Below.refl _ _) hgr (sep_get h i hi) hBB hBW⟩
  rcases hb k hk with h | h
  · exact Or.inl h
  · exact Or.inr (by omega)

/-- a row that is nil stands in no block -/
theorem sep_none {B : Nat} {W : World} {l : List Ast} (h : Sep B W l) (B' e : Nat) : Sep B W (rowA B' e 1 (.slice none 0 0) 0 [] :: l) :=
  sep_cons.2 ⟨⟨⟨rfl, Or.inl ⟨rfl, rfl⟩⟩, fun j hj => by cases hj⟩, fun _ _ j hj => (by cases hj), h⟩

/-- keys and kids in rows of their own are a node -/
theorem sep_fuse {B : Nat} {W : World} {l : List Ast} {v1 v3 : Value} {ks : List ByteArray} {cs : List Int} {n1 n3 : Nat} (h : Sep B W (rowA B 9 1 v1 n1 (strs ks) :: rowA B 3 1 v3 n3 (ints cs) :: l)) : Sep B W (nodeA B (.agg #[.bool false, v1, .slice none 0 0, v3]) false ks [] cs :: l) := by
  have h1 : W.ownsRow B 9 1 v1 n1 (strs ks) := sep_get h 0 rfl
  have h3 : W.ownsRow B 3 1 v3 n3 (ints cs) := sep_get h 1 rfl
  obtain ⟨q1, q2, q3⟩ := sep_cons.1 h
  obtain ⟨r1, r2, r3⟩ := sep_cons.1 q3
  have hF : ∀ k, nodeBlocks (.agg #[.bool false, v1, .slice none 0 0, v3]) k → v1.ownBlock = some k ∨ v3.ownBlock = some k := fun k hk => by
    obtain ⟨b, vk, vv, vc, e, hk⟩ := hk
    obtain ⟨-, rfl, rfl, rfl⟩ := agg4 e
    rcases hk with hk | hk | hk
    · exact Or.inl hk
    · cases hk
    · exact Or.inr hk
  refine sep_cons.2 ⟨⟨⟨v1, _, v3, rfl, by rw [← row_nS h1]; exact h1, ⟨rfl, Or.inl ⟨rfl, rfl⟩⟩, by rw [← row_n h3]; exact h3, fun k _ hk => (by cases hk)⟩, fun k hk => ?_⟩, fun A hA k hk => ?_, r3⟩
  · rcases hF k hk with hk | hk
    · exact q1.2 k hk
    · exact r1.2 k hk
  · rcases hF k hk with hk | hk
    · exact q2 A (List.mem_cons_of_mem _ hA) k hk
    · exact r2 A hA k hk

/-- a row behind its first one, as a slice from 1 on tells it -/
theorem rowat_one {w : World} {b n c : Nat} {xs : List Value} (h : RowAt w 1 (.slice (some ⟨b, 0, none⟩) n c) n xs) (hn : 1 ≤ n) (hc : n ≤ c) : RowAt w 1 (.slice (if c = 1 then some ⟨b, 0, none⟩ else some ⟨b, 1, none⟩) (n - 1) (c - 1)) (n - 1) (xs.drop 1) := by
  by_cases h1 : c = 1
  · rw [if_pos h1]
    obtain ⟨hl, -⟩ := h
    exact ⟨by rw [List.length_drop]; omega, _, _, rfl, Or.inl (by omega)⟩
  · rw [if_neg h1]
    exact rowat_drop h 1 hn
end Go.Proofs.Ytmmepgincbngeaa
