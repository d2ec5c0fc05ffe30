/-
  An append of a whole row to a row among things that lie side by side. No function of the program.
-/
import Derived.Test.YthcakofocbileaaSepNode
import Derived.Test.YthcakofocbileaaAppRow
import Derived.Maps.AppendAt
namespace Go.Proofs.Ythcakofocbileaa
open Go.RowKit

theorem run_append_sep {P : Program} (w : World) (t ty : TypeId) (base : Nat) (e : TypeId) (i : TypeInfo) (z : Value) (size bytes : Nat) (ht : P.underlying t = some (.slice e)) (hi : P.info? e = some i) (hz : i.zero = some z)
    (hsize : i.size = size) (hby : i.bytes = bytes) (hzs : z.cells.size = size) (hsz : 0 < size)
    (v : Value) (n : Nat) (xs : List Value) (hown : w.ownsRow base e size v n xs)
    (u : Value) (m : Nat) (ys : List Value) (hrow : RowAt w size u m ys) (h1 : ∀ y ∈ ys, y.oneCell' = true)
    (h63 : n + m ≤ maxLen) (hbytes : (n + m) * bytes ≤ 140737488355328) (hbase : base ≤ w.heap.size) :
    ∃ x c w', (Builtin.append_ #[t, t] ty #[v, u]).run P w = .ok (.slice x (n + m) c) w' ∧ w'.ownsRow base e size (.slice x (n + m) c) (n + m) (xs ++ ys) ∧ w.grownBy w' v.ownBlock ∧ ∀ j, (Value.slice x (n + m) c).ownBlock = some j → v.ownBlock = some j ∨ j = w.heap.size := by
  have key : ∀ (v' : Value) (w' : World), w'.ownsRow base e size v' (n + m) (xs ++ ys) → ∃ x c, v' = Value.slice x (n + m) c := fun v' w' h => by
    obtain ⟨-, a, cap, ee, -⟩ := row_of_own h
    exact ⟨a, cap, ee⟩
  obtain ⟨hl, a, cap, rfl, h2⟩ := hrow
  rcases a with _ | ad
  · rcases h2 with h0 | ⟨b, off, e, _⟩
    · subst h0
      have hy : ys = [] := List.length_eq_zero_iff.1 (by rw [hl]; omega)
      subst hy
      obtain ⟨x, c, hx⟩ := key v w (by rw [List.append_nil]; exact hown)
      refine ⟨x, c, w, ?_, ?_, ⟨rfl, rfl, rfl, Nat.le_refl _, fun _ _ _ => rfl⟩, fun j hj => Or.inl (by rw [hx]; exact hj)⟩
      · rw [← hx]
        rcases hown.2 with ⟨rfl, rfl⟩ | ⟨g, cap, cur, rfl, _, _, hnc, _⟩
        · simp [Builtin.append_, run_underlying ht, sizeOf, typeInfo, hi, Builtin.lenOf, Builtin.firstCells]
        · simp [Builtin.append_, run_underlying ht, sizeOf, typeInfo, hi, Builtin.lenOf, Builtin.firstCells, hnc, storeCells]
      · rw [← hx, List.append_nil]; exact hown
    · cases e
  · have hnews : ∀ j y, ys[j]? = some y → w.cell? (ad.add j) = some y := fun j y hj => by
      have hjl : j < m * size := by rw [← hl]; exact (List.getElem?_eq_some_iff.1 hj).1
      rcases h2 with h0 | ⟨b, off, e, hlt, hc⟩
      · subst h0; simp at hjl
      · injection e with e
        subst e
        rw [Addr.add_lit, hc j hjl, hj]
    obtain ⟨v', w', hr, g2, g3, g4, g5⟩ := run_append_own_at (P := P) w base t ty e i z size bytes ht hi hz hsize hby hzs hsz v n xs hown ad m cap ys hl hnews h1 h63 hbytes hbase
    obtain ⟨x, c, rfl⟩ := key v' w' g2
    refine ⟨x, c, w', hr, g2, g3, fun j hj => ?_⟩
    rcases g5 with g5 | g5
    · exact Or.inl (by rw [← g5]; exact hj)
    · rw [g5] at hj
      injection hj with hj
      exact Or.inr hj.symm

/-- a row that has grown by another -/
theorem row_sep {B : Nat} {W W' : World} {l : List Ast} (h : Sep B W l) (i : Nat) {B' e sz n n' c : Nat} {x : Option Addr} {v : Value} {xs xs' : List Value} (hi : l[i]? = some (rowA B' e sz v n xs)) (hBB : B ≤ B') (hBW : B ≤ W.heap.size) (hgr : W.grownBy W' v.ownBlock) (hown : W'.ownsRow B' e sz (.slice x n' c) n' xs') (hb : ∀ j, (Value.slice x n' c).ownBlock = some j → v.ownBlock = some j ∨ j = W.heap.size) :
    Sep B W' (l.set i (rowA B' e sz (.slice x n' c) n' xs')) ∧ Below B W W' := by
  refine ⟨sep_set h i hi ⟨hgr.os, hgr.tape, hgr.output, hgr.size, fun j hj hn => hgr.block j hj (fun e => hn e.symm)⟩ _ hown (fun k hk => ⟨?_, (hown.lt k hk).2⟩) hBW, grown_below (Below.refl _ _) hgr (sep_get h i hi) hBB hBW⟩
  rcases hb k hk with h | h
  · exact Or.inl h
  · exact Or.inr (by omega)

theorem step_strR {ops : Array Oper} {o : Oper} {a : Act} {K : Act → World → Prop} {Q : Exit → Act → World → Prop} {E : Prop} {B : Nat} {W : World} {l : List Ast} (h : Sep B W l) (i : Nat) {B' n : Nat} {v : Value} {xs : List ByteArray} (hi : l[i]? = some (rowA B' 9 1 v n (strs xs))) (hBB : B ≤ B') (hBW : B ≤ W.heap.size) (hBW' : B' ≤ W.heap.size)
    (hgd : o.guard = none) (s x : Operand) (ho : o.op = .call { callee := .builtin .append, args := #[s, x], argTypes := #[67, 67] }) (hs : a.eval s = v) (u : Value) (m : Nat) (ys : List ByteArray) (hx : a.eval x = u) (hrow : RowAt W 1 u m (strs ys)) (hn : n + m ≤ 3000000)
    (hK : ∀ y c w', Sep B w' (l.set i (rowA B' 9 1 (.slice y (n + m) c) (n + m) (strs (xs ++ ys)))) → Below B W w' → K (a.put o.dst (.slice y (n + m) c)) w') :
    if Region.wanted o (yielded ops a.tmps) = true then Oper.wp Try.prog o a W K Q else E := by
  have hw : Region.wanted o (yielded ops a.tmps) = true := by simp [Region.wanted, hgd]
  rw [if_pos hw]
  obtain ⟨i0, hinf, hz0, hz1, hz2⟩ := info_parts Try.infoStrR
  obtain ⟨y, c, w', hr, h2, h3, h4⟩ := run_append_sep (P := Try.prog) W 67 o.type B' 9 i0 (.string ⟨#[]⟩) 1 16 Try.underlying67 hinf hz0 hz1 hz2 rfl (by decide) v n (strs xs) (sep_get h i hi) u m (strs ys) hrow (strs_one ys) (by unfold maxLen; omega) (by omega) hBW'
  obtain ⟨k1, k2⟩ := row_sep h i hi hBB hBW h3 h2 h4
  unfold Oper.wp execOp
  simp only [ho, resolve, invoke, builtin, Sem.run_bind, Sem.run_pure, Result.andThen_ok, List.map_toArray, List.map_cons, List.map_nil, hs, hx, hr]
  refine hK y c w' ?_ k2
  rw [show strs (xs ++ ys) = strs xs ++ strs ys from by simp [strs]]
  exact k1

/-- a row that is nil stands in no block -/
theorem sep_none {B : Nat} {W : World} {l : List Ast} (h : Sep B W l) (B' e : Nat) : Sep B W (rowA B' e 1 (.slice none 0 0) 0 [] :: l) :=
  sep_cons.2 ⟨⟨⟨rfl, Or.inl ⟨rfl, rfl⟩⟩, fun j hj => by cases hj⟩, fun _ _ j hj => (by cases hj), h⟩

/-- keys and kids in rows of their own are a node -/
theorem sep_fuse {B : Nat} {W : World} {l : List Ast} {v1 v3 : Value} {ks : List ByteArray} {cs : List Int} {n1 n3 : Nat} (h : Sep B W (rowA B 9 1 v1 n1 (strs ks) :: rowA B 3 1 v3 n3 (ints cs) :: l)) : Sep B W (nodeA B (.agg #[.bool false, v1, .slice none 0 0, v3]) false ks [] cs :: l) := by
  have h1 : W.ownsRow B 9 1 v1 n1 (strs ks) := sep_get h 0 rfl
  have h3 : W.ownsRow B 3 1 v3 n3 (ints cs) := sep_get h 1 rfl
  obtain ⟨q1, q2, q3⟩ := sep_cons.1 h
  obtain ⟨r1, r2, r3⟩ := sep_cons.1 q3
  have hF : ∀ k, nodeBlocks (.agg #[.bool false, v1, .slice none 0 0, v3]) k → v1.ownBlock = some k ∨ v3.ownBlock = some k := fun k hk => by
    obtain ⟨b, vk, vv, vc, e, hk⟩ := hk
    obtain ⟨-, rfl, rfl, rfl⟩ := agg4 e
    rcases hk with hk | hk | hk
    · exact Or.inl hk
    · cases hk
    · exact Or.inr hk
  refine sep_cons.2 ⟨⟨⟨v1, _, v3, rfl, by rw [← row_nS h1]; exact h1, ⟨rfl, Or.inl ⟨rfl, rfl⟩⟩, by rw [← row_n h3]; exact h3, fun k _ hk => (by cases hk)⟩, fun k hk => ?_⟩, fun A hA k hk => ?_, r3⟩
  · rcases hF k hk with hk | hk
    · exact q1.2 k hk
    · exact r1.2 k hk
  · rcases hF k hk with hk | hk
    · exact q2 A (List.mem_cons_of_mem _ hA) k hk
    · exact r2 A hA k hk

/-- a row behind its first one, as a slice from 1 on tells it -/
theorem rowat_one {w : World} {b n c : Nat} {xs : List Value} (h : RowAt w 1 (.slice (some ⟨b, 0, none⟩) n c) n xs) (hn : 1 ≤ n) (hc : n ≤ c) : RowAt w 1 (.slice (if c = 1 then some ⟨b, 0, none⟩ else some ⟨b, 1, none⟩) (n - 1) (c - 1)) (n - 1) (xs.drop 1) := by
  by_cases h1 : c = 1
  · rw [if_pos h1]
    obtain ⟨hl, -⟩ := h
    exact ⟨by rw [List.length_drop]; omega, _, _, rfl, Or.inl (by omega)⟩
  · rw [if_neg h1]
    exact rowat_drop h 1 hn
end Go.Proofs.Ythcakofocbileaa
