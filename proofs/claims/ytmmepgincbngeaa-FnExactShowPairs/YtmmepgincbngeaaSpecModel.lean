/-
  spec.ModelPut, spec.ModelDrop and spec.l16Pairs by contracts (made by tools/model.py).
-/
import Derived.Test.YtmmepgincbngeaaSepRow
import Derived.Laws.Cover1
namespace Go.Proofs.Ytmmepgincbngeaa
open Go.RowKit

/-- the cells of pairs -/
def prq (l : List (ByteArray × ByteArray)) : List Value := l.flatMap fun p => [.string p.1, .string p.2]

theorem prq_cons (p : ByteArray × ByteArray) (l : List (ByteArray × ByteArray)) : prq (p :: l) = Value.string p.1 :: .string p.2 :: prq l := rfl

theorem prq_at (l : List (ByteArray × ByteArray)) : ∀ k (h : k < l.length), (prq l)[k * 2]? = some (.string l[k].1) ∧ (prq l)[k * 2 + 1]? = some (.string l[k].2) := by
  induction l with
  | nil => intro k h; simp at h
  | cons p l ih =>
    intro k h
    cases k with
    | zero => exact ⟨rfl, rfl⟩
    | succ k =>
      have := ih k (by simpa using h)
      have e : (k + 1) * 2 = k * 2 + 1 + 1 := by omega
      rw [e, prq_cons]
      exact this

/-- pairs with one more, in its place -/
def modelP (l : List (ByteArray × ByteArray)) (key val : ByteArray) : List (ByteArray × ByteArray) := l.filter (fun p => Op.bytesLess p.1.toList key.toList) ++ [(key, val)] ++ l.filter (fun p => !Op.bytesLess p.1.toList key.toList && !p.1.toList == key.toList)

/-- pairs without one -/
def modelD (l : List (ByteArray × ByteArray)) (key : ByteArray) : List (ByteArray × ByteArray) := l.filter (fun p => !(p.1.toList == key.toList))

theorem prq_app (l m : List (ByteArray × ByteArray)) : prq (l ++ m) = prq l ++ prq m := by
  induction l with
  | nil => rfl
  | cons p l ih => rw [List.cons_append, prq_cons, prq_cons, ih]; rfl

theorem prq_one : ∀ (l : List (ByteArray × ByteArray)), ∀ y ∈ prq l, y.oneCell' = true
  | [], y, h => by cases h
  | p :: l, y, h => by
    rw [prq_cons] at h
    rcases List.mem_cons.1 h with rfl | h
    · rfl
    · rcases List.mem_cons.1 h with rfl | h
      · rfl
      · exact prq_one l y h

theorem take_nextM {α : Type} (l : List α) (k : Nat) (x : α) (h : l[k]? = some x) : l.take (k + 1) = l.take k ++ [x] := by rw [List.take_add_one, h]; rfl

theorem tf_yes {α : Type} {zs : List α} {k : Nat} {z : α} (hz : zs[k]? = some z) {p : α → Bool} (hp : p z = true) : (zs.take (k + 1)).filter p = (zs.take k).filter p ++ [z] := by
  rw [take_nextM zs k z hz, List.filter_append]
  simp [hp]

theorem tf_no {α : Type} {zs : List α} {k : Nat} {z : α} (hz : zs[k]? = some z) {p : α → Bool} (hp : p z = false) : (zs.take (k + 1)).filter p = (zs.take k).filter p := by
  rw [take_nextM zs k z hz, List.filter_append]
  simp [hp]

theorem sep_row2 {B : Nat} {W : World} {g e : Nat} {l : List Ast} (h : Sep B W (cellA g (Obj.cells #[] e) :: l)) : Sep B W (rowA B e 2 (.slice (some ⟨g, 0, none⟩) 0 0) 0 [] :: l) := by
  obtain ⟨⟨h1, h2⟩, h3, h4⟩ := sep_cons.1 h
  refine sep_cons.2 ⟨⟨⟨rfl, Or.inr ⟨g, 0, #[], rfl, (h2 g rfl).1, h1, Nat.le_refl _, Nat.zero_le _, rfl, rfl⟩⟩, fun k hk => ?_⟩, fun A' hA' k hk => ?_, h4⟩
  · injection hk with hk
    exact h2 k hk.symm
  · injection hk with hk
    exact h3 A' hA' k hk.symm

theorem Try.infoPairM : (Try.prog.info? 32).map (fun i => (i.zero, i.size, i.bytes)) = some (some (.agg #[.string ⟨#[]⟩, .string ⟨#[]⟩]), 2, 32) := by kernel_rfl

/-- a pair more -/
theorem wpList_pr1 {ops : Array Oper} {rest : List Oper} {o : Oper} {a : Act} {Q : Exit → Act → World → Prop} {B : Nat} {W : World} {l : List Ast} (h : Sep B W l) (i : Nat) {B' n : Nat} {v : Value} {xs : List (ByteArray × ByteArray)} (hi : l[i]? = some (rowA B' 32 2 v n (prq xs))) (hBB : B ≤ B') (hBW : B ≤ W.heap.size) (hBW' : B' ≤ W.heap.size)
    (hgd : o.guard = none) (s x : Operand) (ho : o.op = .call { callee := .builtin .append, args := #[s, x], argTypes := #[25, 25] }) (hs : a.eval s = v) (key val : ByteArray) {H : Nat} (hH : H = W.heap.size) (hx : a.eval x = .slice (some ⟨H, 0, none⟩) 1 1) (hn : n ≤ 3000000)
    (hK : ∀ b c w', Sep B w' (l.set i (rowA B' 32 2 (.slice (some ⟨b, 0, none⟩) (n + 1) c) (n + 1) (prq (xs ++ [(key, val)])))) → Below B W w' → wpList Try.prog ops Q rest (a.put o.dst (.slice (some ⟨b, 0, none⟩) (n + 1) c)) w') :
    wpList Try.prog ops Q (o :: rest) a (W.alloc (Obj.cells #[.string key, .string val] 32)) := by
  obtain ⟨i0, hinf, hz0, hz1, hz2⟩ := info_parts Try.infoPairM
  refine wpList_sep1 h i hi hBB hBW hBW' hgd s x 25 ho i0 (.agg #[.string ⟨#[]⟩, .string ⟨#[]⟩]) 32 Try.underlying25 hinf hz0 hz1 hz2 rfl (by decide) hs #[.string key, .string val] hH hx rfl (fun y hy => by simp at hy; rcases hy with rfl | rfl <;> rfl) (by unfold maxLen; omega) (by omega) (fun b c w' k1 k2 => hK b c w' ?_ k2)
  rw [prq_app]
  exact k1

/-- a pair's cells in a row that stays -/
theorem prq_cells {w wr : World} {a : Option Addr} {n c : Nat} {l : List (ByteArray × ByteArray)} (h : RowAt w 2 (.slice a n c) n (prq l)) (hb : Below w.heap.size w wr) {k : Nat} (hk : k < n) {p : ByteArray × ByteArray} (hp : l[k]? = some p) :
    ∃ b off, a = some ⟨b, off, none⟩ ∧ wr.cell? ⟨b, off + k * 2, none⟩ = some (.string p.1) ∧ wr.cell? ⟨b, off + k * 2 + 1, none⟩ = some (.string p.2) := by
  obtain ⟨hl, a', cap, ea, h2⟩ := h
  injection ea with e1 e2 e3
  subst e1
  rcases h2 with h0 | ⟨b, off, rfl, hlt, hc⟩
  · omega
  · obtain ⟨hlk, hpk⟩ := List.getElem?_eq_some_iff.1 hp
    obtain ⟨q1, q2⟩ := prq_at l k hlk
    rw [hpk] at q1 q2
    exact ⟨b, off, rfl, by rw [hb.cell (by exact hlt), hc (k * 2) (by omega)]; exact q1, by rw [hb.cell (by exact hlt), Nat.add_assoc, hc (k * 2 + 1) (by omega)]; exact q2⟩

/-- a row of pairs more -/
theorem wpList_prR {ops : Array Oper} {rest : List Oper} {o : Oper} {a : Act} {Q : Exit → Act → World → Prop} {B : Nat} {W : World} {l : List Ast} (h : Sep B W l) (i : Nat) {B' n : Nat} {v : Value} {xs : List Value} (hi : l[i]? = some (rowA B' 32 2 v n xs)) (hBB : B ≤ B') (hBW : B ≤ W.heap.size) (hBW' : B' ≤ W.heap.size)
    (hgd : o.guard = none) (s x : Operand) (ho : o.op = .call { callee := .builtin .append, args := #[s, x], argTypes := #[25, 25] }) (hs : a.eval s = v) (u : Value) (m : Nat) (ys : List Value) (hx : a.eval x = u) (hrow : RowAt W 2 u m ys) (h1 : ∀ y ∈ ys, y.oneCell' = true) (hn : n + m ≤ 3000000)
    (hK : ∀ y c w', Sep B w' (l.set i (rowA B' 32 2 (.slice y (n + m) c) (n + m) (xs ++ ys))) → Below B W w' → wpList Try.prog ops Q rest (a.put o.dst (.slice y (n + m) c)) w') :
    wpList Try.prog ops Q (o :: rest) a W :=
  wpList_plain hgd fun _ hK' => by
    obtain ⟨i0, hinf, hz0, hz1, hz2⟩ := info_parts Try.infoPairM
    obtain ⟨y, c, w', hr, h2, h3, h4⟩ := run_append_sep (P := Try.prog) W 25 o.type B' 32 i0 (.agg #[.string ⟨#[]⟩, .string ⟨#[]⟩]) 2 32 Try.underlying25 hinf hz0 hz1 hz2 rfl (by decide) v n xs (sep_get h i hi) u m ys hrow h1 (by unfold maxLen; omega) (by omega) hBW'
    obtain ⟨k1, k2⟩ := row_sep h i hi hBB hBW h3 h2 h4
    unfold Oper.wp execOp
    simp only [ho, resolve, invoke, builtin, Sem.run_bind, Sem.run_pure, Result.andThen_ok, List.map_toArray, List.map_cons, List.map_nil, hs, hx, hr]
    exact hK' _ _ (hK y c w' k1 k2)

end Go.Proofs.Ytmmepgincbngeaa
