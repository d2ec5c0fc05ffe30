/-
  An append of one thing to a row among others that lie side by side. No program.
-/
import Derived.Test.YtmmepgincbngeaaSep
import Derived.Deep.AppendLies
import Derived.Deep.RegionHeld
namespace Go.Proofs.Ytmmepgincbngeaa
open Go.RowKit

theorem new_cells (W : World) (cs : Array Value) (T : TypeId) : ∀ (j : Nat) (u : Value), cs.toList[j]? = some u → (W.alloc (Obj.cells cs T)).cell? ((⟨W.heap.size, 0, none⟩ : Addr).add j) = some u := by
  intro j u hj
  have h := (cell_at (heap_alloc_new W (Obj.cells cs T)) j).1
  rw [Addr.add_lit, Nat.zero_add, h, ← Array.getElem?_toList]
  exact hj

/-- what an append of one leaves -/
theorem app_sep {B : Nat} {W W' : World} {l : List Ast} (h : Sep B W l) (i : Nat) {B' e sz n n' : Nat} {v : Value} {xs xs' : List Value} (hi : l[i]? = some (rowA B' e sz v n xs)) (hBB : B ≤ B') (hBW : B ≤ W.heap.size) {o : Obj} (hgr : (W.alloc o).grownBy W' v.ownBlock) {b c : Nat} (hown : W'.ownsRow B' e sz (.slice (some ⟨b, 0, none⟩) n' c) n' xs') (hb : v.ownBlock = some b ∨ b = W.heap.size + 1) :
    Sep B W' (l.set i (rowA B' e sz (.slice (some ⟨b, 0, none⟩) n' c) n' xs')) ∧ Below B W W' := by
  have hb0 : Below W.heap.size W (W.alloc o) := (Below.refl _ _).alloc (Nat.le_refl _) o
  exact ⟨sep_grow h hb0 i hi hgr hown (hb.imp id (fun e => by omega)) hBW, grown_below hb0 hgr (sep_get h i hi) hBB hBW⟩

theorem wpList_sep1 {P : Program} {ops : Array Oper} {rest : List Oper} {o : Oper} {a : Act} {Q : Exit → Act → World → Prop} {B : Nat} {W : World} {l : List Ast} (h : Sep B W l) (i : Nat) {B' e sz n : Nat} {v : Value} {xs : List Value} (hi : l[i]? = some (rowA B' e sz v n xs)) (hBB : B ≤ B') (hBW : B ≤ W.heap.size) (hBW' : B' ≤ W.heap.size)
    (hgd : o.guard = none) (s x : Operand) (t : TypeId) (ho : o.op = .call { callee := .builtin .append, args := #[s, x], argTypes := #[t, t] }) (inf : TypeInfo) (z : Value) (bytes : Nat) (ht : P.underlying t = some (.slice e)) (hinf : P.info? e = some inf) (hz : inf.zero = some z)
    (hsize : inf.size = sz) (hby : inf.bytes = bytes) (hzs : z.cells.size = sz) (hsz : 0 < sz) (hs : a.eval s = v) (news : Array Value) {H : Nat} (hH : H = W.heap.size) (hx : a.eval x = .slice (some ⟨H, 0, none⟩) 1 1) (hl : news.size = sz) (h1 : ∀ u ∈ news.toList, u.oneCell' = true) (h63 : n + 1 ≤ maxLen) (hbytes : (n + 1) * bytes ≤ 140737488355328)
    (hK : ∀ b c w', Sep B w' (l.set i (rowA B' e sz (.slice (some ⟨b, 0, none⟩) (n + 1) c) (n + 1) (xs ++ news.toList))) → Below B W w' → wpList P ops Q rest (a.put o.dst (.slice (some ⟨b, 0, none⟩) (n + 1) c)) w') :
    wpList P ops Q (o :: rest) a (W.alloc (Obj.cells news e)) :=
  wpList_append_lies _ hgd s x t ho B' e inf z sz bytes ht hinf hz hsize hby hzs hsz v n xs hs ((sep_get h i hi : W.ownsRow B' e sz v n xs).alloc _) ⟨H, 0, none⟩ 1 1 news.toList hx (by rw [Array.length_toList, hl, Nat.one_mul]) (by rw [hH]; exact new_cells W news e) h1 (by decide) h63 hbytes (by simp; omega) (W.heap.size + 1) (by simp)
    (fun b c w' q1 q2 q3 _ => by
      obtain ⟨k1, k2⟩ := app_sep h i hi hBB hBW q2 q1 q3
      exact hK b c w' k1 k2)

theorem step_sep1 {P : Program} {ops : Array Oper} {o : Oper} {a : Act} {K : Act → World → Prop} {Q : Exit → Act → World → Prop} {E : Prop} {B : Nat} {W : World} {l : List Ast} (h : Sep B W l) (i : Nat) {B' e sz n : Nat} {v : Value} {xs : List Value} (hi : l[i]? = some (rowA B' e sz v n xs)) (hBB : B ≤ B') (hBW : B ≤ W.heap.size) (hBW' : B' ≤ W.heap.size)
    (hgd : o.guard = none) (s x : Operand) (t : TypeId) (ho : o.op = .call { callee := .builtin .append, args := #[s, x], argTypes := #[t, t] }) (inf : TypeInfo) (z : Value) (bytes : Nat) (ht : P.underlying t = some (.slice e)) (hinf : P.info? e = some inf) (hz : inf.zero = some z)
    (hsize : inf.size = sz) (hby : inf.bytes = bytes) (hzs : z.cells.size = sz) (hsz : 0 < sz) (hs : a.eval s = v) (news : Array Value) {H : Nat} (hH : H = W.heap.size) (hx : a.eval x = .slice (some ⟨H, 0, none⟩) 1 1) (hl : news.size = sz) (h1 : ∀ u ∈ news.toList, u.oneCell' = true) (h63 : n + 1 ≤ maxLen) (hbytes : (n + 1) * bytes ≤ 140737488355328)
    (hK : ∀ b c w', Sep B w' (l.set i (rowA B' e sz (.slice (some ⟨b, 0, none⟩) (n + 1) c) (n + 1) (xs ++ news.toList))) → Below B W w' → K (a.put o.dst (.slice (some ⟨b, 0, none⟩) (n + 1) c)) w') :
    if Region.wanted o (yielded ops a.tmps) = true then Oper.wp P o a (W.alloc (Obj.cells news e)) K Q else E :=
  step_append_lies _ hgd s x t ho B' e inf z sz bytes ht hinf hz hsize hby hzs hsz v n xs hs ((sep_get h i hi : W.ownsRow B' e sz v n xs).alloc _) ⟨H, 0, none⟩ 1 1 news.toList hx (by rw [Array.length_toList, hl, Nat.one_mul]) (by rw [hH]; exact new_cells W news e) h1 (by decide) h63 hbytes (by simp; omega) (W.heap.size + 1) (by simp)
    (fun b c w' q1 q2 q3 _ => by
      obtain ⟨k1, k2⟩ := app_sep h i hi hBB hBW q2 q1 q3
      exact hK b c w' k1 k2)

/-- one of them is another one then, in new blocks -/
theorem sep_repl {B : Nat} {W W' : World} {l : List Ast} (h : Sep B W l) (hb : Below W.heap.size W W') (i : Nat) {A : Ast} (hi : l[i]? = some A) (A' : Ast) (hP : A'.P W') (hF : ∀ k, A'.F k → W.heap.size ≤ k ∧ k < W'.heap.size) (hB : B ≤ W.heap.size) : Sep B W' (l.set i A') :=
  sep_set h i hi ⟨hb.os, hb.tape, hb.output, hb.size, fun k hk _ => hb.block k hk⟩ A' hP (fun k hk => ⟨Or.inr (hF k hk).1, (hF k hk).2⟩) hB

/-- what was there, and what is new -/
theorem sep_join {B : Nat} {W W' : World} {l l' : List Ast} (h : Sep B W l) (hb : Below W.heap.size W W') (h' : Sep W.heap.size W' l') (hB : B ≤ W.heap.size) : Sep B W' (l' ++ l) := by
  have h2 := sep_below h hb
  refine ⟨fun A hA => ?_, List.pairwise_append.2 ⟨h'.2, h2.2, fun A hA A' hA' k hk hk' => ?_⟩⟩
  · rcases List.mem_append.1 hA with hA | hA
    · exact ⟨(h'.1 A hA).1, fun k hk => ⟨Nat.le_trans hB ((h'.1 A hA).2 k hk).1, ((h'.1 A hA).2 k hk).2⟩⟩
    · exact h2.1 A hA
  · have h3 := ((h'.1 A hA).2 k hk).1
    have h4 := ((h.1 A' hA').2 k hk').2
    omega

/-- some of them, in another order; the rest stays -/
theorem sep_pick {B : Nat} {W : World} {pre rest : List Ast} (h : Sep B W (pre ++ rest)) (js : List Nat) (hnd : js.Nodup) (pre' : List Ast) (he : pre'.map some = js.map (fun i => pre[i]?)) : Sep B W (pre' ++ rest) := by
  obtain ⟨h1, h2⟩ := h
  obtain ⟨p1, p2, p3⟩ := List.pairwise_append.1 h2
  have hl : pre'.length = js.length := by have := congrArg List.length he; simpa using this
  have hat : ∀ (j : Nat) (hj : j < pre'.length), ∃ hp : js[j]'(by omega) < pre.length, pre[js[j]'(by omega)] = pre'[j] := fun j hj => by
    have e := congrArg (fun l => l[j]?) he
    simp only [List.getElem?_map, List.getElem?_eq_getElem hj, List.getElem?_eq_getElem (show j < js.length by omega), Option.map_some] at e
    have e := Option.some.inj e
    obtain ⟨q1, q2⟩ := List.getElem?_eq_some_iff.1 e.symm
    exact ⟨q1, q2⟩
  have hmem : ∀ A ∈ pre', A ∈ pre := fun A hA => by
    obtain ⟨j, hj, rfl⟩ := List.getElem_of_mem hA
    obtain ⟨q1, q2⟩ := hat j hj
    rw [← q2]
    exact List.getElem_mem q1
  have hs : ∀ (i j : Nat) (hi : i < pre.length) (hj : j < pre.length), i ≠ j → ∀ k, pre[i].F k → ¬ pre[j].F k := fun i j hi hj hne => by
    rcases Nat.lt_or_gt_of_ne hne with h | h
    · exact List.pairwise_iff_getElem.1 p1 i j hi hj h
    · exact fun k ha hb => List.pairwise_iff_getElem.1 p1 j i hj hi h k hb ha
  refine ⟨fun A hA => ?_, List.pairwise_append.2 ⟨List.pairwise_iff_getElem.2 fun i j hi hj hij => ?_, p2, fun A hA A' hA' => p3 A (hmem A hA) A' hA'⟩⟩
  · rcases List.mem_append.1 hA with hA | hA
    · exact h1 A (List.mem_append_left _ (hmem A hA))
    · exact h1 A (List.mem_append_right _ hA)
  · obtain ⟨q1, q2⟩ := hat i hi
    obtain ⟨r1, r2⟩ := hat j hj
    rw [← q2, ← r2]
    refine hs _ _ q1 r1 (fun e => ?_)
    have := List.pairwise_iff_getElem.1 hnd i j (by omega) (by omega) hij
    exact this e

/-- a new row without anything -/
theorem sep_row0 {B : Nat} {W : World} {g e : Nat} {l : List Ast} (h : Sep B W (cellA g (Obj.cells #[] e) :: l)) : Sep B W (rowA B e 1 (.slice (some ⟨g, 0, none⟩) 0 0) 0 [] :: l) := by
  obtain ⟨⟨h1, h2⟩, h3, h4⟩ := sep_cons.1 h
  refine sep_cons.2 ⟨⟨⟨rfl, Or.inr ⟨g, 0, #[], rfl, (h2 g rfl).1, h1, Nat.le_refl _, Nat.zero_le _, rfl, rfl⟩⟩, fun k hk => ?_⟩, fun A' hA' k hk => ?_, h4⟩
  · injection hk with hk
    have hk : g = k := hk
    subst hk
    exact h2 g rfl
  · injection hk with hk
    have hk : g = k := hk
    subst hk
    exact h3 A' hA' g rfl
end Go.Proofs.Ytmmepgincbngeaa
