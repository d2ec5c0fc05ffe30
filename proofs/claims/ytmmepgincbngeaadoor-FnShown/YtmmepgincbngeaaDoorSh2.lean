/-
  Facts and contracts that the law's own text rests on, by their texts' names: EvRowN, ScrPlain, Sep, SepCells, StepCall, TwoWays, EvLawN, EvsRow, ReadDec, HeldZ.
-/
import Derived.BigQuiet
import Derived.Deep.RegionHeld3
import Derived.Test.YtmmepgincbngeaaDoorSh1
import Derived.Deep.LoopGhost
import Derived.Laws.Concat
import Derived.WalkSmall
import Derived.WalkSpells
import Derived.Deep.RegionHeld
import Derived.Deep.MidRow
import Derived.Deep.Cut
import Derived.Deep.DrawnRows
import Derived.Deep.QuietTactic
import Derived.Laws.OwnMore
namespace Go.Proofs.YtmmepgincbngeaaDoor
open Go.RowKit
structure Evt where
  kind : Int
  id : Int
  key : ByteArray
  val : ByteArray
  stage : Int
  left : List Bool
  torn : Int
def EvAt (w : World) (v : Value) (e : Evt) : Prop := ∃ a cap, v = .agg #[.int .i64 e.kind, .int .i64 e.id, .string e.key, .string e.val, .int .i64 e.stage, .slice a e.left.length cap, .int .i64 e.torn] ∧ RowAt w 1 (.slice a e.left.length cap) e.left.length (bools e.left)
def Evt.ok (e : Evt) : Bool := decide (1 ≤ e.kind ∧ e.kind ≤ 10) && decide (1 ≤ e.id ∧ e.id ≤ 9) && decide (e.key.size ≤ 30) && decide (e.val.size ≤ 30) && decide (0 ≤ e.stage ∧ e.stage ≤ 1) && decide (e.left.length ≤ 60) && decide (-1 ≤ e.torn ∧ e.torn ≤ 60)
open Go.RowKit
def splitL : List UInt8 → List (List UInt8)
  | [] => []
  | b :: r => if b = 10 then [] :: splitL r else match splitL r with
    | [] => [[b]]
    | x :: xs => (b :: x) :: xs
theorem splitL_no : ∀ (l : List UInt8), (∀ b ∈ l, b ≠ 10) → l ≠ [] → splitL l = [l]
  | [], _, h => absurd rfl h
  | [b], h, _ => by rw [splitL, if_neg (h b (by simp))]; rfl
  | b :: c :: r, h, _ => by
    rw [splitL, if_neg (h b (by simp)), splitL_no (c :: r) (fun x hx => h x (List.mem_cons_of_mem _ hx)) (by simp)]
theorem splitL_nl : ∀ (a r : List UInt8), (∀ b ∈ a, b ≠ 10) → splitL (a ++ 10 :: r) = a :: splitL r
  | [], r, _ => by rw [List.nil_append, splitL, if_pos rfl]
  | b :: a, r, h => by
    rw [List.cons_append, splitL, if_neg (h b (by simp)), splitL_nl a r (fun x hx => h x (by simp [hx]))]
def rest (s : ByteArray) (b : Nat) : List (List UInt8) := splitL (s.data.toList.drop b)
def linesOf (s : ByteArray) : List (List UInt8) := splitL s.data.toList
theorem cutL_mem (s : ByteArray) (b k : Nat) (hk : k ≤ s.size) (h : ∀ i, b ≤ i → i < k → byt s i ≠ 10) : ∀ x ∈ cutL s b k, x ≠ 10 := by
  intro x hx e
  rw [cutL_eq] at hx
  obtain ⟨i, hi, he⟩ := List.getElem_of_mem hx
  have hl : s.data.toList.length = s.size := by rw [Array.length_toList]; rfl
  have hi2 : i < k - b := by rw [List.length_take] at hi; omega
  rw [List.getElem_take, List.getElem_drop] at he
  refine h (b + i) (by omega) (by omega) ?_
  rw [← byt_eq s (b + i) (by omega)]
  have h2 : s[b + i]'(by omega) = x := by rw [← he]; simp; rfl
  rw [h2, e]
  rfl
theorem rest_nl (s : ByteArray) (b k : Nat) (hb : b ≤ k) (hk : k < s.size) (hno : ∀ i, b ≤ i → i < k → byt s i ≠ 10) (h10 : byt s k = 10) : rest s b = cutL s b k :: rest s (k + 1) := by
  have e : s.data.toList.drop b = cutL s b k ++ 10 :: s.data.toList.drop (k + 1) := by
    rw [cutL_eq]
    conv => lhs; rw [← List.take_append_drop (k - b) (s.data.toList.drop b)]
    rw [List.drop_drop, show b + (k - b) = k from by omega, drop_byt s k hk, h10]
    rfl
  rw [rest, e, splitL_nl _ _ (cutL_mem s b k (by omega) hno)]
  rfl
theorem rest_end (s : ByteArray) (b : Nat) (hb : b < s.size) (hno : ∀ i, b ≤ i → i < s.size → byt s i ≠ 10) : rest s b = [cutL s b s.size] := by
  have hl : s.data.toList.length = s.size := by rw [Array.length_toList]; rfl
  have e : s.data.toList.drop b = cutL s b s.size := by
    rw [cutL_eq, List.take_of_length_le (by rw [List.length_drop]; omega)]
  rw [rest, e]
  exact splitL_no _ (cutL_mem s b s.size (Nat.le_refl _) hno) (fun h => by have := cutL_length s b s.size (by omega) (Nat.le_refl _); rw [h] at this; simp at this; omega)
theorem rest_none (s : ByteArray) : rest s s.size = [] := by
  have hl : s.data.toList.length = s.size := by rw [Array.length_toList]; rfl
  rw [rest, List.drop_of_length_le (by omega)]
  rfl
theorem splitL_len : ∀ l : List UInt8, (splitL l).length ≤ l.length
  | [] => Nat.le_refl _
  | b :: r => by
    have ih := splitL_len r
    rw [splitL]
    by_cases h : b = 10
    · rw [if_pos h]; simp; omega
    · rw [if_neg h]
      cases e : splitL r with
      | nil => simp
      | cons x xs => rw [e] at ih; simp at ih ⊢; omega
theorem splitL_size : ∀ (l : List UInt8), ∀ x ∈ splitL l, x.length ≤ l.length
  | [], x, h => by simp [splitL] at h
  | b :: r, x, h => by
    have ih := splitL_size r
    rw [splitL] at h
    by_cases hb : b = 10
    · rw [if_pos hb] at h
      rcases List.mem_cons.1 h with rfl | h
      · simp
      · have := ih x h; simp; omega
    · rw [if_neg hb] at h
      cases e : splitL r with
      | nil => rw [e] at h; simp at h; subst h; simp
      | cons y ys =>
        rw [e] at h ih
        rcases List.mem_cons.1 h with rfl | h
        · have := ih y (by simp); simp; omega
        · have := ih x (by simp [h]); simp; omega
noncomputable def decO (l : List UInt8) : Option Int := by
  classical exact if okD ⟨l.toArray⟩ then some (valD ⟨l.toArray⟩ l.length : Int) else none
def bitsO (l : List UInt8) : Option (List Bool) := if l = [45] then some [] else if l.all (fun b => b == 48 || b == 49) = true then some (l.map (· == 49)) else none
def kws : List (List UInt8) := [[98, 101, 103, 105, 110], [112, 117, 116], [100, 114, 111, 112], [101, 110, 100], [115, 116, 111, 112], [114, 101, 97, 100], [103, 101, 116], [99, 108, 111, 115, 101], [112, 97, 99, 107], [102, 97, 108, 108]]
def kns : List Nat := [1, 3, 2, 1, 1, 2, 3, 2, 1, 3]
def isKw (p : List (List UInt8)) (i : Nat) : Bool := decide (p.getD 0 [] = kws.getD i []) && decide (p.length = kns.getD i 0)
def evt0 (i : Nat) : Evt := ⟨(i : Int) + 1, 1, ⟨#[]⟩, ⟨#[]⟩, 0, [], -1⟩
noncomputable def evAt (p : List (List UInt8)) : Nat → Option Evt
  | 1 => some { evt0 1 with key := ⟨(p.getD 1 []).toArray⟩, val := ⟨(p.getD 2 []).toArray⟩ }
  | 2 => some { evt0 2 with key := ⟨(p.getD 1 []).toArray⟩ }
  | 5 => (decO (p.getD 1 [])).map fun n => { evt0 5 with id := n }
  | 6 => (decO (p.getD 1 [])).map fun n => { evt0 6 with id := n, key := ⟨(p.getD 2 []).toArray⟩ }
  | 7 => (decO (p.getD 1 [])).map fun n => { evt0 7 with id := n }
  | 9 => (decO (p.getD 1 [])).bind fun n => (bitsO (p.getD 2 [])).map fun bs => { evt0 9 with stage := n, left := bs }
  | i => some (evt0 i)
noncomputable def evOf (p : List (List UInt8)) : Option Evt := ((List.range 10).find? (isKw p)).bind (evAt p)
def pgw : List UInt8 := [112, 97, 103, 101, 115]
noncomputable def pagesO (p : List (List UInt8)) : Option Int := if p.length = 2 ∧ p.getD 0 [] = pgw then (decO (p.getD 1 [])).bind fun n => if 4 ≤ n ∧ n ≤ 40 then some n else none else none
noncomputable def scrGo : List (List UInt8) → Nat → Int → List Evt → Int × List Evt × Int
  | [], _, pg, out => if pg = 0 then (0, [], 1) else (pg, out, 0)
  | l :: r, i, pg, out =>
    if (partsOut ⟨l.toArray⟩).2 = false then (0, [], (i : Int) + 1)
    else if (partsOut ⟨l.toArray⟩).1 = [] ∨ ((partsOut ⟨l.toArray⟩).1.getD 0 []).getD 0 0 = 35 then scrGo r (i + 1) pg out
    else if pg = 0 then match pagesO (partsOut ⟨l.toArray⟩).1 with
      | some n => scrGo r (i + 1) n out
      | none => (0, [], (i : Int) + 1)
    else match evOf (partsOut ⟨l.toArray⟩).1 with
      | some e => if e.ok = true ∧ out.length ≠ 70 then scrGo r (i + 1) pg (out ++ [e]) else (0, [], (i : Int) + 1)
      | none => (0, [], (i : Int) + 1)
noncomputable def scrO (s : ByteArray) : Int × List Evt × Int := if 3000 < s.size ∨ 90 < (linesOf s).length then (0, [], -1) else scrGo (linesOf s) 0 0 []
open Go.RowKit
structure Ast where
  F : Nat → Prop
  P : World → Prop
  loc : ∀ W W', P W → (∀ k, F k → W'.heap[k]? = W.heap[k]?) → P W'
def cellA (g : Nat) (o : Obj) : Ast := ⟨fun k => k = g, fun W => W.heap[g]? = some o, fun _ _ h hk => (hk g rfl).trans h⟩
def rowA (B e sz : Nat) (v : Value) (n : Nat) (xs : List Value) : Ast := ⟨fun k => v.ownBlock = some k, fun W => W.ownsRow B e sz v n xs, fun W W' h hk => by
  refine ⟨h.1, ?_⟩
  rcases h.2 with ⟨rfl, hn⟩ | ⟨g, cap, cur, rfl, hg, hh, rest⟩
  · exact Or.inl ⟨rfl, hn⟩
  · exact Or.inr ⟨g, cap, cur, rfl, hg, (hk g rfl).trans hh, rest⟩⟩
def Sep (B : Nat) (W : World) (l : List Ast) : Prop := (∀ A ∈ l, A.P W ∧ ∀ k, A.F k → B ≤ k ∧ k < W.heap.size) ∧ l.Pairwise (fun A A' => ∀ k, A.F k → ¬ A'.F k)
theorem sep_nil (B : Nat) (W : World) : Sep B W [] := ⟨fun _ h => (by cases h), List.Pairwise.nil⟩
theorem sep_get {B : Nat} {W : World} {l : List Ast} (h : Sep B W l) (i : Nat) {A : Ast} (hi : l[i]? = some A) : A.P W := (h.1 A (List.mem_of_getElem? hi)).1
theorem sep_lt {B : Nat} {W : World} {l : List Ast} (h : Sep B W l) (i : Nat) {A : Ast} (hi : l[i]? = some A) : ∀ k, A.F k → B ≤ k ∧ k < W.heap.size := (h.1 A (List.mem_of_getElem? hi)).2
theorem sep_apart {B : Nat} {W : World} {l : List Ast} (h : Sep B W l) (i j : Nat) {A A' : Ast} (hi : l[i]? = some A) (hj : l[j]? = some A') (hne : i ≠ j) : ∀ k, A.F k → ¬ A'.F k := by
  obtain ⟨hi1, rfl⟩ := List.getElem?_eq_some_iff.1 hi
  obtain ⟨hj1, rfl⟩ := List.getElem?_eq_some_iff.1 hj
  rcases Nat.lt_or_gt_of_ne hne with h1 | h1
  · exact List.pairwise_iff_getElem.1 h.2 i j hi1 hj1 h1
  · exact fun k ha hb => List.pairwise_iff_getElem.1 h.2 j i hj1 hi1 h1 k hb ha
theorem sep_agree {B : Nat} {W W' : World} {l : List Ast} (h : Sep B W l) (hs : W.heap.size ≤ W'.heap.size) (hk : ∀ A ∈ l, ∀ k, A.F k → W'.heap[k]? = W.heap[k]?) : Sep B W' l :=
  ⟨fun A hA => ⟨A.loc W W' (h.1 A hA).1 (hk A hA), fun k hF => ⟨((h.1 A hA).2 k hF).1, Nat.lt_of_lt_of_le ((h.1 A hA).2 k hF).2 hs⟩⟩, h.2⟩
theorem sep_below {B : Nat} {W W' : World} {l : List Ast} (h : Sep B W l) (hb : Below W.heap.size W W') : Sep B W' l :=
  sep_agree h hb.size (fun A hA k hF => hb.block k ((h.1 A hA).2 k hF).2)
theorem sep_drew {B : Nat} {W : World} {l : List Ast} (h : Sep B W l) : Sep B W.drew l := sep_below h (Below.refl _ _).drew
theorem sep_cons {B : Nat} {W : World} {A : Ast} {l : List Ast} : Sep B W (A :: l) ↔ (A.P W ∧ ∀ k, A.F k → B ≤ k ∧ k < W.heap.size) ∧ (∀ A' ∈ l, ∀ k, A.F k → ¬ A'.F k) ∧ Sep B W l := by
  constructor
  · rintro ⟨h1, h2⟩
    obtain ⟨h3, h4⟩ := List.pairwise_cons.1 h2
    exact ⟨h1 A List.mem_cons_self, h3, fun A' h => h1 A' (List.mem_cons_of_mem _ h), h4⟩
  · rintro ⟨h1, h2, h3, h4⟩
    refine ⟨fun A' h => ?_, List.pairwise_cons.2 ⟨h2, h4⟩⟩
    rcases List.mem_cons.1 h with rfl | h
    · exact h1
    · exact h3 A' h
theorem sep_add {B : Nat} {W W' : World} {l : List Ast} (h : Sep B W l) (hb : Below W.heap.size W W') (A : Ast) (hP : A.P W') (hF : ∀ k, A.F k → W.heap.size ≤ k ∧ k < W'.heap.size) (hB : B ≤ W.heap.size) : Sep B W' (A :: l) :=
  sep_cons.2 ⟨⟨hP, fun k hk => ⟨Nat.le_trans hB (hF k hk).1, (hF k hk).2⟩⟩, fun A' hA' k hk hk' => by have := ((h.1 A' hA').2 k hk').2; have := (hF k hk).1; omega, sep_below h hb⟩
theorem sep_new {B : Nat} {W : World} {l : List Ast} (h : Sep B W l) (o : Obj) (hB : B ≤ W.heap.size) : Sep B (W.alloc o) (cellA W.heap.size o :: l) :=
  sep_add h ((Below.refl _ _).alloc (Nat.le_refl _) o) (cellA W.heap.size o) (heap_alloc_new W o) (fun k hk => by have hk : k = W.heap.size := hk; subst hk; exact ⟨Nat.le_refl _, by simp⟩) hB
theorem sep_set {B : Nat} {W W' : World} {l : List Ast} (h : Sep B W l) (i : Nat) {A : Ast} (hi : l[i]? = some A) (hk : Kept W W' A.F) (A' : Ast) (hP : A'.P W') (hF : ∀ k, A'.F k → (A.F k ∨ W.heap.size ≤ k) ∧ k < W'.heap.size) (hB : B ≤ W.heap.size) : Sep B W' (l.set i A') := by
  obtain ⟨hi1, hie⟩ := List.getElem?_eq_some_iff.1 hi
  have hap : ∀ (j : Nat) (hj : j < l.length), j ≠ i → ∀ k, A'.F k → ¬ l[j].F k := fun j hj hne k ha hb => by
    rcases (hF k ha).1 with h1 | h1
    · exact sep_apart h i j hi (List.getElem?_eq_getElem hj) (fun e => hne e.symm) k h1 hb
    · have := (sep_lt h j (List.getElem?_eq_getElem hj) k hb).2; omega
  refine ⟨fun X hX => ?_, ?_⟩
  · obtain ⟨j, hj, rfl⟩ := List.getElem_of_mem hX
    rw [List.length_set] at hj
    rw [List.getElem_set]
    split
    · refine ⟨hP, fun k hk' => ⟨?_, (hF k hk').2⟩⟩
      rcases (hF k hk').1 with h1 | h1
      · exact (sep_lt h i hi k h1).1
      · omega
    · rename_i hne
      have h1 := h.1 l[j] (List.getElem_mem hj)
      have h2 : ∀ k, l[j].F k → ¬ A.F k := sep_apart h j i (List.getElem?_eq_getElem hj) hi (fun e => hne e.symm)
      exact ⟨l[j].loc W W' h1.1 (fun k hF' => hk.2.2.2.2 k (h1.2 k hF').2 (h2 k hF')), fun k hF' => ⟨(h1.2 k hF').1, Nat.lt_of_lt_of_le (h1.2 k hF').2 hk.2.2.2.1⟩⟩
  · refine List.pairwise_iff_getElem.2 fun p q hp hq hpq => ?_
    rw [List.length_set] at hp hq
    rw [List.getElem_set, List.getElem_set]
    split
    · rename_i e
      subst e
      rw [if_neg (by omega)]
      exact hap q hq (by omega)
    · rename_i e
      split
      · rename_i e2
        subst e2
        exact fun k ha hb => hap p hp (by omega) k hb ha
      · exact List.pairwise_iff_getElem.1 h.2 p q hp hq hpq
theorem sep_store {B : Nat} {W : World} {l : List Ast} (h : Sep B W l) (i : Nat) {g : Nat} {cs : Array Value} {T : TypeId} (hi : l[i]? = some (cellA g (.cells cs T (0, 0)))) (off : Nat) (v : Value) : Sep B (W.setCell ⟨g, off, none⟩ v) (l.set i (cellA g (.cells (cs.setIfInBounds off v) T (0, 0)))) := by
  have h1 : W.heap[g]? = some (.cells cs T (0, 0)) := sep_get h i hi
  have h2 := sep_lt h i hi g rfl
  refine sep_set h i hi (kept_setCell W g off v) _ (heap_setCell_same W g off cs T v h1) (fun k hk => ⟨Or.inl hk, ?_⟩) (Nat.le_of_lt (Nat.lt_of_le_of_lt h2.1 h2.2))
  have hk : k = g := hk
  subst hk
  simpa using h2.2
theorem sep_grow {B : Nat} {W W0 W' : World} {l : List Ast} (h : Sep B W l) (hb : Below W.heap.size W W0) (i : Nat) {B' e sz n n' : Nat} {v : Value} {xs xs' : List Value} (hi : l[i]? = some (rowA B' e sz v n xs)) (hgr : W0.grownBy W' v.ownBlock) {b c : Nat} (hown : W'.ownsRow B' e sz (.slice (some ⟨b, 0, none⟩) n' c) n' xs') (hbb : v.ownBlock = some b ∨ W.heap.size ≤ b) (hB : B ≤ W.heap.size) : Sep B W' (l.set i (rowA B' e sz (.slice (some ⟨b, 0, none⟩) n' c) n' xs')) := by
  refine sep_set h i hi ⟨hgr.os.trans hb.os, hgr.tape.trans hb.tape, hgr.output.trans hb.output, Nat.le_trans hb.size hgr.size, fun j hj hn => (hgr.block j (Nat.lt_of_lt_of_le hj hb.size) (fun e => hn e.symm)).trans (hb.block j hj)⟩ _ hown (fun k hk => ⟨?_, (hown.lt k hk).2⟩) hB
  injection hk with hk
  have hk : b = k := hk
  subst hk
  exact hbb
theorem grown_below {B : Nat} {W W0 W' : World} {v : Value} {B' e sz n : Nat} {xs : List Value} (hb : Below W.heap.size W W0) (hgr : W0.grownBy W' v.ownBlock) (ho : W.ownsRow B' e sz v n xs) (hB : B ≤ B') (hBW : B ≤ W.heap.size) : Below B W W' :=
  ⟨hgr.os.trans hb.os, hgr.tape.trans hb.tape, hgr.output.trans hb.output, Nat.le_trans hb.size hgr.size, fun k hk => (hgr.block k (Nat.lt_of_lt_of_le (Nat.lt_of_lt_of_le hk hBW) hb.size) (fun e => by have := (ho.lt k e.symm).1; omega)).trans (hb.block k (Nat.lt_of_lt_of_le hk hBW))⟩
open Go.RowKit
def overL : List Value → Nat → List Value → List Value
  | cs, _, [] => cs
  | cs, o, v :: r => overL (cs.set o v) (o + 1) r
def over : Array Value → Nat → List Value → Array Value
  | cs, _, [] => cs
  | cs, o, v :: r => over (cs.setIfInBounds o v) (o + 1) r
theorem over_list : ∀ (vs : List Value) (cs : Array Value) (o : Nat), (over cs o vs).toList = overL cs.toList o vs
  | [], _, _ => rfl
  | v :: r, cs, o => by
    rw [over, overL, over_list r, Array.toList_setIfInBounds]
theorem overL_all : ∀ (vs pre cs : List Value), vs.length = cs.length → overL (pre ++ cs) pre.length vs = pre ++ vs
  | [], pre, cs, h => by
    rw [List.eq_nil_of_length_eq_zero h.symm]
    rfl
  | v :: r, pre, [], h => by simp at h
  | v :: r, pre, c :: cs, h => by
    have ih := overL_all r (pre ++ [v]) cs (by simpa using h)
    rw [overL, List.set_append_right _ _ (Nat.le_refl _), Nat.sub_self, List.set_cons_zero]
    rw [List.length_append, List.length_singleton, List.append_assoc, List.append_assoc] at ih
    exact ih
theorem set_same {α : Type} {l : List α} {i : Nat} {x : α} (h : l[i]? = some x) : l.set i x = l := by
  obtain ⟨hi, rfl⟩ := List.getElem?_eq_some_iff.1 h
  exact List.set_getElem_self hi
theorem sep_cells {B : Nat} : ∀ (vs : List Value) (off : Nat) {W : World} {l : List Ast} (_ : Sep B W l) (i : Nat) {g : Nat} {cs : Array Value} {T : TypeId} (_ : l[i]? = some (cellA g (.cells cs T (0, 0)))), Sep B (W.setCells g off vs) (l.set i (cellA g (.cells (over cs off vs) T (0, 0))))
  | [], off, W, l, h, i, g, cs, T, hi => by
    rw [show over cs off [] = cs from rfl, set_same hi]
    exact h
  | v :: r, off, W, l, h, i, g, cs, T, hi => by
    have hlt : i < l.length := (List.getElem?_eq_some_iff.1 hi).1
    have h2 := sep_cells r (off + 1) (sep_store h i hi off v) i (g := g) (cs := cs.setIfInBounds off v) (T := T) (by rw [List.getElem?_set_self hlt])
    rw [List.set_set] at h2
    exact h2
theorem sep_cellsTo {B : Nat} {W : World} {l : List Ast} (h : Sep B W l) (i : Nat) {g : Nat} {cs : Array Value} {T : TypeId} (hi : l[i]? = some (cellA g (.cells cs T (0, 0)))) (off : Nat) (vs : List Value) (cs' : Array Value) (he : overL cs.toList off vs = cs'.toList) : Sep B (W.setCells g off vs) (l.set i (cellA g (.cells cs' T (0, 0)))) := by
  have e : over cs off vs = cs' := Array.toList_inj.1 (by rw [over_list]; exact he)
  subst e
  exact sep_cells vs off h i hi
theorem sep_cellsAll {B : Nat} {W : World} {l : List Ast} (h : Sep B W l) (i : Nat) {g : Nat} {cs : Array Value} {T : TypeId} (hi : l[i]? = some (cellA g (.cells cs T (0, 0)))) (cs' : Array Value) (hn : cs'.size = cs.size) : Sep B (W.setCells g 0 cs'.toList) (l.set i (cellA g (.cells cs' T (0, 0)))) :=
  sep_cellsTo h i hi 0 cs'.toList cs' (overL_all cs'.toList [] cs.toList (by simpa using hn))
theorem below_cells {B : Nat} {W0 : World} {g : Nat} (hg : B ≤ g) : ∀ (vs : List Value) (o : Nat) (W : World), Below B W0 W → Below B W0 (W.setCells g o vs)
  | [], _, _, h => h
  | v :: r, o, _, h => below_cells hg r (o + 1) _ (h.setCell (p := ⟨g, o, none⟩) hg v)
theorem size_cells (g : Nat) : ∀ (vs : List Value) (o : Nat) (W : World), (W.setCells g o vs).heap.size = W.heap.size
  | [], _, _ => rfl
  | v :: r, o, W => by rw [World.setCells, size_cells g r (o + 1)]; simp
theorem there_of {W : World} {g : Nat} {cs : Array Value} {T : TypeId} (h : W.heap[g]? = some (.cells cs T (0, 0))) (o n : Nat) (hn : o + n ≤ cs.size) : W.there g o n := fun j hj => by
  refine ⟨?_, (cell_at h (o + j)).2⟩
  rw [(cell_at h (o + j)).1, Array.getElem?_eq_getElem (by omega)]
  rfl
theorem wpList_loadL {P : Program} {ops : Array Oper} {rest : List Oper} {op : Oper} {a : Act} {w : World} {Q : Exit → Act → World → Prop} (hgd : op.guard = none) (ty : TypeId) (x : Operand) (ho : op.op = .load ty x)
    (b o : Nat) (hx : a.eval x = .pointer (some ⟨b, o, none⟩)) (cs : Array Value) (hc : w.rangeAt b o cs.toList) (d : TypeDesc)
    (hu : P.underlying ty = some d) (hd : d.isRow = true) (hi : (P.info? ty).map (·.size) = some cs.size)
    (h : wpList P ops Q rest (a.put op.dst (.agg cs)) w) : wpList P ops Q (op :: rest) a w :=
  wpList_load_mid hgd ty x ho b o hx cs.toList d hc hu hd (by rw [hi, Array.length_toList]) (by rw [Array.toArray_toList]; exact h)
theorem wpList_storeL {P : Program} {ops : Array Oper} {rest : List Oper} {op : Oper} {a : Act} {w w' : World} {Q : Exit → Act → World → Prop} (hgd : op.guard = none) (ty : TypeId) (x y : Operand) (ho : op.op = .store ty x y)
    (b o : Nat) (cs : Array Value) (hx : a.eval x = .pointer (some ⟨b, o, none⟩)) (hy : a.eval y = .agg cs)
    (ht : w.there b o cs.size) (hi : (P.info? ty).map (·.size) = some cs.size) (h1 : cs.toList.all (·.oneCell') = true) (hw : w.setCells b o cs.toList = w')
    (h : wpList P ops Q rest (a.put op.dst undef) w') : wpList P ops Q (op :: rest) a w := by
  subst hw
  exact wpList_store_mid hgd ty x y ho b o cs hx hy ht hi (by rw [← Array.all_toList]; exact h1) h
theorem step_storeL {P : Program} {ops : Array Oper} {o : Oper} {a : Act} {K : Act → World → Prop} {Q : Exit → Act → World → Prop} {E : Prop} {W W' : World} (hgd : o.guard = none) (ty : TypeId) (x y : Operand) (ho : o.op = .store ty x y)
    (b off : Nat) (cs : Array Value) (hx : a.eval x = .pointer (some ⟨b, off, none⟩)) (hy : a.eval y = .agg cs)
    (ht : W.there b off cs.size) (hi : (P.info? ty).map (·.size) = some cs.size) (h1 : cs.toList.all (·.oneCell') = true) (hw : W.setCells b off cs.toList = W')
    (h : K (a.put o.dst undef) W') : if Region.wanted o (yielded ops a.tmps) = true then Oper.wp P o a W K Q else E := by
  have hw' : Region.wanted o (yielded ops a.tmps) = true := by simp [Region.wanted, hgd]
  rw [if_pos hw']
  subst hw
  exact wp_store_mid ty x y ho b off cs hx hy ht hi (by rw [← Array.all_toList]; exact h1) h
theorem yields_loadL {P : Program} {ops : Array Oper} {S : World → Prop} {op : Oper} {a : Act} (hw : Region.wanted op (yielded ops a.tmps) = true) (ty : TypeId) (x : Operand) (ho : op.op = .load ty x)
    (b o : Nat) (hx : a.eval x = .pointer (some ⟨b, o, none⟩)) (cs : Array Value) (d : TypeDesc) (hS : ∀ w, S w → w.rangeAt b o cs.toList)
    (hu : P.underlying ty = some d) (hd : d.isRow = true) (hi : (P.info? ty).map (·.size) = some cs.size) : YieldsIf P ops S op (.agg cs) a := by
  have h := yieldsIf_load_mid (ops := ops) hw ty x ho b o hx cs.toList d hS hu hd (by rw [hi, Array.length_toList])
  rw [Array.toArray_toList] at h
  exact h
theorem range_all {W : World} {g : Nat} {cs : Array Value} {T : TypeId} (h : W.heap[g]? = some (.cells cs T (0, 0))) : W.rangeAt g 0 cs.toList := fun j v hv => by
  rw [(cell_at h (0 + j)).1, Nat.zero_add]
  simpa using hv
theorem run_agg {P : Program} {w : World} {b : Nat} {ty : TypeId} {cs : Array Value} {d : TypeDesc} (hc : w.rangeAt b 0 cs.toList) (hu : P.underlying ty = some d) (hd : d.isRow = true) (hi : (P.info? ty).map (·.size) = some cs.size) : (loadVar ty ⟨b, 0, none⟩).run P w = .ok (.agg cs) w := by
  have h := run_loadVar_mid w b 0 ty cs.toList d hc hu hd (by rw [hi, Array.length_toList])
  rw [Array.toArray_toList] at h
  exact h
theorem results_ct {P : Program} {fn : Func} {t u : Tmp} {ty : TypeId} (h : fn.results = #[.cell t ty, .tmp u]) {tmps : Array Value} {w : World} {b : Nat} (hp : tmps.getD t undef = .pointer (some ⟨b, 0, none⟩)) {cs : Array Value} {x : Value} (hx : tmps.getD u undef = x) (hl : (loadVar ty ⟨b, 0, none⟩).run P w = .ok (.agg cs) w) : (results fn tmps).run P w = .ok (.tuple #[.agg cs, x]) w := by
  simp only [Array.getD_eq_getD_getElem?] at hp hx
  simp [results, h, hp, hx, asAddr, hl]
open Go.RowKit
theorem step_call1 {P : Program} (w : World) {ops : Array Oper} {o : Oper} {a : Act} {K : Act → World → Prop} {Q : Exit → Act → World → Prop} {E : Prop} (hgd : o.guard = none) (f : FuncId) (fn : Func) (hfn : P.funcs[f]? = some fn) (hname : ¬ fn.name = "runtime.NumGoroutine") (hbody : ¬ fn.body = none) (s : Operand) (ts : Array TypeId)
    (ho : o.op = .call { callee := .value (.func f), args := #[s], argTypes := ts }) (u : Value) (hs : a.eval s = u)
    (R : Ending → World → Prop) (hc : Calls P f #[u] w R) (hR : ∀ e w', R e w' → ∃ r, e = .returned r ∧ K (a.put o.dst r) w') :
    if Region.wanted o (yielded ops a.tmps) = true then Oper.wp P o a w K Q else E := by
  have hw : Region.wanted o (yielded ops a.tmps) = true := by simp [Region.wanted, hgd]
  rw [if_pos hw]
  unfold Oper.wp execOp
  have hf : a.eval (.func f) = .func (.func f) #[] #[] := rfl
  simp only [ho, resolve, invoke, hf, Deferred.ofValue, callFunc, Sem.run_bind, Sem.run_pure, Result.andThen_ok, List.map_toArray, List.map_cons, List.map_nil, hs]
  simp [go_sem, hfn, hname, hbody]
  refine hc.mono ?_
  intro e w' h
  obtain ⟨r, rfl, hk⟩ := hR e w' h
  exact hk
open Go.RowKit
theorem takeW {P : Program} {md : Region.Mode} {ops : Array Oper} {Q : Exit → Act → World → Prop} {S : World → Prop} (i d : Nat) {oi : Oper} (v : Value) {fuel : Nat} {listed : Array Bool} {a : Act} {w : World} (hi : ops[i]? = some oi) (hd : oi.dst = some d)
    (hs : Region.noSelect ops = true) (hf : Region.free md ops listed i = true) (hr : (Region.ready md ops listed).contains i = true)
    (hQ : ∀ c a w, Q (.panic c) (a.put oi.dst v) w → Q (.panic c) a w) (hy : YieldsIf P ops S oi v a) (hS : S w)
    (h : wpAnyH P md ops Q S fuel (listed.setIfInBounds i true) ⟨a.tmps.setIfInBounds d v, a.defers⟩ w) : wpAnyH P md ops Q S (fuel + 1) listed a w :=
  wpAnyH_take hi hs hf hr hQ hy hS (by rw [hd]; exact h)
open Go.RowKit
theorem Tryd.sizeEvI : (Tryd.prog.info? 35).map (·.size) = some 7 := by kernel_rfl
open Go.RowKit
def ev7 (p : Evt × Value) : List Value := [.int .i64 p.1.kind, .int .i64 p.1.id, .string p.1.key, .string p.1.val, .int .i64 p.1.stage, p.2, .int .i64 p.1.torn]
def evs (l : List (Evt × Value)) : List Value := l.flatMap ev7
theorem evs_cons (p : Evt × Value) (l : List (Evt × Value)) : evs (p :: l) = ev7 p ++ evs l := rfl
theorem evs_append (l m : List (Evt × Value)) : evs (l ++ m) = evs l ++ evs m := by simp [evs]
theorem evs_at (l : List (Evt × Value)) : ∀ (k j : Nat) (p : Evt × Value), l[k]? = some p → j < 7 → (evs l)[k * 7 + j]? = (ev7 p)[j]? := by
  induction l with
  | nil => intro k j p h; simp at h
  | cons q l ih =>
    intro k j p h hj
    rw [evs_cons]
    cases k with
    | zero =>
      simp at h
      subst h
      rw [List.getElem?_append_left (by simp [ev7]; omega), Nat.zero_mul, Nat.zero_add]
    | succ k =>
      rw [List.getElem?_append_right (by simp [ev7]; omega), ← ih k j p (by simpa using h) hj]
      congr 1
      simp [ev7]
      omega
def EvsAt (w : World) (v : Value) (es : List Evt) : Prop :=
  ∃ l : List (Evt × Value), l.map Prod.fst = es ∧ RowAt w 7 v l.length (evs l) ∧ ∀ p ∈ l, RowAt w 1 p.2 p.1.left.length (bools p.1.left)
theorem evs_get {w : World} {a : Option Addr} {n cap : Nat} {es : List Evt} (h : EvsAt w (.slice a n cap) es) {k : Nat} {e : Evt} (hk : es[k]? = some e) :
    ∃ (b off : Nat) (cs : Array Value), a = some ⟨b, off, none⟩ ∧ b < w.heap.size ∧ cs.size = 7 ∧ w.rangeAt b (off + k * 7) cs.toList ∧ EvAt w (.agg cs) e ∧ ∃ x c, cs = #[.int .i64 e.kind, .int .i64 e.id, .string e.key, .string e.val, .int .i64 e.stage, .slice x e.left.length c, .int .i64 e.torn] ∧ RowAt w 1 (.slice x e.left.length c) e.left.length (bools e.left) := by
  obtain ⟨l, rfl, h2, h3⟩ := h
  rw [List.getElem?_map] at hk
  obtain ⟨p, hp, rfl⟩ := Option.map_eq_some_iff.1 hk
  have hlt : k < l.length := (List.getElem?_eq_some_iff.1 hp).1
  have h4 := h3 p (List.mem_of_getElem? hp)
  obtain ⟨-, a', cap', e, hr⟩ := h2
  injection e with e _ _
  subst e
  rcases hr with h0 | ⟨b, off, rfl, hb, hc⟩
  · omega
  · obtain ⟨x, c, hx⟩ : ∃ x c, p.2 = .slice x p.1.left.length c := by obtain ⟨-, x, c, e, -⟩ := h4; exact ⟨x, c, e⟩
    have hat : ∀ j v, (ev7 p)[j]? = some v → w.cell? ⟨b, off + k * 7 + j, none⟩ = some v := fun j v hv => by
      have hj : j < 7 := by have := (List.getElem?_eq_some_iff.1 hv).1; simpa [ev7] using this
      rw [Nat.add_assoc, hc (k * 7 + j) (by omega), evs_at l k j p hp hj, hv]
    rw [ev7, hx] at hat
    rw [hx] at h4
    exact ⟨b, off, _, rfl, hb, rfl, hat, ⟨x, c, rfl, h4⟩, x, c, rfl, h4⟩
def EvsOwn (w : World) (B : Nat) (v : Value) (l : List (Evt × Value)) : Prop := w.ownsRow B 35 7 v l.length (evs l) ∧ (∀ p ∈ l, w.ownsRow B 4 1 p.2 p.1.left.length (bools p.1.left)) ∧ ∀ (i j : Nat) (p q : Evt × Value) (b : Nat), l[i]? = some p → l[j]? = some q → p.2.ownBlock = some b → q.2.ownBlock = some b → i = j
theorem evsOwn_stays {w w' : World} {B : Nat} {v : Value} {l : List (Evt × Value)} (h : EvsOwn w B v l) (hb : Below w.heap.size w w') : EvsOwn w' B v l := ⟨own_stays h.1 hb, fun p hp => own_stays (h.2.1 p hp) hb, h.2.2⟩
theorem evs_of_own {w : World} {B : Nat} {v : Value} {l : List (Evt × Value)} (h : EvsOwn w B v l) : EvsAt w v (l.map Prod.fst) := ⟨l, rfl, row_of_own h.1, fun p hp => row_of_own (h.2.1 p hp)⟩
theorem Tryd.ev_bool : (35 : Nat) ≠ 4 := by decide
open Go.RowKit
set_option maxHeartbeats 2000000 in
set_option maxRecDepth 100000 in
theorem implReadDecimal_any (s : ByteArray) (hs : s.size ≤ 1048576) (w : World) :
    Calls Tryd.prog 53 #[.string s] w fun e w' => (okD s → e = .returned (.tuple #[.int .i64 (valD s s.size : Int), .bool true])) ∧ (¬ okD s → e = .returned (.tuple #[.int .i64 0, .bool false])) ∧ Below w.heap.size w w' := by
  by_cases h0 : s.size = 0
  · have hno : ¬ okD s := fun h => by have := h.1; omega
    have HN := hide hno
    have hemp : s.toList.isEmpty = true := by rw [ByteArray.toList_eq, List.isEmpty_iff, ← List.length_eq_zero_iff, len_data]; exact h0
    clear hno h0
    go_enter Tryd.func53, Tryd.ntmps53
    go_wp2
    go_step3
    go_wp2
    all_goals (try rw [Exit.noGoto_ret])
    go_ret2
    exact ⟨fun h => absurd h HN.out, fun _ => rfl, Below.refl _ _⟩
  · have hemp : s.toList.isEmpty = false := by
      rw [ByteArray.toList_eq, ← Bool.not_eq_true, List.isEmpty_iff, ← List.length_eq_zero_iff, len_data]; exact h0
    have H0 := hide h0
    clear h0
    by_cases hone : 1 < s.size
    · obtain ⟨y0, hy0⟩ : ∃ y, y = byt s 0 := ⟨_, rfl⟩
      have hs0 : (s[0]'(by omega)).toNat = y0 := by rw [hy0]; exact byt_eq s 0 (by omega)
      by_cases hz : y0 = 48
      · have hno : ¬ okD s := fun h => by have := h.2.2.1; omega
        have hzb : ((y0 : Int) == 48) = true := by simp; omega
        have HN := hide hno
        clear hno hz hy0
        go_enter Tryd.func53, Tryd.ntmps53
        go_wp2
        go_step3
        go_wp2
        all_goals (try rw [Exit.noGoto_ret])
        go_ret2
        exact ⟨fun h => absurd h HN.out, fun _ => rfl, Below.refl _ _⟩
      · have hzb : ((y0 : Int) == 48) = false := by simp; omega
        have HLead : Hid (s.size = 1 ∨ byt s 0 ≠ 48) := hide (Or.inr (by rw [← hy0]; exact hz))
        clear hz hy0
        go_enter Tryd.func53, Tryd.ntmps53
        go_wp2
        go_step3
        go_wp2
        go_step3
        go_wp2
        go_loopg [4, 5] s.size (fun g nv iv wr => ∃ k N : Nat, k ≤ s.size ∧ nv = .int .i64 (N : Int) ∧ iv = .int .i64 (k : Int) ∧ g + k = s.size ∧ N ≤ 1000000000 ∧ Hid (N = valD s k) ∧ Hid (∀ i, i < k → isD (byt s i)) ∧ wr = w)
        case atStart => exact ⟨0, 0, Nat.zero_le _, rfl, rfl, rfl, by omega, hide rfl, hide (fun i h => by omega), rfl⟩
        case round =>
          obtain ⟨k, N, hk, rfl, rfl, hg, hN, HN, HD, rfl⟩ := hrel
          have HG := hide hg
          clear hg
          by_cases hlt : k < s.size
          · obtain ⟨y, hy⟩ : ∃ y, y = byt s k := ⟨_, rfl⟩
            have hyb : y < 256 := by rw [hy]; exact byt_lt s _
            have hs1 : s[k].toNat = y := by rw [hy]; exact byt_eq s _ hlt
            have HY := hide hy
            clear hy
            by_cases hd : 48 ≤ y ∧ y ≤ 57
            · obtain ⟨h1, h2⟩ := hd
              have HV : Hid (10 * N + (y - 48) = valD s (k + 1)) := hide (by rw [valD, ← HY.out, ← HN.out])
              have HD' : Hid (∀ i, i < k + 1 → isD (byt s i)) := hide (fun i hi => by by_cases e : i = k; (rw [e, ← HY.out]; exact ⟨h1, h2⟩); exact HD.out i (by omega))
              by_cases hbig : 1000000000 < 10 * N + (y - 48)
              · have HNo : Hid (¬ okD s) := hide (fun h => by have a := h.2.2.2; have b := valD_mono s (k + 1) s.size (by omega); rw [← HV.out] at b; omega)
                go_wp2
                all_goals (try rw [Exit.noGoto_ret])
                all_goals go_ret2
                all_goals exact ⟨fun h => absurd h HNo.out, fun _ => rfl, Below.refl _ _⟩
              · go_wp2
                go_roundg (gk - 1)
                case measure => have := HG.out; omega
                case rel => exact ⟨k + 1, 10 * N + (y - 48), by omega, by go_num, by go_num, by have := HG.out; omega, by omega, HV, HD', rfl⟩
            · have HNo : Hid (¬ okD s) := hide (fun h => hd (by have := h.2.1 k hlt; rw [← HY.out] at this; exact this))
              by_cases h1 : y < 48
              · clear hd
                go_wp2
                all_goals (try rw [Exit.noGoto_ret])
                all_goals go_ret2
                all_goals exact ⟨fun h => absurd h HNo.out, fun _ => rfl, Below.refl _ _⟩
              · have h2 : 57 < y := by omega
                clear hd
                go_wp2
                all_goals (try rw [Exit.noGoto_ret])
                all_goals go_ret2
                all_goals exact ⟨fun h => absurd h HNo.out, fun _ => rfl, Below.refl _ _⟩
          · have hkn : k = s.size := by omega
            rw [hkn] at HN HD
            clear hkn
            have HOk : Hid (okD s) := hide ⟨by have := H0.out; omega, HD.out, HLead.out, by rw [← HN.out]; exact hN⟩
            go_wp2
            all_goals (try rw [Exit.noGoto_ret])
            all_goals go_ret2
            all_goals exact ⟨fun _ => by rw [← HN.out]; rfl, fun h => absurd HOk.out h, Below.refl _ _⟩
    · have HLead : Hid (s.size = 1 ∨ byt s 0 ≠ 48) := hide (Or.inl (by have := H0.out; omega))
      go_enter Tryd.func53, Tryd.ntmps53
      go_wp2
      go_step3
      go_wp2
      go_step3
      go_wp2
      go_loopg [4, 5] s.size (fun g nv iv wr => ∃ k N : Nat, k ≤ s.size ∧ nv = .int .i64 (N : Int) ∧ iv = .int .i64 (k : Int) ∧ g + k = s.size ∧ N ≤ 1000000000 ∧ Hid (N = valD s k) ∧ Hid (∀ i, i < k → isD (byt s i)) ∧ wr = w)
      case atStart => exact ⟨0, 0, Nat.zero_le _, rfl, rfl, rfl, by omega, hide rfl, hide (fun i h => by omega), rfl⟩
      case round =>
        obtain ⟨k, N, hk, rfl, rfl, hg, hN, HN, HD, rfl⟩ := hrel
        have HG := hide hg
        clear hg
        by_cases hlt : k < s.size
        · obtain ⟨y, hy⟩ : ∃ y, y = byt s k := ⟨_, rfl⟩
          have hyb : y < 256 := by rw [hy]; exact byt_lt s _
          have hs1 : s[k].toNat = y := by rw [hy]; exact byt_eq s _ hlt
          have HY := hide hy
          clear hy
          by_cases hd : 48 ≤ y ∧ y ≤ 57
          · obtain ⟨h1, h2⟩ := hd
            have HV : Hid (10 * N + (y - 48) = valD s (k + 1)) := hide (by rw [valD, ← HY.out, ← HN.out])
            have HD' : Hid (∀ i, i < k + 1 → isD (byt s i)) := hide (fun i hi => by by_cases e : i = k; (rw [e, ← HY.out]; exact ⟨h1, h2⟩); exact HD.out i (by omega))
            by_cases hbig : 1000000000 < 10 * N + (y - 48)
            · have HNo : Hid (¬ okD s) := hide (fun h => by have a := h.2.2.2; have b := valD_mono s (k + 1) s.size (by omega); rw [← HV.out] at b; omega)
              go_wp2
              all_goals (try rw [Exit.noGoto_ret])
              all_goals go_ret2
              all_goals exact ⟨fun h => absurd h HNo.out, fun _ => rfl, Below.refl _ _⟩
            · go_wp2
              go_roundg (gk - 1)
              case measure => have := HG.out; omega
              case rel => exact ⟨k + 1, 10 * N + (y - 48), by omega, by go_num, by go_num, by have := HG.out; omega, by omega, HV, HD', rfl⟩
          · have HNo : Hid (¬ okD s) := hide (fun h => hd (by have := h.2.1 k hlt; rw [← HY.out] at this; exact this))
            by_cases h1 : y < 48
            · clear hd
              go_wp2
              all_goals (try rw [Exit.noGoto_ret])
              all_goals go_ret2
              all_goals exact ⟨fun h => absurd h HNo.out, fun _ => rfl, Below.refl _ _⟩
            · have h2 : 57 < y := by omega
              clear hd
              go_wp2
              all_goals (try rw [Exit.noGoto_ret])
              all_goals go_ret2
              all_goals exact ⟨fun h => absurd h HNo.out, fun _ => rfl, Below.refl _ _⟩
        · have hkn : k = s.size := by omega
          rw [hkn] at HN HD
          clear hkn
          have HOk : Hid (okD s) := hide ⟨by have := H0.out; omega, HD.out, HLead.out, by rw [← HN.out]; exact hN⟩
          go_wp2
          all_goals (try rw [Exit.noGoto_ret])
          all_goals go_ret2
          all_goals exact ⟨fun _ => by rw [← HN.out]; rfl, fun h => absurd HOk.out h, Below.refl _ _⟩
open Go
def wpAnyZ (P : Program) (md : Region.Mode) (ops : Array Oper) (Q : Exit → Act → World → Prop) (S : World → Prop) (z : Nat) : Nat → Array Bool → Act → World → Prop
  | 0, listed, a, w => Region.ready md ops listed = [] ∧ Q .normal a w
  | fuel + 1, listed, a, w =>
    (Region.ready md ops listed = [] → Q .normal a w) ∧
    ∀ i ∈ Region.ready md ops listed, wpOp P ops Q i (fun a' w' => (i = z ∨ S w') ∧ wpAnyZ P md ops Q S z fuel (listed.setIfInBounds i true) a' w') a w
section
variable {P : Program} {ops : Array Oper} {Q : Exit → Act → World → Prop} {md : Region.Mode} {S : World → Prop} {z : Nat}
theorem wpAny_of_heldZ : ∀ (fuel : Nat) (listed : Array Bool) (a : Act) (w : World), wpAnyZ P md ops Q S z fuel listed a w → wpAny P md ops Q fuel listed a w
  | 0, _, _, _, h => h
  | fuel + 1, _, _, _, h => ⟨h.1, fun i hi => wpOp_mono (fun a' w' h' => wpAny_of_heldZ fuel _ a' w' h'.2) (h.2 i hi)⟩
def waitsB (md : Region.Mode) (ops : Array Oper) (z i : Nat) : Bool := match ops[z]? with | some o => o.after.any (fun e => Region.binds md e && e.on == i) | none => false
theorem wpAnyZ_first {i : Nat} {oi : Oper} {v : Value} (hi : ops[i]? = some oi) (hz : waitsB md ops z i = true) (hsel : ∀ (j : Nat) (o : Oper) cs b, ops[j]? = some o → o.op ≠ .select cs b)
    (hQ : ∀ c a w, Q (.panic c) (a.put oi.dst v) w → Q (.panic c) a w) :
    ∀ (fuel : Nat) (listed : Array Bool) (a : Act) (w : World),
      (∀ j oj, ops[j]? = some oj → j ≠ i → listed.getD j true = false → (∀ e ∈ oj.after, Region.binds md e = true → e.on ≠ i) → oi.apart ops oj = true) →
      i ∈ Region.ready md ops listed → YieldsIf P ops S oi v a → S w →
      wpAnyZ P md ops Q S z fuel (listed.setIfInBounds i true) (a.put oi.dst v) w → wpAnyZ P md ops Q S z (fuel + 1) listed a w := by
  intro fuel
  induction fuel with
  | zero =>
    intro listed a w _ hr hy hS H
    refine ⟨fun h => (by rw [h] at hr; cases hr), fun j hj => ?_⟩
    by_cases hji : j = i
    · subst hji; exact hy.wpOp hi hS ⟨Or.inr hS, H⟩
    · have := ready_mono hj hji
      rw [H.1] at this
      cases this
  | succ fuel ih =>
    intro listed a w hfree hr hy hS H
    refine ⟨fun h => (by rw [h] at hr; cases hr), fun j hj => ?_⟩
    by_cases hji : j = i
    · subst hji; exact hy.wpOp hi hS ⟨Or.inr hS, H⟩
    · have h1 := H.2 j (ready_mono hj hji)
      obtain ⟨hjun, oj, hoj, hall⟩ := mem_ready.1 hj
      have hnot : ∀ e ∈ oj.after, Region.binds md e = true → e.on ≠ i := fun e he hb heq => by
        have h1 := hall e he hb
        have h0 := (mem_ready.1 hr).1
        rw [heq] at h1
        rcases Nat.lt_or_ge i listed.size with h' | h'
        · simp [h'] at h0 h1; rw [h0] at h1; cases h1
        · simp [Array.getElem?_eq_none h'] at h1
      have hjz : j ≠ z := fun e => by
        subst e
        unfold waitsB at hz
        rw [hoj] at hz
        obtain ⟨e, he, hb⟩ := Array.any_eq_true'.1 hz
        rw [Bool.and_eq_true, beq_iff_eq] at hb
        exact hnot e he hb.1 hb.2
      have h2 := wpOp_putIf hoj (hfree j oj hoj hji hjun hnot) (fun cs b => hsel i oi cs b hi) (fun cs b => hsel j oj cs b hoj) hQ hy h1
      have hfree' : ∀ k ok, ops[k]? = some ok → k ≠ i → (listed.setIfInBounds j true).getD k true = false →
          (∀ e ∈ ok.after, Region.binds md e = true → e.on ≠ i) → oi.apart ops ok = true := fun k ok hk hki hun hno => by
        refine hfree k ok hk hki ?_ hno
        by_cases hjk : j = k
        · subst hjk; exact hjun
        · rw [getD_set_ne true hjk] at hun; exact hun
      refine wpOp_mono (fun a' w' h3 => ⟨h3.2.1, ih (listed.setIfInBounds j true) a' w' hfree' (ready_mono hr (Ne.symm hji)) h3.1 (h3.2.1.resolve_left hjz) ?_⟩) h2
      rw [Array.setIfInBounds_comm _ _ hji]
      exact h3.2.2
theorem takeZ (i d : Nat) {oi : Oper} (v : Value) {fuel : Nat} {listed : Array Bool} {a : Act} {w : World} (hi : ops[i]? = some oi) (hd : oi.dst = some d)
    (hs : Region.noSelect ops = true) (hf : Region.free md ops listed i = true) (hr : (Region.ready md ops listed).contains i = true) (hz : waitsB md ops z i = true)
    (hQ : ∀ c a w, Q (.panic c) (a.put oi.dst v) w → Q (.panic c) a w) (hy : YieldsIf P ops S oi v a) (hS : S w)
    (h : wpAnyZ P md ops Q S z fuel (listed.setIfInBounds i true) ⟨a.tmps.setIfInBounds d v, a.defers⟩ w) : wpAnyZ P md ops Q S z (fuel + 1) listed a w :=
  wpAnyZ_first hi hz (Region.noSelect_spec hs) hQ fuel listed a w (Region.free_spec hi hf) (by simpa using hr) hy hS (by rw [hd]; exact h)
theorem readyZ {i : Nat} {o : Oper} {fuel : Nat} {listed : Array Bool} {a : Act} {w : World} (hr : Region.ready md ops listed = [i]) (ho : ops[i]? = some o)
    (h : ∀ K' : Act → World → Prop, Shut (∀ a w, (i = z ∨ S w) → wpAnyZ P md ops Q S z fuel (listed.setIfInBounds i true) a w → K' a w) → if Region.wanted o (yielded ops a.tmps) = true then Oper.wp P o a w K' Q else K' (a.put o.dst undef) w) :
    wpAnyZ P md ops Q S z (fuel + 1) listed a w := by
  refine ⟨fun h0 => absurd (hr ▸ h0) (by simp), fun j hj => ?_⟩
  rw [hr, List.mem_singleton] at hj
  subst hj
  unfold wpOp
  simp only [ho]
  have h1 := h (fun a' w' => (j = z ∨ S w') ∧ wpAnyZ P md ops Q S z fuel (listed.setIfInBounds j true) a' w') (fun a w hS hk => ⟨hS, hk⟩)
  split
  · rename_i hw
    rw [if_pos hw] at h1
    exact Or.inl h1
  · rename_i hw
    rw [if_neg hw] at h1
    exact h1
theorem doneZ {listed : Array Bool} {a : Act} {w : World} (hr : Region.ready md ops listed = []) (h : Q .normal a w) :
    ∀ fuel, wpAnyZ P md ops Q S z fuel listed a w
  | 0 => ⟨hr, h⟩
  | _ + 1 => ⟨fun _ => h, by rw [hr]; simp⟩
theorem wp_regionZ {id : Nat} {a : Act} {w : World} (z : Nat) (hm : P.follows .mixedOrders = true)
    (h : wpAnyZ P .any ops Q S z ops.size (Array.replicate ops.size false) a w.drew) : (Code.region id ops true).wp P Q a w :=
  wp_region_any hm (wpAny_of_heldZ _ _ _ _ h)
end
end Go.Proofs.YtmmepgincbngeaaDoor
