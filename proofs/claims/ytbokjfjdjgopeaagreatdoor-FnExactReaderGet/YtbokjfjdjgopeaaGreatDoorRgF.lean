/-
  Several texts in one. A change under way in memory, and spec.l11Same by a contract. · Frees side by side with other things; a change (eleven cells) that is laid into a variable (made by tools/septxn.py). No program. · Frees that grow side by side with other things: the row of them and the rows of their pages apart. No program. · Readers (a number and a meta each) in a row, to read or in memory of their own; the laws' helpers szReader, szReaderS, eqReader, eqReaderS by contracts. · The next meta of a change, plainly: the frees of the base without fresh pages, and those that are gone or were taken and not used. No program. · Things packed as one; the laws' helpers over readers by contracts: eqReader, eqReaderS, toReader, toReaderS (made by tools/rdrow2.py). · A meta that grows in a variable (at block gm, its rows behind it), and a free that grows in another (at block gf). · Rows of frees marked and held by contracts: markFreeS, heldFreeS, markMeta, heldMeta. · The laws' own helpers over a change by contracts: szTxn, toTxn, eqTxn, markTxn; marks side by side with other things (made by tools/txnrow.py). · Stores in memory, and the laws' own helpers over them by contracts: szStore, eqStore, toStore (made by tools/storerow.py).
-/
import Derived.Test.YtbokjfjdjgopeaaGreatDoorRgD
import Derived.Test.YtbokjfjdjgopeaaGreatDoorRgE
namespace Go.Proofs.YtbokjfjdjgopeaaGreatDoor
open Go.RowKit

/-- a change: its base, its work, its root -/
def TxnAt (w : World) (v : Value) (m : Mt) (k : Wk) (root : Int) : Prop :=
  ∃ vr vp vl vu vg vf, v = .agg #[.int .i64 m.tx, .int .i64 m.root, .int .i64 m.next, vr, vp, vl, .int .i64 k.next, vu, vg, vf, .int .i64 root] ∧ MetaAt w (.agg #[.int .i64 m.tx, .int .i64 m.root, .int .i64 m.next, vr]) m ∧ WorkAt w (.agg #[vp, vl, .int .i64 k.next, vu, vg, vf]) k

theorem txn_below {w w' : World} {v : Value} {m : Mt} {k : Wk} {root : Int} (h : TxnAt w v m k root) (hb : Below w.heap.size w w') : TxnAt w' v m k root := by
  obtain ⟨vr, vp, vl, vu, vg, vf, e, h1, h2⟩ := h
  exact ⟨vr, vp, vl, vu, vg, vf, e, meta_below h1 hb, work_below h2 hb⟩

/-- nothing is to be committed -/
def sameT (m : Mt) (k : Wk) (root : Int) : Bool := decide (root = m.root) && decide (k.gs.length = 0)

end Go.Proofs.YtbokjfjdjgopeaaGreatDoor

namespace Go.Proofs.YtbokjfjdjgopeaaGreatDoor
open Go.RowKit

/-- the frees of a meta, in memory of their own -/
def freesA (B : Nat) (v : Value) (l : List (Int × Value)) (fs : List (Int × List Int)) : Ast := ⟨freeBlocks v l, fun W => OwnF W B v l fs, fun W W' h hk =>
  ⟨(rowA B 128 2 v fs.length (frs l)).loc W W' h.1 (fun k e => hk k (Or.inl e)), h.2.1, fun i p f hi hp hf => ⟨(h.2.2.1 i p f hi hp hf).1, (rowA B 3 1 p.2 f.2.length (ints f.2)).loc W W' (h.2.2.1 i p f hi hp hf).2 (fun k e => hk k (Or.inr ⟨i, p, hp, e⟩))⟩, h.2.2.2⟩⟩

/-- a change in memory of its own -/
def TxnOwn (w : World) (B : Nat) (v : Value) (m : Mt) (k : Wk) (root : Int) : Prop := ∃ (lr : List (Int × Value)) (p1 : Option Addr) (q1 : Nat) (p2 : Option Addr) (q2 : Nat) (p3 : Option Addr) (q3 : Nat) (p4 : Option Addr) (q4 : Nat) (p5 : Option Addr) (q5 : Nat) (p6 : Option Addr) (q6 : Nat),
  v = .agg #[.int .i64 m.tx, .int .i64 m.root, .int .i64 m.next, .slice p1 m.fs.length q1, .slice p2 k.ps.length q2, .slice p3 k.ls.length q3, .int .i64 k.next, .slice p4 k.us.length q4, .slice p5 k.gs.length q5, .slice p6 k.fs.length q6, .int .i64 root] ∧
  Sep B w [freesA B (.slice p1 m.fs.length q1) lr m.fs, workA B (.agg #[.slice p2 k.ps.length q2, .slice p3 k.ls.length q3, .int .i64 k.next, .slice p4 k.us.length q4, .slice p5 k.gs.length q5, .slice p6 k.fs.length q6]) k]

theorem txn_of_own {w : World} {B : Nat} {v : Value} {m : Mt} {k : Wk} {root : Int} (h : TxnOwn w B v m k root) : TxnAt w v m k root := by
  obtain ⟨lr, p1, q1, p2, q2, p3, q3, p4, q4, p5, q5, p6, q6, e, hs⟩ := h
  exact ⟨_, _, _, _, _, _, e, ⟨_, rfl, frees_of_own (sep_get hs 0 rfl)⟩, work_of_own (sep_get hs 1 rfl)⟩

abbrev set11 (W : World) (g : Nat) (u0 u1 u2 u3 u4 u5 u6 u7 u8 u9 u10 : Value) : World := (((((((((((W.setCell ⟨g, 0, none⟩ u0).setCell ⟨g, 1, none⟩ u1).setCell ⟨g, 2, none⟩ u2).setCell ⟨g, 3, none⟩ u3).setCell ⟨g, 4, none⟩ u4).setCell ⟨g, 5, none⟩ u5).setCell ⟨g, 6, none⟩ u6).setCell ⟨g, 7, none⟩ u7).setCell ⟨g, 8, none⟩ u8).setCell ⟨g, 9, none⟩ u9).setCell ⟨g, 10, none⟩ u10)

theorem sep_store11 {B : Nat} {W : World} {l : List Ast} (h : Sep B W l) (i : Nat) {g : Nat} {c0 c1 c2 c3 c4 c5 c6 c7 c8 c9 c10 : Value} {T : TypeId} (hi : l[i]? = some (cellA g (Obj.cells #[c0, c1, c2, c3, c4, c5, c6, c7, c8, c9, c10] T))) (u0 u1 u2 u3 u4 u5 u6 u7 u8 u9 u10 : Value) : Sep B (set11 W g u0 u1 u2 u3 u4 u5 u6 u7 u8 u9 u10) (l.set i (cellA g (Obj.cells #[u0, u1, u2, u3, u4, u5, u6, u7, u8, u9, u10] T))) := by
  have h1 : W.heap[g]? = some (Obj.cells #[c0, c1, c2, c3, c4, c5, c6, c7, c8, c9, c10] T) := sep_get h i hi
  have h2 := sep_lt h i hi g rfl
  have hk : Kept W (set11 W g u0 u1 u2 u3 u4 u5 u6 u7 u8 u9 u10) (fun k => k = g) := (kept_trans (kept_trans (kept_trans (kept_trans (kept_trans (kept_trans (kept_trans (kept_trans (kept_trans (kept_trans (kept_setCell _ _ _ _) (kept_setCell _ _ _ _) (fun _ _ h => h)) (kept_setCell _ _ _ _) (fun _ _ h => h)) (kept_setCell _ _ _ _) (fun _ _ h => h)) (kept_setCell _ _ _ _) (fun _ _ h => h)) (kept_setCell _ _ _ _) (fun _ _ h => h)) (kept_setCell _ _ _ _) (fun _ _ h => h)) (kept_setCell _ _ _ _) (fun _ _ h => h)) (kept_setCell _ _ _ _) (fun _ _ h => h)) (kept_setCell _ _ _ _) (fun _ _ h => h)) (kept_setCell _ _ _ _) (fun _ _ h => h))
  have e1 : (W.setCell ⟨g, 0, none⟩ u0).heap[g]? = some (Obj.cells #[u0, c1, c2, c3, c4, c5, c6, c7, c8, c9, c10] T) := heap_setCell_same _ g 0 _ _ _ h1
  have e2 : ((W.setCell ⟨g, 0, none⟩ u0).setCell ⟨g, 1, none⟩ u1).heap[g]? = some (Obj.cells #[u0, u1, c2, c3, c4, c5, c6, c7, c8, c9, c10] T) := heap_setCell_same _ g 1 _ _ _ e1
  have e3 : (((W.setCell ⟨g, 0, none⟩ u0).setCell ⟨g, 1, none⟩ u1).setCell ⟨g, 2, none⟩ u2).heap[g]? = some (Obj.cells #[u0, u1, u2, c3, c4, c5, c6, c7, c8, c9, c10] T) := heap_setCell_same _ g 2 _ _ _ e2
  have e4 : ((((W.setCell ⟨g, 0, none⟩ u0).setCell ⟨g, 1, none⟩ u1).setCell ⟨g, 2, none⟩ u2).setCell ⟨g, 3, none⟩ u3).heap[g]? = some (Obj.cells #[u0, u1, u2, u3, c4, c5, c6, c7, c8, c9, c10] T) := heap_setCell_same _ g 3 _ _ _ e3
  have e5 : (((((W.setCell ⟨g, 0, none⟩ u0).setCell ⟨g, 1, none⟩ u1).setCell ⟨g, 2, none⟩ u2).setCell ⟨g, 3, none⟩ u3).setCell ⟨g, 4, none⟩ u4).heap[g]? = some (Obj.cells #[u0, u1, u2, u3, u4, c5, c6, c7, c8, c9, c10] T) := heap_setCell_same _ g 4 _ _ _ e4
  have e6 : ((((((W.setCell ⟨g, 0, none⟩ u0).setCell ⟨g, 1, none⟩ u1).setCell ⟨g, 2, none⟩ u2).setCell ⟨g, 3, none⟩ u3).setCell ⟨g, 4, none⟩ u4).setCell ⟨g, 5, none⟩ u5).heap[g]? = some (Obj.cells #[u0, u1, u2, u3, u4, u5, c6, c7, c8, c9, c10] T) := heap_setCell_same _ g 5 _ _ _ e5
  have e7 : (((((((W.setCell ⟨g, 0, none⟩ u0).setCell ⟨g, 1, none⟩ u1).setCell ⟨g, 2, none⟩ u2).setCell ⟨g, 3, none⟩ u3).setCell ⟨g, 4, none⟩ u4).setCell ⟨g, 5, none⟩ u5).setCell ⟨g, 6, none⟩ u6).heap[g]? = some (Obj.cells #[u0, u1, u2, u3, u4, u5, u6, c7, c8, c9, c10] T) := heap_setCell_same _ g 6 _ _ _ e6
  have e8 : ((((((((W.setCell ⟨g, 0, none⟩ u0).setCell ⟨g, 1, none⟩ u1).setCell ⟨g, 2, none⟩ u2).setCell ⟨g, 3, none⟩ u3).setCell ⟨g, 4, none⟩ u4).setCell ⟨g, 5, none⟩ u5).setCell ⟨g, 6, none⟩ u6).setCell ⟨g, 7, none⟩ u7).heap[g]? = some (Obj.cells #[u0, u1, u2, u3, u4, u5, u6, u7, c8, c9, c10] T) := heap_setCell_same _ g 7 _ _ _ e7
  have e9 : (((((((((W.setCell ⟨g, 0, none⟩ u0).setCell ⟨g, 1, none⟩ u1).setCell ⟨g, 2, none⟩ u2).setCell ⟨g, 3, none⟩ u3).setCell ⟨g, 4, none⟩ u4).setCell ⟨g, 5, none⟩ u5).setCell ⟨g, 6, none⟩ u6).setCell ⟨g, 7, none⟩ u7).setCell ⟨g, 8, none⟩ u8).heap[g]? = some (Obj.cells #[u0, u1, u2, u3, u4, u5, u6, u7, u8, c9, c10] T) := heap_setCell_same _ g 8 _ _ _ e8
  have e10 : ((((((((((W.setCell ⟨g, 0, none⟩ u0).setCell ⟨g, 1, none⟩ u1).setCell ⟨g, 2, none⟩ u2).setCell ⟨g, 3, none⟩ u3).setCell ⟨g, 4, none⟩ u4).setCell ⟨g, 5, none⟩ u5).setCell ⟨g, 6, none⟩ u6).setCell ⟨g, 7, none⟩ u7).setCell ⟨g, 8, none⟩ u8).setCell ⟨g, 9, none⟩ u9).heap[g]? = some (Obj.cells #[u0, u1, u2, u3, u4, u5, u6, u7, u8, u9, c10] T) := heap_setCell_same _ g 9 _ _ _ e9
  have e11 : (((((((((((W.setCell ⟨g, 0, none⟩ u0).setCell ⟨g, 1, none⟩ u1).setCell ⟨g, 2, none⟩ u2).setCell ⟨g, 3, none⟩ u3).setCell ⟨g, 4, none⟩ u4).setCell ⟨g, 5, none⟩ u5).setCell ⟨g, 6, none⟩ u6).setCell ⟨g, 7, none⟩ u7).setCell ⟨g, 8, none⟩ u8).setCell ⟨g, 9, none⟩ u9).setCell ⟨g, 10, none⟩ u10).heap[g]? = some (Obj.cells #[u0, u1, u2, u3, u4, u5, u6, u7, u8, u9, u10] T) := heap_setCell_same _ g 10 _ _ _ e10
  refine sep_set h i hi hk _ e11 (fun k hk => ⟨Or.inl hk, ?_⟩) (Nat.le_of_lt (Nat.lt_of_le_of_lt h2.1 h2.2))
  have hk : k = g := hk
  subst hk
  simpa using h2.2

theorem below_set11 {B : Nat} {W0 W : World} {g : Nat} (h : Below B W0 W) (hg : B ≤ g) (u0 u1 u2 u3 u4 u5 u6 u7 u8 u9 u10 : Value) : Below B W0 (set11 W g u0 u1 u2 u3 u4 u5 u6 u7 u8 u9 u10) :=
  ((((((((((h.setCell (p := ⟨g, 0, none⟩) hg _).setCell (p := ⟨g, 1, none⟩) hg _).setCell (p := ⟨g, 2, none⟩) hg _).setCell (p := ⟨g, 3, none⟩) hg _).setCell (p := ⟨g, 4, none⟩) hg _).setCell (p := ⟨g, 5, none⟩) hg _).setCell (p := ⟨g, 6, none⟩) hg _).setCell (p := ⟨g, 7, none⟩) hg _).setCell (p := ⟨g, 8, none⟩) hg _).setCell (p := ⟨g, 9, none⟩) hg _).setCell (p := ⟨g, 10, none⟩) hg _

theorem blk11c {W : World} {g : Nat} {c0 c1 c2 c3 c4 c5 c6 c7 c8 c9 c10 : Value} {t : TypeId} (h : W.heap[g]? = some (Obj.cells #[c0, c1, c2, c3, c4, c5, c6, c7, c8, c9, c10] t)) : W.cell? ⟨g, 0, none⟩ = some c0 ∧ W.cell? ⟨g, 1, none⟩ = some c1 ∧ W.cell? ⟨g, 2, none⟩ = some c2 ∧ W.cell? ⟨g, 3, none⟩ = some c3 ∧ W.cell? ⟨g, 4, none⟩ = some c4 ∧ W.cell? ⟨g, 5, none⟩ = some c5 ∧ W.cell? ⟨g, 6, none⟩ = some c6 ∧ W.cell? ⟨g, 7, none⟩ = some c7 ∧ W.cell? ⟨g, 8, none⟩ = some c8 ∧ W.cell? ⟨g, 9, none⟩ = some c9 ∧ W.cell? ⟨g, 10, none⟩ = some c10 :=
  ⟨(cell_at h 0).1, (cell_at h 1).1, (cell_at h 2).1, (cell_at h 3).1, (cell_at h 4).1, (cell_at h 5).1, (cell_at h 6).1, (cell_at h 7).1, (cell_at h 8).1, (cell_at h 9).1, (cell_at h 10).1⟩

theorem blk11z {W : World} {g : Nat} {c0 c1 c2 c3 c4 c5 c6 c7 c8 c9 c10 : Value} {t : TypeId} (h : W.heap[g]? = some (Obj.cells #[c0, c1, c2, c3, c4, c5, c6, c7, c8, c9, c10] t)) : W.frozen? ⟨g, 0, none⟩ = false ∧ W.frozen? ⟨g, 1, none⟩ = false ∧ W.frozen? ⟨g, 2, none⟩ = false ∧ W.frozen? ⟨g, 3, none⟩ = false ∧ W.frozen? ⟨g, 4, none⟩ = false ∧ W.frozen? ⟨g, 5, none⟩ = false ∧ W.frozen? ⟨g, 6, none⟩ = false ∧ W.frozen? ⟨g, 7, none⟩ = false ∧ W.frozen? ⟨g, 8, none⟩ = false ∧ W.frozen? ⟨g, 9, none⟩ = false ∧ W.frozen? ⟨g, 10, none⟩ = false :=
  ⟨(cell_at h 0).2, (cell_at h 1).2, (cell_at h 2).2, (cell_at h 3).2, (cell_at h 4).2, (cell_at h 5).2, (cell_at h 6).2, (cell_at h 7).2, (cell_at h 8).2, (cell_at h 9).2, (cell_at h 10).2⟩
end Go.Proofs.YtbokjfjdjgopeaaGreatDoor

namespace Go.Proofs.YtbokjfjdjgopeaaGreatDoor
open Go.RowKit

/-- the rows of the pages of frees -/
def innA (B : Nat) (l : List (Int × Value)) (fs : List (Int × List Int)) : Ast := ⟨fun b => ∃ (i : Nat) (p : Int × Value), l[i]? = some p ∧ p.2.ownBlock = some b, fun W => OwnTo W B l fs fs.length, fun W W' h hk =>
  ⟨h.1, fun i p f hi hp hf => ⟨(h.2.1 i p f hi hp hf).1, (rowA B 3 1 p.2 f.2.length (ints f.2)).loc W W' (h.2.1 i p f hi hp hf).2 (fun k e => hk k ⟨i, p, hp, e⟩)⟩, h.2.2⟩⟩

theorem inn_nil (B : Nat) {B0 : Nat} {W : World} {l : List Ast} (h : Sep B0 W l) : Sep B0 W (innA B [] [] :: l) :=
  sep_cons.2 ⟨⟨⟨rfl, fun i p f _ hp => by simp at hp, fun i j p q b _ _ hp => by simp at hp⟩, fun k ⟨i, p, hp, _⟩ => by simp at hp⟩, fun A' _ k ⟨i, p, hp, _⟩ => by simp at hp, h⟩

/-- one more -/
theorem inn_snoc {B B0 : Nat} {W : World} {l : List (Int × Value)} {fs : List (Int × List Int)} {u : Value} {n : Nat} {ps : List Int} {rest : List Ast} (tx : Int) (h : Sep B0 W (innA B l fs :: rowA B 3 1 u n (ints ps) :: rest)) : Sep B0 W (innA B (l ++ [(tx, u)]) (fs ++ [(tx, ps)]) :: rest) := by
  obtain ⟨⟨h1, h2⟩, h3, h4⟩ := sep_cons.1 h
  obtain ⟨⟨g1, g2⟩, g3, g4⟩ := sep_cons.1 h4
  have g1 : W.ownsRow B 3 1 u n (ints ps) := g1
  have hn := row_n g1
  rw [hn] at g1
  have h1 : OwnTo W B l fs fs.length := h1
  have hap : ∀ b, (∃ (i : Nat) (p : Int × Value), l[i]? = some p ∧ p.2.ownBlock = some b) → ¬ u.ownBlock = some b := fun b hb => h3 _ List.mem_cons_self b hb
  have hat : ∀ {i : Nat} {p : Int × Value}, (l ++ [(tx, u)])[i]? = some p → (i < l.length ∧ l[i]? = some p) ∨ (i = l.length ∧ p = (tx, u)) := by
    intro i p hp
    rcases Nat.lt_trichotomy i l.length with hi | hi | hi
    · rw [List.getElem?_append_left hi] at hp
      exact Or.inl ⟨hi, hp⟩
    · subst hi
      rw [List.getElem?_append_right (Nat.le_refl _), Nat.sub_self] at hp
      injection hp with hp
      exact Or.inr ⟨rfl, hp.symm⟩
    · rw [List.getElem?_eq_none (by simp; omega)] at hp
      cases hp
  refine sep_cons.2 ⟨⟨?_, ?_⟩, ?_, g4⟩
  · refine ⟨by simp [h1.1], fun i p f _ hp hf => ?_, fun i j p q b _ _ hp hq e1 e2 => ?_⟩
    · rcases hat hp with ⟨hi, hp⟩ | ⟨rfl, rfl⟩
      · rw [List.getElem?_append_left (by rw [← h1.1]; exact hi)] at hf
        exact h1.2.1 i p f (by rw [← h1.1]; exact hi) hp hf
      · rw [h1.1, List.getElem?_append_right (Nat.le_refl _), Nat.sub_self] at hf
        injection hf with hf
        subst hf
        exact ⟨rfl, g1⟩
    · rcases hat hp with ⟨hi, hp⟩ | ⟨rfl, rfl⟩ <;> rcases hat hq with ⟨hj, hq⟩ | ⟨rfl, rfl⟩
      · exact h1.2.2 i j p q b (by rw [← h1.1]; exact hi) (by rw [← h1.1]; exact hj) hp hq e1 e2
      · exact absurd e2 (hap b ⟨i, p, hp, e1⟩)
      · exact absurd e1 (hap b ⟨j, q, hq, e2⟩)
      · rfl
  · rintro b ⟨i, p, hp, e⟩
    rcases hat hp with ⟨-, hp⟩ | ⟨-, rfl⟩
    · exact h2 b ⟨i, p, hp, e⟩
    · exact g2 b e
  · rintro A' hA' b ⟨i, p, hp, e⟩
    rcases hat hp with ⟨-, hp⟩ | ⟨-, rfl⟩
    · exact h3 A' (List.mem_cons_of_mem _ hA') b ⟨i, p, hp, e⟩
    · exact g3 A' hA' b e

/-- the row and the rows of the pages are frees -/
theorem inn_frees {B B0 : Nat} {W : World} {v : Value} {n : Nat} {l : List (Int × Value)} {fs : List (Int × List Int)} {rest : List Ast} (h : Sep B0 W (rowA B 128 2 v n (frs l) :: innA B l fs :: rest)) : Sep B0 W (freesA B v l fs :: rest) := by
  obtain ⟨⟨h1, h2⟩, h3, h4⟩ := sep_cons.1 h
  obtain ⟨⟨g1, g2⟩, g3, g4⟩ := sep_cons.1 h4
  have h1 : W.ownsRow B 128 2 v n (frs l) := h1
  have g1 : OwnTo W B l fs fs.length := g1
  have hn : n = fs.length := by
    have h := h1.1
    rw [frs_length, g1.1] at h
    omega
  rw [hn] at h1
  refine sep_cons.2 ⟨⟨⟨h1, g1⟩, ?_⟩, ?_, g4⟩
  · rintro b (e | e)
    · exact h2 b e
    · exact g2 b e
  · rintro A' hA' b (e | e)
    · exact h3 A' (List.mem_cons_of_mem _ hA') b e
    · exact g3 A' hA' b e

theorem sep_none2 {B : Nat} {W : World} {l : List Ast} (h : Sep B W l) (B' e : Nat) : Sep B W (rowA B' e 2 (.slice none 0 0) 0 [] :: l) :=
  sep_cons.2 ⟨⟨⟨rfl, Or.inl ⟨rfl, rfl⟩⟩, fun k hk => (by cases hk)⟩, (fun A' _ k hk => (by cases hk)), h⟩

theorem frs_snocF (l : List (Int × Value)) (tx : Int) (u : Value) : frs l ++ [.int .i64 tx, u] = frs (l ++ [(tx, u)]) := by rw [frs_append]; rfl

theorem rowA_n {B e n : Nat} {W : World} {v : Value} {l : List (Int × Value)} (h : W.ownsRow B e 2 v n (frs l)) : n = l.length := by
  have h := h.1
  rw [frs_length] at h
  omega

theorem wpList_free1 {ops : Array Oper} {rest : List Oper} {o : Oper} {a : Act} {Q : Exit → Act → World → Prop} {B : Nat} {W : World} {l : List Ast} (h : Sep B W l) (i : Nat) {B' n : Nat} {v : Value} {xs : List (Int × Value)} (hi : l[i]? = some (rowA B' 128 2 v n (frs xs))) (hBB : B ≤ B') (hBW : B ≤ W.heap.size) (hBW' : B' ≤ W.heap.size)
    (hgd : o.guard = none) (s x : Operand) (ho : o.op = .call { callee := .builtin .append, args := #[s, x], argTypes := #[43, 43] }) (hs : a.eval s = v) (tx : Int) (u : Value) (hu : u.oneCell' = true) {H : Nat} (hH : H = W.heap.size) (hx : a.eval x = .slice (some ⟨H, 0, none⟩) 1 1) (hn : n ≤ 3000000)
    (hK : ∀ b c w', Sep B w' (l.set i (rowA B' 128 2 (.slice (some ⟨b, 0, none⟩) (n + 1) c) (n + 1) (frs (xs ++ [(tx, u)])))) → Below B W w' → wpList Tryz.prog ops Q rest (a.put o.dst (.slice (some ⟨b, 0, none⟩) (n + 1) c)) w') :
    wpList Tryz.prog ops Q (o :: rest) a (W.alloc (Obj.cells #[.int .i64 tx, u] 128)) := by
  obtain ⟨i0, hinf, hz0, hz1, hz2⟩ := info_parts Tryz.infoFree
  refine wpList_sep1 h i hi hBB hBW hBW' hgd s x 43 ho i0 (.agg #[.int .i64 0, .slice none 0 0]) 32 Tryz.underlying43 hinf hz0 hz1 hz2 rfl (by decide) hs #[.int .i64 tx, u] hH hx rfl (fun y hy => by simp at hy; rcases hy with rfl | rfl; rfl; exact hu) (by unfold maxLen; omega) (by omega) (fun b c w' k1 k2 => hK b c w' ?_ k2)
  rw [← frs_snocF]
  exact k1

/-- two ways to one goal, that hangs on what the ways leave -/
theorem branchJ {α β γ δ ε : Type} {G : α → β → γ → δ → ε → Prop} {A B : Prop} (P : α → β → γ → δ → ε → Prop) (hA : (∀ a b c d e, P a b c d e → G a b c d e) → A) (hB : (∀ a b c d e, P a b c d e → G a b c d e) → B) (h : ∀ a b c d e, P a b c d e → G a b c d e) : A ∧ B := ⟨hA h, hB h⟩

theorem below_set4 {B : Nat} {W0 W : World} {g : Nat} (h : Below B W0 W) (hg : B ≤ g) (u0 u1 u2 u3 : Value) : Below B W0 (set4 W g u0 u1 u2 u3) :=
  (((h.setCell (p := ⟨g, 0, none⟩) hg _).setCell (p := ⟨g, 1, none⟩) hg _).setCell (p := ⟨g, 2, none⟩) hg _).setCell (p := ⟨g, 3, none⟩) hg _
end Go.Proofs.YtbokjfjdjgopeaaGreatDoor

namespace Go.Proofs.YtbokjfjdjgopeaaGreatDoor
open Go.RowKit

/-- the cells of readers: a number, a meta's three numbers and its frees -/
def rds : List (Int × Mt) → List Value → List Value
  | r :: rs, u :: us => .int .i64 r.1 :: .int .i64 r.2.tx :: .int .i64 r.2.root :: .int .i64 r.2.next :: u :: rds rs us
  | _, _ => []

theorem rds_length : ∀ (rs : List (Int × Mt)) (us : List Value), us.length = rs.length → (rds rs us).length = rs.length * 5
  | [], us, _ => by cases us <;> rfl
  | r :: rs, [], h => by simp at h
  | r :: rs, u :: us, h => by
    have ih := rds_length rs us (by simpa using h)
    simp only [rds, List.length_cons, ih]
    omega

theorem rds_at : ∀ (rs : List (Int × Mt)) (us : List Value) (k : Nat) (r : Int × Mt) (u : Value), rs[k]? = some r → us[k]? = some u →
    (rds rs us)[k * 5]? = some (.int .i64 r.1) ∧ (rds rs us)[k * 5 + 1]? = some (.int .i64 r.2.tx) ∧ (rds rs us)[k * 5 + 2]? = some (.int .i64 r.2.root) ∧ (rds rs us)[k * 5 + 3]? = some (.int .i64 r.2.next) ∧ (rds rs us)[k * 5 + 4]? = some u
  | [], us, k, r, u, h, _ => by simp at h
  | r' :: rs, [], k, r, u, _, h => by simp at h
  | r' :: rs, u' :: us, 0, r, u, h1, h2 => by
    simp only [List.getElem?_cons_zero, Option.some.injEq] at h1 h2
    subst h1 h2
    exact ⟨rfl, rfl, rfl, rfl, rfl⟩
  | r' :: rs, u' :: us, k + 1, r, u, h1, h2 => by
    have ih := rds_at rs us k r u (by simpa using h1) (by simpa using h2)
    have e : (k + 1) * 5 = k * 5 + 1 + 1 + 1 + 1 + 1 := by omega
    rw [e]
    exact ih

theorem rds_set : ∀ (rs : List (Int × Mt)) (us : List Value) (k : Nat) (r : Int × Mt) (u : Value), us.length = rs.length → k < rs.length →
    (((((rds rs us).set (k * 5) (.int .i64 r.1)).set (k * 5 + 1) (.int .i64 r.2.tx)).set (k * 5 + 2) (.int .i64 r.2.root)).set (k * 5 + 3) (.int .i64 r.2.next)).set (k * 5 + 4) u = rds (rs.set k r) (us.set k u)
  | [], us, k, r, u, _, h => by simp at h
  | r' :: rs, [], k, r, u, h, _ => by simp at h
  | r' :: rs, u' :: us, 0, r, u, _, _ => rfl
  | r' :: rs, u' :: us, k + 1, r, u, h1, h2 => by
    have ih := rds_set rs us k r u (by simpa using h1) (by simpa using h2)
    have e : (k + 1) * 5 = k * 5 + 1 + 1 + 1 + 1 + 1 := by omega
    rw [e]
    simp only [rds, List.set_cons_succ]
    rw [← ih]

/-- readers that read so -/
def RdsAt (w : World) (v : Value) (rs : List (Int × Mt)) : Prop :=
  ∃ us : List Value, us.length = rs.length ∧ RowAt w 5 v rs.length (rds rs us) ∧ ∀ (k : Nat) (r : Int × Mt) (u : Value), rs[k]? = some r → us[k]? = some u → FreesAt w u r.2.fs

theorem rds_below {w w' : World} {v : Value} {rs : List (Int × Mt)} (h : RdsAt w v rs) (hb : Below w.heap.size w w') : RdsAt w' v rs := by
  obtain ⟨us, h1, h2, h3⟩ := h
  exact ⟨us, h1, row_below h2 hb, fun k r u hr hu => frees_below (h3 k r u hr hu) hb⟩

theorem rds_slice {w : World} {v : Value} {rs : List (Int × Mt)} (h : RdsAt w v rs) : ∃ a cap, v = .slice a rs.length cap := by
  obtain ⟨us, h1, h2, h3⟩ := h
  obtain ⟨-, a, cap, e, -⟩ := h2
  exact ⟨a, cap, e⟩

theorem rds_get {w : World} {a : Option Addr} {n cap : Nat} {rs : List (Int × Mt)} (h : RdsAt w (.slice a n cap) rs) {k : Nat} {id : Int} {m : Mt} (hk : rs[k]? = some (id, m)) :
    ∃ b off u, a = some ⟨b, off, none⟩ ∧ b < w.heap.size ∧ (w.cell? ⟨b, off + k * 5, none⟩ = some (.int .i64 id) ∧ w.cell? ⟨b, off + k * 5 + 1, none⟩ = some (.int .i64 m.tx) ∧ w.cell? ⟨b, off + k * 5 + 2, none⟩ = some (.int .i64 m.root) ∧ w.cell? ⟨b, off + k * 5 + 3, none⟩ = some (.int .i64 m.next) ∧ w.cell? ⟨b, off + k * 5 + 4, none⟩ = some u) ∧ FreesAt w u m.fs := by
  obtain ⟨us, h1, h2, h3⟩ := h
  have hlt : k < rs.length := (List.getElem?_eq_some_iff.1 hk).1
  obtain ⟨u, hu⟩ : ∃ u, us[k]? = some u := ⟨_, List.getElem?_eq_getElem (by omega)⟩
  obtain ⟨-, a', cap', e, hr⟩ := h2
  injection e with e _ _
  subst e
  rcases hr with h0 | ⟨b, off, rfl, hb, hc⟩
  · omega
  · obtain ⟨e0, e1, e2, e3, e4⟩ := rds_at rs us k _ u hk hu
    refine ⟨b, off, u, rfl, hb, ⟨?_, ?_, ?_, ?_, ?_⟩, h3 k _ u hk hu⟩
    · rw [hc (k * 5) (by omega), e0]
    · rw [Nat.add_assoc, hc (k * 5 + 1) (by omega), e1]
    · rw [Nat.add_assoc, hc (k * 5 + 2) (by omega), e2]
    · rw [Nat.add_assoc, hc (k * 5 + 3) (by omega), e3]
    · rw [Nat.add_assoc, hc (k * 5 + 4) (by omega), e4]

/-- how much the frees of the first k readers hold -/
def sumR (l : List (Int × Mt)) (k : Nat) : Nat := ((l.take k).map fun p => bulkF p.2.fs).sum

theorem sumR_succ (l : List (Int × Mt)) (k : Nat) {id : Int} {m : Mt} (h : l[k]? = some (id, m)) : sumR l (k + 1) = sumR l k + bulkF m.fs := by
  obtain ⟨hk, e⟩ := List.getElem?_eq_some_iff.1 h
  unfold sumR
  rw [List.take_succ_eq_append_getElem hk, List.map_append, List.sum_append, e]
  simp

theorem sumR_zero (l : List (Int × Mt)) : sumR l 0 = 0 := by simp [sumR]

theorem sumR_mono (l : List (Int × Mt)) (k : Nat) : sumR l k ≤ sumR l l.length := by
  unfold sumR
  conv => rhs; rw [List.take_length, ← List.take_append_drop k l, List.map_append, List.sum_append]
  omega

/-- how much readers hold -/
def bulkR (l : List (Int × Mt)) : Nat := l.length + sumR l l.length

theorem bulkR_in {l : List (Int × Mt)} {m : Nat} (h : bulkR l ≤ m) : l.length ≤ m ∧ ∀ r ∈ l, bulkF r.2.fs ≤ m := by
  unfold bulkR at h
  refine ⟨by omega, fun f hf => ?_⟩
  obtain ⟨i, hi, rfl⟩ := List.getElem_of_mem hf
  have h1 := sumR_succ l i (id := l[i].1) (m := l[i].2) (List.getElem?_eq_getElem hi)
  have h2 := sumR_mono l (i + 1)
  omega

/-- readers no part of which is too long to be -/
def fitsR (l : List (Int × Mt)) : Prop := l.length ≤ maxLen ∧ ∀ r ∈ l, r.2.fs.length ≤ maxLen ∧ ∀ f ∈ r.2.fs, f.2.length ≤ maxLen

set_option maxHeartbeats 1000000 in
theorem szReader_any (id : Int) (v : Value) (m : Mt) (hl : m.fs.length ≤ maxLen) (hs : ∀ f ∈ m.fs, f.2.length ≤ maxLen) (left : Nat) (hleft : left ≤ 1048576) (w : World) (hd : FreesAt w v m.fs) :
    Calls Tryz.prog 29 #[.agg #[.int .i64 id, .int .i64 m.tx, .int .i64 m.root, .int .i64 m.next, v], .int .i64 (left : Int)] w fun e w' => e = .returned (.int .i64 (szOut left (bulkF m.fs))) ∧ Below w.heap.size w w' := by
  obtain ⟨tx, htx⟩ : ∃ n, n = m.tx := ⟨_, rfl⟩
  obtain ⟨mr, hmr⟩ : ∃ n, n = m.root := ⟨_, rfl⟩
  obtain ⟨mn, hmn⟩ : ∃ n, n = m.next := ⟨_, rfl⟩
  have HM : Hid (∀ wx, Below w.heap.size w wx → MetaAt wx (.agg #[.int .i64 tx, .int .i64 mr, .int .i64 mn, v]) m) := hide (fun wx hb => ⟨v, by rw [htx, hmr, hmn], frees_below hd hb⟩)
  rw [← htx, ← hmr, ← hmn]
  have HC := hide (fun wx h => szMeta_any (.agg #[.int .i64 tx, .int .i64 mr, .int .i64 mn, v]) m hl hs left hleft wx h)
  obtain ⟨w0, hw0⟩ : ∃ w0, w0 = w.alloc (Obj.cells #[.int .i64 id, .int .i64 tx, .int .i64 mr, .int .i64 mn, v] 91) := ⟨_, rfl⟩
  have HB : Hid (Below w.heap.size w w0) := hide (by rw [hw0]; exact (Below.refl w.heap.size w).alloc (Nat.le_refl _) _)
  clear hd htx hmr hmn hl hs
  by_cases h : bulkF m.fs ≤ left
  · rw [szOut_yes h] at HC ⊢
    obtain ⟨z, hz⟩ : ∃ z, z = left - bulkF m.fs := ⟨_, rfl⟩
    rw [← hz] at HC ⊢
    clear hz h
    go_enter Tryz.func29, Tryz.ntmps29
    go_wp2_with fail
    rw [← hw0]
    clear hw0
    refine (HC.out _ (HM.out _ HB.out)).mono ?_
    rintro e w1 ⟨rfl, hb1⟩
    have HB1 := hide (HB.out.trans (hb1.mono HB.out.size))
    clear hb1
    go_wp2_with fail
    go_ret
    exact ⟨rfl, HB1.out⟩
  · rw [szOut_no (by omega)] at HC ⊢
    clear h
    go_enter Tryz.func29, Tryz.ntmps29
    go_wp2_with fail
    rw [← hw0]
    clear hw0
    refine (HC.out _ (HM.out _ HB.out)).mono ?_
    rintro e w1 ⟨rfl, hb1⟩
    have HB1 := hide (HB.out.trans (hb1.mono HB.out.size))
    clear hb1
    go_wp2_with fail
    go_ret
    exact ⟨rfl, HB1.out⟩

set_option maxHeartbeats 2000000 in
theorem szReaderS_any (l : List (Int × Mt)) (hf : fitsR l) (v : Value) (left : Nat) (hleft : left ≤ 1048576) (w : World) (hr : RdsAt w v l) :
    Calls Tryz.prog 11 #[v, .int .i64 (left : Int)] w fun e w' => e = .returned (.int .i64 (szOut left (bulkR l))) ∧ Below w.heap.size w w' := by
  obtain ⟨a, cap, rfl⟩ := rds_slice hr
  obtain ⟨hl, hs⟩ := hf
  have HR := hide hr
  have HS := hide hs
  clear hr hs
  unfold maxLen at hl
  have HBk : Hid (bulkR l = l.length + sumR l l.length) := hide rfl
  by_cases h0 : left < l.length
  · have HO : Hid (szOut left (bulkR l) = -1) := hide (szOut_no (by rw [HBk.out]; omega))
    go_enter Tryz.func11, Tryz.ntmps11
    go_wp2
    go_ret
    rw [HO.out]
    exact ⟨rfl, Below.refl _ _⟩
  · go_enter Tryz.func11, Tryz.ntmps11
    go_wp2
    go_loopg [1, 5] l.length (fun g lv iv wr => ∃ k z : Nat, k ≤ l.length ∧ iv = .int .i64 (k : Int) ∧ g + k = l.length ∧ lv = .int .i64 (z : Int) ∧ z ≤ 1048576 ∧ Hid (z + l.length + sumR l k = left) ∧ Below w.heap.size w wr)
    case atStart => exact ⟨0, left - l.length, Nat.zero_le _, rfl, rfl, by go_num, by omega, hide (by rw [sumR_zero]; omega), Below.refl _ _⟩
    case round =>
      obtain ⟨k, z, hk, rfl, hg, rfl, hz, HM, hb⟩ := hrel
      have HG := hide hg
      clear hg
      by_cases hlt : k < l.length
      · obtain ⟨id, m, hm⟩ : ∃ id m, l[k]? = some (id, m) := ⟨_, _, List.getElem?_eq_getElem hlt⟩
        obtain ⟨b, off, u, rfl, hbl, ⟨c0, c1, c2, c3, c4⟩, hfr⟩ := rds_get (rds_below HR.out hb) hm
        have hxs := HS.out _ (List.mem_of_getElem? hm)
        have HSum := hide (sumR_succ l k hm)
        have HC := hide (fun wx h => szReader_any id u m hxs.1 hxs.2 z hz wx h)
        have HFr := hide hfr
        obtain ⟨xa, xc, rfl⟩ := frees_slice hfr
        obtain ⟨tx, htx⟩ : ∃ n, n = m.tx := ⟨_, rfl⟩
        obtain ⟨mr, hmr⟩ : ∃ n, n = m.root := ⟨_, rfl⟩
        obtain ⟨mn, hmn⟩ : ∃ n, n = m.next := ⟨_, rfl⟩
        obtain ⟨mL, hmL⟩ : ∃ n, n = m.fs.length := ⟨_, rfl⟩
        obtain ⟨n, hn⟩ : ∃ n, n = bulkF m.fs := ⟨_, rfl⟩
        rw [← htx, ← hmr, ← hmn, ← hmL] at HC
        rw [← htx] at c1
        rw [← hmr] at c2
        rw [← hmn] at c3
        rw [← hmL] at c4
        rw [← hmL] at HFr
        rw [← hn] at HSum HC
        have hk0 : (0 : Int) ≤ (k : Int) := by omega
        have hk1 : (k : Int) < (l.length : Int) := by omega
        clear hm hn hfr hxs htx hmr hmn hmL
        by_cases hneg : z < n
        · have HO : Hid (szOut left (bulkR l) = -1) := hide (szOut_no (by have h1 := HBk.out; have h2 := HM.out; have h3 := HSum.out; have h4 := sumR_mono l (k + 1); omega))
          rw [szOut_no hneg] at HC
          go_wp2_with fail
          refine (HC.out _ HFr.out).mono ?_
          rintro e w2 ⟨rfl, hb2⟩
          go_wp2_with fail
          go_ret
          rw [HO.out]
          exact ⟨rfl, hb.trans (hb2.mono hb.size)⟩
        · rw [szOut_yes (by omega)] at HC
          obtain ⟨z', hz'⟩ : ∃ z', z' = z - n := ⟨_, rfl⟩
          rw [← hz'] at HC
          have hml : z' ≤ 1048576 := by omega
          have HM2 : Hid (z' + l.length + sumR l (k + 1) = left) := hide (by have h2 := HM.out; have h3 := HSum.out; omega)
          clear hz' hneg
          go_wp2_with fail
          refine (HC.out _ HFr.out).mono ?_
          rintro e w2 ⟨rfl, hb2⟩
          go_wp2_with fail
          go_roundg (gk - 1)
          case measure => have := HG.out; omega
          case rel => exact ⟨k + 1, z', by omega, by go_num, by have := HG.out; omega, rfl, hml, HM2, hb.trans (hb2.mono hb.size)⟩
      · have HO : Hid (szOut left (bulkR l) = (z : Int)) := hide (by
          have h1 := HBk.out
          have h2 := HM.out
          obtain rfl : k = l.length := by omega
          rw [szOut_yes (by omega)]
          congr 1
          omega)
        go_wp2
        go_ret
        rw [HO.out]
        exact ⟨rfl, hb⟩
end Go.Proofs.YtbokjfjdjgopeaaGreatDoor

namespace Go.Proofs.YtbokjfjdjgopeaaGreatDoor
open Go.RowKit

/-- pages that are not fresh -/
def keepP (fr ps : List Int) : List Int := ps.filter (fun p => !decide (p ∈ fr))

/-- frees without fresh pages; those without any left are gone -/
def keepF (fr : List Int) : List (Int × List Int) → List (Int × List Int)
  | [] => []
  | f :: l => (if (keepP fr f.2).length = 0 then [] else [(f.1, keepP fr f.2)]) ++ keepF fr l

theorem keepP_snoc (fr ps : List Int) (x : Int) : keepP fr (ps ++ [x]) = keepP fr ps ++ (if x ∈ fr then [] else [x]) := by
  unfold keepP
  rw [List.filter_append]
  by_cases h : x ∈ fr <;> simp [h]

theorem keepF_append (fr : List Int) (l m : List (Int × List Int)) : keepF fr (l ++ m) = keepF fr l ++ keepF fr m := by
  induction l with
  | nil => rfl
  | cons f l ih => simp only [List.cons_append, keepF, ih, List.append_assoc]

theorem take_next {α : Type} (l : List α) (i : Nat) (x : α) (h : l[i]? = some x) : l.take (i + 1) = l.take i ++ [x] := by rw [List.take_add_one, h]; rfl

theorem keepP_next {fr ps : List Int} {k : Nat} {x : Int} (h : ps[k]? = some x) : keepP fr (ps.take (k + 1)) = keepP fr (ps.take k) ++ (if x ∈ fr then [] else [x]) := by
  rw [take_next ps k x h, keepP_snoc]

theorem keepF_next {fr : List Int} {fs : List (Int × List Int)} {i : Nat} {tx : Int} {ps : List Int} (h : fs[i]? = some (tx, ps)) : keepF fr (fs.take (i + 1)) = keepF fr (fs.take i) ++ (if (keepP fr ps).length = 0 then [] else [(tx, keepP fr ps)]) := by
  rw [take_next fs i _ h, keepF_append]
  simp [keepF]

theorem keepP_len (fr ps : List Int) : (keepP fr ps).length ≤ ps.length := List.length_filter_le _ _

theorem keepF_len (fr : List Int) (l : List (Int × List Int)) : (keepF fr l).length ≤ l.length := by
  induction l with
  | nil => exact Nat.le_refl _
  | cons f l ih =>
    simp only [keepF, List.length_append, List.length_cons]
    split <;> simp <;> omega

theorem keepF_mem (fr : List Int) (l : List (Int × List Int)) {n : Nat} (h : ∀ f ∈ l, f.2.length ≤ n) : ∀ f ∈ keepF fr l, f.2.length ≤ n := by
  induction l with
  | nil => intro f hf; cases hf
  | cons g l ih =>
    intro f hf
    simp only [keepF] at hf
    rcases List.mem_append.1 hf with hf | hf
    · split at hf
      · cases hf
      · rw [List.mem_singleton] at hf
        subst hf
        exact Nat.le_trans (keepP_len fr g.2) (h g List.mem_cons_self)
    · exact ih (fun f hf => h f (List.mem_cons_of_mem _ hf)) f hf

/-- usable pages that are not below a number -/
def highU (bn : Int) (us : List Int) : List Int := us.filter (fun u => decide (bn ≤ u))

theorem highU_next {bn : Int} {us : List Int} {k : Nat} {x : Int} (h : us[k]? = some x) : highU bn (us.take (k + 1)) = highU bn (us.take k) ++ (if bn ≤ x then [x] else []) := by
  rw [take_next us k x h]
  unfold highU
  rw [List.filter_append]
  by_cases h : bn ≤ x <;> simp [h]

theorem highU_len (bn : Int) (us : List Int) : (highU bn us).length ≤ us.length := List.length_filter_le _ _

def nextTx (tx : Int) : Int := if tx < 100001 then wrap64 (tx + 1) else tx

def lastP (m : Mt) (k : Wk) : List Int := srtL (k.gs ++ highU m.next k.us)

/-- the next meta, whether it is right or not -/
def nextM (m : Mt) (k : Wk) (root : Int) : Mt := ⟨nextTx m.tx, root, k.next, keepF k.fs m.fs ++ (if (lastP m k).length = 0 then [] else [(nextTx m.tx, lastP m k)])⟩

/-- what NextMeta answers -/
def nextO (m : Mt) (k : Wk) (root : Int) : Mt := if (nextM m k root).good = true then nextM m k root else Mt.none
end Go.Proofs.YtbokjfjdjgopeaaGreatDoor

namespace Go.Proofs.YtbokjfjdjgopeaaGreatDoor
open Go.RowKit

/-- things side by side, as one thing -/
def packA (B : Nat) (l : List Ast) : Ast := ⟨fun k => ∃ A ∈ l, A.F k, fun W => Sep B W l, fun W W' h hk =>
  ⟨fun A hA => ⟨A.loc W W' (h.1 A hA).1 (fun k hF => hk k ⟨A, hA, hF⟩), fun k hF => ⟨((h.1 A hA).2 k hF).1, by
    have e := hk k ⟨A, hA, hF⟩
    rw [Array.getElem?_eq_getElem ((h.1 A hA).2 k hF).2] at e
    exact (Array.getElem?_eq_some_iff.1 e).1⟩⟩, h.2⟩⟩

theorem sep_pack {B : Nat} {W : World} {l rest : List Ast} (h : Sep B W (l ++ rest)) : Sep B W (packA B l :: rest) := by
  obtain ⟨h1, h2⟩ := h
  obtain ⟨p1, p2, p3⟩ := List.pairwise_append.1 h2
  refine sep_cons.2 ⟨⟨⟨fun A hA => h1 A (List.mem_append_left _ hA), p1⟩, ?_⟩, ?_, ⟨fun A hA => h1 A (List.mem_append_right _ hA), p2⟩⟩
  · rintro k ⟨A, hA, hF⟩
    exact (h1 A (List.mem_append_left _ hA)).2 k hF
  · rintro A' hA' k ⟨A, hA, hF⟩
    exact p3 A hA A' hA' k hF

theorem sep_unpack {B : Nat} {W : World} {l rest : List Ast} (h : Sep B W (packA B l :: rest)) : Sep B W (l ++ rest) := by
  obtain ⟨⟨⟨h1, h2⟩, h3⟩, h4, h5, h6⟩ := sep_cons.1 h
  refine ⟨fun A hA => ?_, List.pairwise_append.2 ⟨h2, h6, fun A hA A' hA' k hk => h4 A' hA' k ⟨A, hA, hk⟩⟩⟩
  rcases List.mem_append.1 hA with hA | hA
  · exact h1 A hA
  · exact h5 A hA

/-- the frees of readers, each a thing -/
def frL (B : Nat) (us : List (Value × List (Int × Value))) (rs : List (Int × Mt)) : List Ast := List.zipWith (fun x r => freesA B x.1 x.2 r.2.fs) us rs

/-- readers in memory of their own -/
def rdsL (B : Nat) (v : Value) (us : List (Value × List (Int × Value))) (rs : List (Int × Mt)) : List Ast := rowA B 64 5 v rs.length (rds rs (us.map Prod.fst)) :: frL B us rs

theorem frL_at {B : Nat} {us : List (Value × List (Int × Value))} {rs : List (Int × Mt)} {k : Nat} {x : Value × List (Int × Value)} {r : Int × Mt} (hx : us[k]? = some x) (hr : rs[k]? = some r) : (frL B us rs)[k]? = some (freesA B x.1 x.2 r.2.fs) := by
  unfold frL
  rw [List.getElem?_zipWith, hx, hr]

theorem rds_of_own {w : World} {B B0 : Nat} {v : Value} {us : List (Value × List (Int × Value))} {rs : List (Int × Mt)} (hu : us.length = rs.length) (h : Sep B0 w (rdsL B v us rs)) : RdsAt w v rs := by
  refine ⟨us.map Prod.fst, by rw [List.length_map]; exact hu, row_of_own (sep_get h 0 rfl), fun k r u hr hu' => ?_⟩
  rw [List.getElem?_map] at hu'
  obtain ⟨x, hx, rfl⟩ := Option.map_eq_some_iff.1 hu'
  exact frees_of_own (sep_get (sep_del h) k (frL_at hx hr))

set_option maxHeartbeats 1000000 in
set_option maxRecDepth 100000 in
theorem eqReader_same (id : Int) (v u : Value) (m : Mt) (hl : m.fs.length ≤ 1048576) (hs : ∀ f ∈ m.fs, f.2.length ≤ 1048576) (w : World) (hd : FreesAt w v m.fs) (hu : FreesAt w u m.fs) :
    Calls Tryz.prog 48 #[.agg #[.int .i64 id, .int .i64 m.tx, .int .i64 m.root, .int .i64 m.next, v], .agg #[.int .i64 id, .int .i64 m.tx, .int .i64 m.root, .int .i64 m.next, u]] w fun e w' => e = .returned (.bool true) ∧ Below w.heap.size w w' := by
  obtain ⟨tx, htx⟩ : ∃ n, n = m.tx := ⟨_, rfl⟩
  obtain ⟨mr, hmr⟩ : ∃ n, n = m.root := ⟨_, rfl⟩
  obtain ⟨mn, hmn⟩ : ∃ n, n = m.next := ⟨_, rfl⟩
  have HM : Hid (∀ wx, Below w.heap.size w wx → MetaAt wx (.agg #[.int .i64 tx, .int .i64 mr, .int .i64 mn, v]) m ∧ MetaAt wx (.agg #[.int .i64 tx, .int .i64 mr, .int .i64 mn, u]) m) := hide (fun wx hb => ⟨⟨v, by rw [htx, hmr, hmn], frees_below hd hb⟩, ⟨u, by rw [htx, hmr, hmn], frees_below hu hb⟩⟩)
  rw [← htx, ← hmr, ← hmn]
  have HC := hide (fun a b wx h h' => eqMeta_same a b m hl hs wx h h')
  obtain ⟨w0, hw0⟩ : ∃ w0, w0 = (w.alloc (Obj.cells #[.int .i64 id, .int .i64 tx, .int .i64 mr, .int .i64 mn, v] 64)).alloc (Obj.cells #[.int .i64 id, .int .i64 tx, .int .i64 mr, .int .i64 mn, u] 64) := ⟨_, rfl⟩
  have HB : Hid (Below w.heap.size w w0) := hide (by rw [hw0]; exact ((Below.refl w.heap.size w).alloc (Nat.le_refl _) _).alloc (by simp) _)
  have di : (id != id) = false := by simp
  clear hd hu htx hmr hmn hl hs
  go_enter Tryz.func48, Tryz.ntmps48
  go_wp2_with fail
  rw [← hw0]
  clear hw0
  refine (HC.out _ _ _ (HM.out _ HB.out).1 (HM.out _ HB.out).2).mono ?_
  rintro e w1 ⟨rfl, hb1⟩
  have HB1 := hide (HB.out.trans (hb1.mono HB.out.size))
  clear hb1
  go_wp2_with fail
  go_ret
  exact ⟨rfl, HB1.out⟩

set_option maxHeartbeats 4000000 in
set_option maxRecDepth 100000 in
theorem eqReaderS_same (l : List (Int × Mt)) (hl : l.length ≤ 1048576) (hs : ∀ r ∈ l, r.2.fs.length ≤ 1048576 ∧ ∀ f ∈ r.2.fs, f.2.length ≤ 1048576) (v u : Value) (w : World) (hr : RdsAt w v l) (hq : RdsAt w u l) :
    Calls Tryz.prog 24 #[v, u] w fun e w' => e = .returned (.bool true) ∧ Below w.heap.size w w' := by
  obtain ⟨a, cap, rfl⟩ := rds_slice hr
  obtain ⟨a', cap', rfl⟩ := rds_slice hq
  have HR := hide hr
  have HQ := hide hq
  have HS := hide hs
  clear hr hq hs
  go_enter Tryz.func24, Tryz.ntmps24
  go_wp2
  go_loopg [5] l.length (fun q iv wr => ∃ k : Nat, k ≤ l.length ∧ iv = .int .i64 (k : Int) ∧ q + k = l.length ∧ Below w.heap.size w wr)
  case atStart => exact ⟨0, Nat.zero_le _, rfl, rfl, Below.refl _ _⟩
  case round =>
    obtain ⟨k, hk, rfl, hg, hb⟩ := hrel
    have HG := hide hg
    clear hg
    by_cases hlt : k < l.length
    · obtain ⟨id, m, hm⟩ : ∃ id m, l[k]? = some (id, m) := ⟨_, _, List.getElem?_eq_getElem hlt⟩
      obtain ⟨b, off, u1, rfl, hbl, ⟨c0, c1, c2, c3, c4⟩, hfr⟩ := rds_get (rds_below HR.out hb) hm
      obtain ⟨b', off', u2, rfl, hbl', ⟨d0, d1, d2, d3, d4⟩, hfr'⟩ := rds_get (rds_below HQ.out hb) hm
      have hxs := HS.out _ (List.mem_of_getElem? hm)
      have HC := hide (fun wx h h' => eqReader_same id u1 u2 m hxs.1 hxs.2 wx h h')
      have HFr := hide (⟨hfr, hfr'⟩ : _ ∧ _)
      obtain ⟨xa, xc, rfl⟩ := frees_slice hfr
      obtain ⟨ya, yc, rfl⟩ := frees_slice hfr'
      obtain ⟨tx, htx⟩ : ∃ n, n = m.tx := ⟨_, rfl⟩
      obtain ⟨mr, hmr⟩ : ∃ n, n = m.root := ⟨_, rfl⟩
      obtain ⟨mn, hmn⟩ : ∃ n, n = m.next := ⟨_, rfl⟩
      obtain ⟨mL, hmL⟩ : ∃ n, n = m.fs.length := ⟨_, rfl⟩
      rw [← htx, ← hmr, ← hmn, ← hmL] at HC
      rw [← htx] at c1 d1
      rw [← hmr] at c2 d2
      rw [← hmn] at c3 d3
      rw [← hmL] at c4 d4
      rw [← hmL] at HFr
      have hk0 : (0 : Int) ≤ (k : Int) := by omega
      have hk1 : (k : Int) < (l.length : Int) := by omega
      clear hm hfr hfr' hxs htx hmr hmn hmL
      go_wp2_with fail
      obtain ⟨wd, hwd⟩ : ∃ wd, wd = wr.drew := ⟨_, rfl⟩
      have HBd : Hid (Below w.heap.size w wd) := hide (by rw [hwd]; exact hb.drew)
      have HSw : Hid (∀ wx, Below wr.heap.size wr wx → (fun wx => (wx.cell? ⟨b, off + k * 5, none⟩ = some (.int .i64 id) ∧ wx.cell? ⟨b, off + k * 5 + 1, none⟩ = some (.int .i64 tx) ∧ wx.cell? ⟨b, off + k * 5 + 2, none⟩ = some (.int .i64 mr) ∧ wx.cell? ⟨b, off + k * 5 + 3, none⟩ = some (.int .i64 mn) ∧ wx.cell? ⟨b, off + k * 5 + 4, none⟩ = some (.slice xa mL xc)) ∧ wx.cell? ⟨b', off' + k * 5, none⟩ = some (.int .i64 id) ∧ wx.cell? ⟨b', off' + k * 5 + 1, none⟩ = some (.int .i64 tx) ∧ wx.cell? ⟨b', off' + k * 5 + 2, none⟩ = some (.int .i64 mr) ∧ wx.cell? ⟨b', off' + k * 5 + 3, none⟩ = some (.int .i64 mn) ∧ wx.cell? ⟨b', off' + k * 5 + 4, none⟩ = some (.slice ya mL yc)) wx) := hide (fun wx hq => ⟨⟨(hq.cell (by exact hbl)).trans c0, (hq.cell (by exact hbl)).trans c1, (hq.cell (by exact hbl)).trans c2, (hq.cell (by exact hbl)).trans c3, (hq.cell (by exact hbl)).trans c4⟩, (hq.cell (by exact hbl')).trans d0, (hq.cell (by exact hbl')).trans d1, (hq.cell (by exact hbl')).trans d2, (hq.cell (by exact hbl')).trans d3, (hq.cell (by exact hbl')).trans d4⟩)
      have HWd : Hid (Below wr.heap.size wr wd) := hide (by rw [hwd]; exact (Below.refl _ _).drew)
      have hHeld := HSw.out wd HWd.out
      refine wp_region_held_drew (S := fun wx => (wx.cell? ⟨b, off + k * 5, none⟩ = some (.int .i64 id) ∧ wx.cell? ⟨b, off + k * 5 + 1, none⟩ = some (.int .i64 tx) ∧ wx.cell? ⟨b, off + k * 5 + 2, none⟩ = some (.int .i64 mr) ∧ wx.cell? ⟨b, off + k * 5 + 3, none⟩ = some (.int .i64 mn) ∧ wx.cell? ⟨b, off + k * 5 + 4, none⟩ = some (.slice xa mL xc)) ∧ wx.cell? ⟨b', off' + k * 5, none⟩ = some (.int .i64 id) ∧ wx.cell? ⟨b', off' + k * 5 + 1, none⟩ = some (.int .i64 tx) ∧ wx.cell? ⟨b', off' + k * 5 + 2, none⟩ = some (.int .i64 mr) ∧ wx.cell? ⟨b', off' + k * 5 + 3, none⟩ = some (.int .i64 mn) ∧ wx.cell? ⟨b', off' + k * 5 + 4, none⟩ = some (.slice ya mL yc)) (by kernel_rfl) (by rw [← hwd]; exact hHeld) (fun _ => ?_)
      rw [← hwd]
      clear hwd
      refine takeW 0 17 ?_ rfl rfl (by kernel_rfl) (by kernel_rfl) (by kernel_rfl) (fun _ _ _ h => h) (Or.inl ⟨by rfl, ?_⟩) hHeld ?_
      rotate_left
      · (intro wx hSw; (try dsimp only at hSw); go_simp; try with_reducible rfl)
      simp only [List.setIfInBounds_toArray, List.set_cons_zero, List.set_cons_succ]
      refine takeW 1 18 ?_ rfl rfl (by kernel_rfl) (by kernel_rfl) (by kernel_rfl) (fun _ _ _ h => h) (Or.inl ⟨by rfl, ?_⟩) hHeld ?_
      rotate_left
      · (intro wx hSw; (try dsimp only at hSw); go_simp; try with_reducible rfl)
      simp only [List.setIfInBounds_toArray, List.set_cons_zero, List.set_cons_succ]
      refine takeW 2 19 ?_ rfl rfl (by kernel_rfl) (by kernel_rfl) (by kernel_rfl) (fun _ _ _ h => h) (Or.inl ⟨by rfl, ?_⟩) hHeld ?_
      rotate_left
      · (intro wx hSw; (try dsimp only at hSw); go_simp; try with_reducible rfl)
      simp only [List.setIfInBounds_toArray, List.set_cons_zero, List.set_cons_succ]
      refine takeW 3 20 ?_ rfl rfl (by kernel_rfl) (by kernel_rfl) (by kernel_rfl) (fun _ _ _ h => h) (Or.inl ⟨by rfl, ?_⟩) hHeld ?_
      rotate_left
      · (intro wx hSw; (try dsimp only at hSw); go_simp; try with_reducible rfl)
      simp only [List.setIfInBounds_toArray, List.set_cons_zero, List.set_cons_succ]
      refine takeW 4 21 ?_ rfl rfl (by kernel_rfl) (by kernel_rfl) (by kernel_rfl) (fun _ _ _ h => h) (Or.inl ⟨by rfl, ?_⟩) hHeld ?_
      rotate_left
      · (intro wx hSw; (try dsimp only at hSw); go_simp; try with_reducible rfl)
      simp only [List.setIfInBounds_toArray, List.set_cons_zero, List.set_cons_succ]
      refine takeW 5 22 ?_ rfl rfl (by kernel_rfl) (by kernel_rfl) (by kernel_rfl) (fun _ _ _ h => h) (Or.inl ⟨by rfl, ?_⟩) hHeld ?_
      rotate_left
      · (intro wx hSw; (try dsimp only at hSw); go_simp; try with_reducible rfl)
      simp only [List.setIfInBounds_toArray, List.set_cons_zero, List.set_cons_succ]
      refine takeW 6 23 ?_ rfl rfl (by kernel_rfl) (by kernel_rfl) (by kernel_rfl) (fun _ _ _ h => h) (Or.inl ⟨by rfl, ?_⟩) hHeld ?_
      rotate_left
      · (intro wx hSw; (try dsimp only at hSw); go_simp; try with_reducible rfl)
      simp only [List.setIfInBounds_toArray, List.set_cons_zero, List.set_cons_succ]
      refine takeW 7 24 ?_ rfl rfl (by kernel_rfl) (by kernel_rfl) (by kernel_rfl) (fun _ _ _ h => h) (Or.inl ⟨by rfl, ?_⟩) hHeld ?_
      rotate_left
      · (intro wx hSw; (try dsimp only at hSw); go_simp; try with_reducible rfl)
      simp only [List.setIfInBounds_toArray, List.set_cons_zero, List.set_cons_succ]
      refine wpAnyH_ready (rs := [8]) (by kernel_rfl) (by simp) ?_
      refine AllReadyH.cons rfl (fun K hK => ?_) AllReadyH.nil
      refine step_call2 wd ?_ 48 Tryz.f48 Tryz.func48 ?_ ?_ (.tmp 20) (.tmp 24) #[64, 64] ?_ (.agg #[.int .i64 id, .int .i64 tx, .int .i64 mr, .int .i64 mn, .slice xa mL xc]) (.agg #[.int .i64 id, .int .i64 tx, .int .i64 mr, .int .i64 mn, .slice ya mL yc]) ?_ ?_ _ (HC.out _ (frees_below HFr.out.1 HWd.out) (frees_below HFr.out.2 HWd.out)) ?_
      · exact rfl
      · decide
      · exact Option.some_ne_none _
      · exact rfl
      · exact rfl
      · exact rfl
      rintro e w2 ⟨rfl, hb2⟩
      refine ⟨_, rfl, ?_⟩
      have HW2 : Hid (Below wr.heap.size wr w2) := hide (HWd.out.trans (hb2.mono HWd.out.size))
      have hS2 := HSw.out w2 HW2.out
      refine hK.out (Act.put _ (some 25) _) _ hS2 (fun _ => ?_)
      clear hK K
      simp only [Act.put, List.setIfInBounds_toArray, List.set_cons_zero, List.set_cons_succ]
      refine takeW 9 26 ?_ rfl rfl (by kernel_rfl) (by kernel_rfl) (by kernel_rfl) (fun _ _ _ h => h) (Or.inl ⟨by rfl, ?_⟩) hS2 ?_
      rotate_left
      · (intro wx hSw; (try dsimp only at hSw); go_simp; try with_reducible rfl)
      simp only [List.setIfInBounds_toArray, List.set_cons_zero, List.set_cons_succ]
      refine wpAnyH_done (by kernel_rfl) ?_ _
      have HB3 : Hid (Below w.heap.size w w2) := hide (hb.trans (HW2.out.mono hb.size))
      clear hS2 hHeld HSw HWd HBd hb2 HW2
      go_wp2_with fail
      go_roundg (gk - 1)
      case measure => have := HG.out; omega
      case rel => exact ⟨k + 1, by omega, by go_num, by have := HG.out; omega, HB3.out⟩
    · go_wp2
      go_ret
      exact ⟨rfl, hb⟩

set_option maxHeartbeats 2000000 in
set_option maxRecDepth 100000 in
theorem toReader_any (id : Int) (v : Value) (m : Mt) (hl : m.fs.length ≤ 1048576) (hs : ∀ f ∈ m.fs, f.2.length ≤ 1048576) (w : World) (hd : FreesAt w v m.fs) :
    Calls Tryz.prog 37 #[.agg #[.int .i64 id, .int .i64 m.tx, .int .i64 m.root, .int .i64 m.next, v]] w fun e w' => ∃ p q lr, e = .returned (.agg #[.int .i64 id, .int .i64 m.tx, .int .i64 m.root, .int .i64 m.next, .slice p m.fs.length q]) ∧ OwnF w' w.heap.size (.slice p m.fs.length q) lr m.fs ∧ Below w.heap.size w w' := by
  obtain ⟨tx, htx⟩ : ∃ n, n = m.tx := ⟨_, rfl⟩
  obtain ⟨mr, hmr⟩ : ∃ n, n = m.root := ⟨_, rfl⟩
  obtain ⟨mn, hmn⟩ : ∃ n, n = m.next := ⟨_, rfl⟩
  have HL : Hid (m.tx = tx ∧ m.root = mr ∧ m.next = mn) := hide ⟨htx.symm, hmr.symm, hmn.symm⟩
  have HM : Hid (∀ wx, Below w.heap.size w wx → MetaAt wx (.agg #[.int .i64 tx, .int .i64 mr, .int .i64 mn, v]) m) := hide (fun wx hb => ⟨v, by rw [htx, hmr, hmn], frees_below hd hb⟩)
  rw [← htx, ← hmr, ← hmn]
  have HC := hide (fun a wx h => toMeta_any a m hl hs wx h)
  obtain ⟨a0, ha0⟩ : ∃ a, a = w.heap.size := ⟨_, rfl⟩
  have hS0 := sep_new (sep_new (sep_new (sep_nil w.heap.size w) (Obj.cells #[.int .i64 id, .int .i64 tx, .int .i64 mr, .int .i64 mn, v] 91) (Nat.le_refl _)) (Obj.cells #[.int .i64 0, .int .i64 0, .int .i64 0, .int .i64 0, .slice none 0 0] 64) (by simp)) (Obj.cells #[.int .i64 id, .int .i64 0, .int .i64 0, .int .i64 0, .slice none 0 0] 64) (by simp; omega)
  obtain ⟨w0, hw0⟩ : ∃ w0, w0 = ((w.alloc (Obj.cells #[.int .i64 id, .int .i64 tx, .int .i64 mr, .int .i64 mn, v] 91)).alloc (Obj.cells #[.int .i64 0, .int .i64 0, .int .i64 0, .int .i64 0, .slice none 0 0] 64)).alloc (Obj.cells #[.int .i64 id, .int .i64 0, .int .i64 0, .int .i64 0, .slice none 0 0] 64) := ⟨_, rfl⟩
  rw [World.size_alloc, World.size_alloc, ← hw0, ← ha0] at hS0
  have HS0 := hide hS0
  have HB0 : Hid (Below w.heap.size w w0) := hide (by rw [hw0]; exact (((Below.refl w.heap.size w).alloc (Nat.le_refl _) _).alloc (by simp) _).alloc (by simp; omega) _)
  have HZ0 : Hid (a0 ≤ w0.heap.size) := hide (by rw [hw0, ha0]; simp; omega)
  have HA := hide ha0
  clear hS0 ha0 hd htx hmr hmn hl hs
  go_enter Tryz.func37, Tryz.ntmps37
  go_wp2_with fail
  rw [← hw0, ← HA.out]
  clear hw0
  refine (HC.out _ _ (HM.out _ HB0.out)).mono ?_
  rintro e w1 ⟨v1, rfl, hm1, hb1⟩
  obtain ⟨xr, lr, e1, ho1⟩ := hm1
  obtain ⟨p1, q1, rfl⟩ := own_slice ho1.1
  rw [HL.out.1, HL.out.2.1, HL.out.2.2] at e1
  subst e1
  have HS1 := hide (sep_add HS0.out hb1 (freesA a0 (.slice p1 m.fs.length q1) lr m.fs) (ownF_down ho1 HZ0.out) (fun j hj => ownF_lt ho1 j hj) HZ0.out)
  have HB1 : Hid (Below w.heap.size w w1) := hide (HB0.out.trans (hb1.mono HB0.out.size))
  clear ho1 hb1
  obtain ⟨nL, hnL⟩ : ∃ n, n = m.fs.length := ⟨_, rfl⟩
  rw [← hnL] at HS1 ⊢
  have HNL := hide hnL
  clear hnL
  have HV : Hid (w1.heap[a0 + 1 + 1]? = some (Obj.cells #[.int .i64 id, .int .i64 0, .int .i64 0, .int .i64 0, .slice none 0 0] 64)) := hide (sep_get HS1.out 1 rfl)
  have HU : Hid (w1.heap[a0 + 1]? = some (Obj.cells #[.int .i64 0, .int .i64 0, .int .i64 0, .int .i64 0, .slice none 0 0] 64)) := hide (sep_get HS1.out 2 rfl)
  have y0 := (cell_at HV.out 0).1
  have y1 := (cell_at HV.out 1).1
  have y2 := (cell_at HV.out 2).1
  have y3 := (cell_at HV.out 3).1
  have y4 := (cell_at HV.out 4).1
  have z1 := (cell_at HV.out 1).2
  have z2 := (cell_at HV.out 2).2
  have z3 := (cell_at HV.out 3).2
  have z4 := (cell_at HV.out 4).2
  have r0 := (cell_at HU.out 0).1
  have r1 := (cell_at HU.out 1).1
  have r2 := (cell_at HU.out 2).1
  have r3 := (cell_at HU.out 3).1
  have r4 := (cell_at HU.out 4).1
  have s0 := (cell_at HU.out 0).2
  have s1 := (cell_at HU.out 1).2
  have s2 := (cell_at HU.out 2).2
  have s3 := (cell_at HU.out 3).2
  have s4 := (cell_at HU.out 4).2
  have hne : a0 + 1 ≠ a0 + 1 + 1 := by omega
  go_wp2_with fail
  have HS4 := hide (sep_store (sep_store (sep_store (sep_store (sep_store (sep_store (sep_store (sep_store (sep_store HS1.out 1 rfl 1 (.int .i64 tx)) 1 rfl 2 (.int .i64 mr)) 1 rfl 3 (.int .i64 mn)) 1 rfl 4 (.slice p1 nL q1)) 2 rfl 0 (.int .i64 id)) 2 rfl 1 (.int .i64 tx)) 2 rfl 2 (.int .i64 mr)) 2 rfl 3 (.int .i64 mn)) 2 rfl 4 (.slice p1 nL q1))
  have hg1 : w.heap.size ≤ a0 + 1 := by have := HA.out; omega
  have hg2 : w.heap.size ≤ a0 + 1 + 1 := by have := HA.out; omega
  have HF : Hid ((((((((((w1.setCell ⟨a0 + 1 + 1, 1, none⟩ (.int .i64 tx)).setCell ⟨a0 + 1 + 1, 2, none⟩ (.int .i64 mr)).setCell ⟨a0 + 1 + 1, 3, none⟩ (.int .i64 mn)).setCell ⟨a0 + 1 + 1, 4, none⟩ (.slice p1 nL q1)).setCell ⟨a0 + 1, 0, none⟩ (.int .i64 id)).setCell ⟨a0 + 1, 1, none⟩ (.int .i64 tx)).setCell ⟨a0 + 1, 2, none⟩ (.int .i64 mr)).setCell ⟨a0 + 1, 3, none⟩ (.int .i64 mn)).setCell ⟨a0 + 1, 4, none⟩ (.slice p1 nL q1)).heap[a0 + 1]? = some (Obj.cells #[.int .i64 id, .int .i64 tx, .int .i64 mr, .int .i64 mn, .slice p1 nL q1] 64)) := hide (sep_get HS4.out 2 rfl)
  have t0 := (cell_at HF.out 0).1
  have t1 := (cell_at HF.out 1).1
  have t2 := (cell_at HF.out 2).1
  have t3 := (cell_at HF.out 3).1
  have t4 := (cell_at HF.out 4).1
  refine bodyPost_ret (v := .agg #[.int .i64 id, .int .i64 tx, .int .i64 mr, .int .i64 mn, .slice p1 nL q1]) (by simp [results, Tryz.results37, go_sem, t0, t1, t2, t3, t4]) rfl ⟨p1, q1, lr, by rw [HNL.out], ?_, (((((((((HB1.out.setCell (p := ⟨a0 + 1 + 1, 1, none⟩) hg2 (.int .i64 tx)).setCell (p := ⟨a0 + 1 + 1, 2, none⟩) hg2 (.int .i64 mr)).setCell (p := ⟨a0 + 1 + 1, 3, none⟩) hg2 (.int .i64 mn)).setCell (p := ⟨a0 + 1 + 1, 4, none⟩) hg2 (.slice p1 nL q1)).setCell (p := ⟨a0 + 1, 0, none⟩) hg1 (.int .i64 id)).setCell (p := ⟨a0 + 1, 1, none⟩) hg1 (.int .i64 tx)).setCell (p := ⟨a0 + 1, 2, none⟩) hg1 (.int .i64 mr)).setCell (p := ⟨a0 + 1, 3, none⟩) hg1 (.int .i64 mn)).setCell (p := ⟨a0 + 1, 4, none⟩) hg1 (.slice p1 nL q1))⟩
  have h : OwnF _ a0 (.slice p1 nL q1) lr m.fs := sep_get HS4.out 0 rfl
  rw [HNL.out] at h ⊢
  rw [HA.out] at h ⊢
  exact h

/-- a meta with nothing -/
def rd0 : Int × Mt := (0, ⟨0, 0, 0, []⟩)

theorem rds_made (n : Nat) : (madeCells #[Value.int .i64 0, .int .i64 0, .int .i64 0, .int .i64 0, .slice none 0 0] (n * 5)).toList = rds (List.replicate n rd0) (List.replicate n (.slice none 0 0)) := by
  apply List.ext_getElem?
  intro i
  have hlen : (rds (List.replicate n rd0) (List.replicate n (.slice none 0 0))).length = n * 5 := by rw [rds_length _ _ (by simp), List.length_replicate]
  by_cases hi : i < n * 5
  · have h1 : (madeCells #[Value.int .i64 0, .int .i64 0, .int .i64 0, .int .i64 0, .slice none 0 0] (n * 5)).toList[i]? = some (#[Value.int .i64 0, .int .i64 0, .int .i64 0, .int .i64 0, .slice none 0 0][i % 5]!) := by
      simp [madeCells, hi]
    obtain ⟨h20, h21, h22, h23, h24⟩ := rds_at (List.replicate n rd0) (List.replicate n (.slice none 0 0)) (i / 5) rd0 (.slice none 0 0) (by rw [List.getElem?_replicate, if_pos (by omega)]) (by rw [List.getElem?_replicate, if_pos (by omega)])
    rw [h1]
    have h5 : i % 5 = 0 ∨ i % 5 = 1 ∨ i % 5 = 2 ∨ i % 5 = 3 ∨ i % 5 = 4 := by omega
    rcases h5 with h | h | h | h | h
    · rw [h, show i = i / 5 * 5 from by omega, h20]; rfl
    · rw [h, show i = i / 5 * 5 + 1 from by omega, h21]; rfl
    · rw [h, show i = i / 5 * 5 + 2 from by omega, h22]; rfl
    · rw [h, show i = i / 5 * 5 + 3 from by omega, h23]; rfl
    · rw [h, show i = i / 5 * 5 + 4 from by omega, h24]; rfl
  · rw [List.getElem?_eq_none (by simp [madeCells]; omega), List.getElem?_eq_none (by rw [hlen]; omega)]

theorem Tryz.infoReader : (Tryz.prog.info? 64).map (fun i => (i.zero, i.size, i.bytes)) = some (some (.agg #[.int .i64 0, .int .i64 0, .int .i64 0, .int .i64 0, .slice none 0 0]), 5, 56) := by kernel_rfl

theorem set_mid {α : Type} (l : List α) (j : Nat) (z x : α) (k : Nat) (hk : l.length = k) : (l ++ List.replicate (j + 1) z).set k x = (l ++ [x]) ++ List.replicate j z := by
  subst hk
  rw [List.replicate_succ, List.set_append_right _ _ (Nat.le_refl _), Nat.sub_self, List.set_cons_zero, List.append_assoc]
  rfl

theorem frL_snoc (B : Nat) (us : List (Value × List (Int × Value))) (rs : List (Int × Mt)) (x : Value × List (Int × Value)) (r : Int × Mt) (h : us.length = rs.length) : frL B (us ++ [x]) (rs ++ [r]) = frL B us rs ++ [freesA B x.1 x.2 r.2.fs] := by
  unfold frL
  rw [List.zipWith_append h]
  rfl

set_option maxHeartbeats 4000000 in
set_option maxRecDepth 100000 in
theorem toReaderS_any (rs : List (Int × Mt)) (hl : rs.length ≤ 1048576) (hs : ∀ r ∈ rs, r.2.fs.length ≤ 1048576 ∧ ∀ f ∈ r.2.fs, f.2.length ≤ 1048576) (v : Value) (w : World) (hr : RdsAt w v rs) :
    Calls Tryz.prog 17 #[v] w fun e w' => ∃ v' us, e = .returned v' ∧ us.length = rs.length ∧ Sep w.heap.size w' (rdsL w.heap.size v' us rs) ∧ Below w.heap.size w w' := by
  obtain ⟨i0, hi, hz0, hz1, hz2⟩ := info_parts Tryz.infoReader
  obtain ⟨a, cap, rfl⟩ := rds_slice hr
  have HR := hide hr
  have HS := hide hs
  clear hr hs
  obtain ⟨n, hn⟩ : ∃ n, n = rs.length := ⟨_, rfl⟩
  rw [← hn] at hl HR ⊢
  have HN := hide hn
  clear hn
  go_enter Tryz.func17, Tryz.ntmps17
  go_wp2_with (at_make; refine wpList_make_full _ rfl _ _ 46 rfl w.heap.size 64 i0 (.agg #[.int .i64 0, .int .i64 0, .int .i64 0, .int .i64 0, .slice none 0 0]) 5 Tryz.underlying46 hi hz0 hz1 .i64 .i64 _ _ n rfl rfl rfl rfl (by rw [hz2]; omega) (by unfold maxLen; omega) (Nat.le_refl _) ?_)
  intro w1 hown1 hg1
  have hb1 : Below w.heap.size w w1 := (Below.refl _ _).grown hg1 (Nat.le_refl _) (fun k hk => by cases hk)
  have hown2 : w1.ownsRow w.heap.size 64 5 (.slice (some ⟨w.heap.size, 0, none⟩) n n) n (rds (List.replicate n rd0) (List.replicate n (.slice none 0 0))) := own_n hown1 rfl (rds_made _)
  obtain ⟨a0, ha0⟩ : ∃ a, a = w.heap.size := ⟨_, rfl⟩
  have HS1 : Hid (Sep a0 w1 (rowA a0 64 5 (.slice (some ⟨a0, 0, none⟩) n n) n (rds (rs.take 0 ++ List.replicate (n - 0) rd0) (([] : List (Value × List (Int × Value))).map Prod.fst ++ List.replicate (n - 0) (.slice none 0 0))) :: frL a0 [] (rs.take 0))) := hide (by
    rw [List.take_zero, Nat.sub_zero]
    rw [← ha0] at hown2
    refine sep_cons.2 ⟨⟨hown2, fun j hj => hown2.lt j hj⟩, (fun A hA => (by cases hA)), sep_nil _ _⟩)
  have HB1 := hide hb1
  have HZ1 : Hid (a0 ≤ w1.heap.size) := hide (by rw [ha0]; exact hb1.size)
  have HA := hide ha0
  rw [← HA.out]
  clear hg1 hown1 hown2 hb1 ha0
  go_wp2
  go_loopg [4] n (fun q iv wr => ∃ (k : Nat) (us : List (Value × List (Int × Value))), k ≤ n ∧ iv = .int .i64 (k : Int) ∧ q + k = n ∧ Hid (us.length = k) ∧ Hid (Sep a0 wr (rowA a0 64 5 (.slice (some ⟨a0, 0, none⟩) n n) n (rds (rs.take k ++ List.replicate (n - k) rd0) (us.map Prod.fst ++ List.replicate (n - k) (.slice none 0 0))) :: frL a0 us (rs.take k))) ∧ Hid (Below w.heap.size w wr) ∧ Hid (a0 ≤ wr.heap.size))
  case atStart => exact ⟨0, [], Nat.zero_le _, rfl, rfl, hide rfl, HS1, HB1, HZ1⟩
  case round =>
    clear HS1 HB1 HZ1
    obtain ⟨k, us, hk, rfl, hg, HU, HSp, HB, HZ⟩ := hrel
    have HG := hide hg
    clear hg
    by_cases hlt : k < n
    · obtain ⟨id, m, hm⟩ : ∃ id m, rs[k]? = some (id, m) := ⟨_, _, List.getElem?_eq_getElem (by rw [← HN.out]; exact hlt)⟩
      obtain ⟨b, off, u1, rfl, hbl, ⟨c0, c1, c2, c3, c4⟩, hfr⟩ := rds_get (rds_below HR.out HB.out) hm
      have hxs := HS.out _ (List.mem_of_getElem? hm)
      have HC := hide (fun wx h => toReader_any id u1 m hxs.1 hxs.2 wx h)
      have HFr := hide hfr
      have HMk := hide hm
      obtain ⟨xa, xc, rfl⟩ := frees_slice hfr
      obtain ⟨tx, htx⟩ : ∃ n, n = m.tx := ⟨_, rfl⟩
      obtain ⟨mr, hmr⟩ : ∃ n, n = m.root := ⟨_, rfl⟩
      obtain ⟨mn, hmn⟩ : ∃ n, n = m.next := ⟨_, rfl⟩
      obtain ⟨mL, hmL⟩ : ∃ n, n = m.fs.length := ⟨_, rfl⟩
      rw [← htx, ← hmr, ← hmn, ← hmL] at HC
      rw [← htx] at c1
      rw [← hmr] at c2
      rw [← hmn] at c3
      rw [← hmL] at c4
      rw [← hmL] at HFr
      have HMs := hide (⟨htx, hmr, hmn, hmL⟩ : _ ∧ _ ∧ _ ∧ _)
      have hk0 : (0 : Int) ≤ (k : Int) := by omega
      have hk1 : (k : Int) < (n : Int) := by omega
      clear hm hfr hxs htx hmr hmn hmL
      go_wp2_with fail
      refine (HC.out _ HFr.out).mono ?_
      rintro e w2 ⟨p, q, lr, rfl, ho, hb2⟩
      have hs2 := sep_add HSp.out hb2 (freesA a0 (.slice p mL q) lr m.fs) (ownF_down ho HZ.out) (fun j hj => ownF_lt ho j hj) HZ.out
      have hown : w2.ownsRow a0 64 5 (.slice (some ⟨a0, 0, none⟩) n n) n (rds (rs.take k ++ List.replicate (n - k) rd0) (us.map Prod.fst ++ List.replicate (n - k) (.slice none 0 0))) := sep_get hs2 1 rfl
      have hlk : (rs.take k).length = k := by rw [List.length_take, ← HN.out]; omega
      have hluk : (us.map Prod.fst).length = k := by rw [List.length_map]; exact HU.out
      obtain ⟨e0, e1, e2, e3, e4⟩ := rds_at (rs.take k ++ List.replicate (n - k) rd0) (us.map Prod.fst ++ List.replicate (n - k) (.slice none 0 0)) k rd0 (.slice none 0 0) (by rw [List.getElem?_append_right (by omega), List.getElem?_replicate, if_pos (by omega)]) (by rw [List.getElem?_append_right (by omega), List.getElem?_replicate, if_pos (by omega)])
      have d0 : w2.cell? ⟨a0, k * 5, none⟩ = some (.int .i64 0) := by rw [hown.cellAt (k * 5) (by omega), e0]; rfl
      have d1 : w2.cell? ⟨a0, k * 5 + 1, none⟩ = some (.int .i64 0) := by rw [hown.cellAt (k * 5 + 1) (by omega), e1]; rfl
      have d2 : w2.cell? ⟨a0, k * 5 + 2, none⟩ = some (.int .i64 0) := by rw [hown.cellAt (k * 5 + 2) (by omega), e2]; rfl
      have d3 : w2.cell? ⟨a0, k * 5 + 3, none⟩ = some (.int .i64 0) := by rw [hown.cellAt (k * 5 + 3) (by omega), e3]; rfl
      have d4 : w2.cell? ⟨a0, k * 5 + 4, none⟩ = some (.slice none 0 0) := by rw [hown.cellAt (k * 5 + 4) (by omega), e4]
      have f0 : w2.frozen? ⟨a0, k * 5, none⟩ = false := hown.frozenAt _
      have f1 : w2.frozen? ⟨a0, k * 5 + 1, none⟩ = false := hown.frozenAt _
      have f2 : w2.frozen? ⟨a0, k * 5 + 2, none⟩ = false := hown.frozenAt _
      have f3 : w2.frozen? ⟨a0, k * 5 + 3, none⟩ = false := hown.frozenAt _
      have f4 : w2.frozen? ⟨a0, k * 5 + 4, none⟩ = false := hown.frozenAt _
      have hst := (((((hown.stored (k * 5) (.int .i64 id)).1.stored (k * 5 + 1) (.int .i64 tx)).1.stored (k * 5 + 2) (.int .i64 mr)).1.stored (k * 5 + 3) (.int .i64 mn)).1.stored (k * 5 + 4) (.slice p mL q)).1
      have hset := rds_set (rs.take k ++ List.replicate (n - k) rd0) (us.map Prod.fst ++ List.replicate (n - k) (.slice none 0 0)) k (id, m) (.slice p mL q) (by simp [hlk, hluk]) (by rw [List.length_append, hlk, List.length_replicate]; omega)
      rw [HMs.out.1, HMs.out.2.1, HMs.out.2.2.1] at hst
      rw [hset, show n - k = (n - (k + 1)) + 1 by omega, set_mid _ _ _ _ k hlk, set_mid _ _ _ _ k hluk, ← take_next rs k _ HMk.out] at hst
      rw [← HMs.out.1, ← HMs.out.2.1, ← HMs.out.2.2.1] at hst
      have hkept := kept_trans (kept_trans (kept_trans (kept_trans (kept_setCell w2 a0 (k * 5) (.int .i64 id)) (kept_setCell _ a0 (k * 5 + 1) (.int .i64 tx)) (fun _ _ h => h)) (kept_setCell _ a0 (k * 5 + 2) (.int .i64 mr)) (fun _ _ h => h)) (kept_setCell _ a0 (k * 5 + 3) (.int .i64 mn)) (fun _ _ h => h)) (kept_setCell _ a0 (k * 5 + 4) (.slice p mL q)) (fun _ _ h => h)
      have hs3 := sep_set hs2 1 rfl (kept_mono hkept (fun j _ h => by subst h; rfl)) (rowA a0 64 5 (.slice (some ⟨a0, 0, none⟩) n n) n _) hst (fun j hj => ⟨Or.inl hj, (hst.lt j hj).2⟩) (Nat.le_trans HZ.out hb2.size)
      have HS4 : Hid (Sep a0 ((((((w2.setCell ⟨a0, k * 5, none⟩ (.int .i64 id)).setCell ⟨a0, k * 5 + 1, none⟩ (.int .i64 tx)).setCell ⟨a0, k * 5 + 2, none⟩ (.int .i64 mr)).setCell ⟨a0, k * 5 + 3, none⟩ (.int .i64 mn)).setCell ⟨a0, k * 5 + 4, none⟩ (.slice p mL q))) (rowA a0 64 5 (.slice (some ⟨a0, 0, none⟩) n n) n (rds (rs.take (k + 1) ++ List.replicate (n - (k + 1)) rd0) ((us ++ [(Value.slice p mL q, lr)]).map Prod.fst ++ List.replicate (n - (k + 1)) (.slice none 0 0))) :: frL a0 (us ++ [(Value.slice p mL q, lr)]) (rs.take (k + 1)))) := hide (by
        rw [List.map_append, List.map_singleton, take_next rs k _ HMk.out, frL_snoc a0 us (rs.take k) _ _ (by rw [HU.out, hlk])]
        rw [take_next rs k _ HMk.out] at hs3
        exact sep_perm hs3 ((List.Perm.swap _ _ _).trans (List.Perm.cons _ (List.perm_append_comm (l₁ := [_])))))
      have HB4 := hide ((((((HB.out.trans (hb2.mono HB.out.size)).setCell (p := ⟨a0, k * 5, none⟩) (by rw [HA.out]; exact Nat.le_refl _) (.int .i64 id)).setCell (p := ⟨a0, k * 5 + 1, none⟩) (by rw [HA.out]; exact Nat.le_refl _) (.int .i64 tx)).setCell (p := ⟨a0, k * 5 + 2, none⟩) (by rw [HA.out]; exact Nat.le_refl _) (.int .i64 mr)).setCell (p := ⟨a0, k * 5 + 3, none⟩) (by rw [HA.out]; exact Nat.le_refl _) (.int .i64 mn)).setCell (p := ⟨a0, k * 5 + 4, none⟩) (by rw [HA.out]; exact Nat.le_refl _) (.slice p mL q))
      have HZ4 : Hid (a0 ≤ ((((((w2.setCell ⟨a0, k * 5, none⟩ (.int .i64 id)).setCell ⟨a0, k * 5 + 1, none⟩ (.int .i64 tx)).setCell ⟨a0, k * 5 + 2, none⟩ (.int .i64 mr)).setCell ⟨a0, k * 5 + 3, none⟩ (.int .i64 mn)).setCell ⟨a0, k * 5 + 4, none⟩ (.slice p mL q))).heap.size) := hide (by have h1 := HZ.out; have h2 := hb2.size; simp; omega)
      clear hs2 hs3 hown hst hset hkept ho hb2 e0 e1 e2 e3 e4 c0 c1 c2 c3 c4 hlk hluk
      go_wp2_with fail
      go_roundg (gk - 1)
      case measure => have := HG.out; omega
      case rel => exact ⟨k + 1, us ++ [(Value.slice p mL q, lr)], by omega, by go_num, by have := HG.out; omega, hide (by simp [HU.out]), HS4, HB4, HZ4⟩
    · obtain rfl : n = k := by omega
      go_wp2
      go_ret
      refine ⟨_, us, rfl, by rw [HU.out], ?_, HB.out⟩
      have h := HSp.out
      rw [Nat.sub_self, List.replicate_zero, List.replicate_zero, List.append_nil, List.append_nil, List.take_of_length_le (by rw [← HN.out]; exact Nat.le_refl _)] at h
      unfold rdsL
      rw [← HN.out, ← HA.out]
      exact h
end Go.Proofs.YtbokjfjdjgopeaaGreatDoor

namespace Go.Proofs.YtbokjfjdjgopeaaGreatDoor
open Go.RowKit

theorem apartM {u v : Value} (h : ∀ k, u.ownBlock = some k → v.ownBlock ≠ some k) : v.ownBlock = none ∨ v.ownBlock ≠ u.ownBlock := by
  cases hv : v.ownBlock with
  | none => exact Or.inl rfl
  | some k => exact Or.inr (fun e => h k e.symm hv)

theorem awayM {u : Value} {gn : Nat} (h : ∀ k, u.ownBlock = some k → gn < k) : some gn ≠ u.ownBlock := fun e => by have := h gn e.symm; omega

theorem blk_typeM {w : World} {B e sz n g : Nat} {v : Value} {xs : List Value} {cs : Array Value} {t : TypeId} {p : Nat × Nat} (h : w.ownsRow B e sz v n xs) (hb : w.heap[g]? = some (.cells cs t p)) (hne : e ≠ t) : some g ≠ v.ownBlock := by
  intro h2
  rcases h.2 with ⟨rfl, -⟩ | ⟨g', cap, cur, rfl, -, hh, -⟩
  · cases h2
  · injection h2 with h2
    have h2 : g = g' := h2
    subst h2
    rw [hh] at hb
    injection hb with hb
    injection hb with _ he _
    exact hne he

theorem grown_setM (w : World) (g j : Nat) (u : Value) : w.grownBy (w.setCell ⟨g, j, none⟩ u) (some g) :=
  ⟨rfl, rfl, rfl, by simp, fun k _ hn => heap_setCell_other w ⟨g, j, none⟩ k u (fun e => hn (by rw [e]))⟩

def MGr (w : World) (gm : Nat) (tx root next : Int) (vf : Value) (l : List (Int × Value)) (fs : List (Int × List Int)) : Prop :=
  w.heap[gm]? = some (.cells #[.int .i64 tx, .int .i64 root, .int .i64 next, vf] 45 (0, 0)) ∧ OwnF w (gm + 1) vf l fs

def FGr (w : World) (gm gf : Nat) (ftx : Int) (vp : Value) (ps : List Int) (vf : Value) (l : List (Int × Value)) : Prop :=
  w.heap[gf]? = some (.cells #[.int .i64 ftx, vp] 128 (0, 0)) ∧ w.ownsRow (gm + 1) 3 1 vp ps.length (ints ps) ∧ gm < gf ∧ some gf ≠ vf.ownBlock ∧ ∀ (i : Nat) (p : Int × Value) (b : Nat), l[i]? = some p → p.2.ownBlock = some b → vp.ownBlock ≠ some b

theorem mgr_lt {w : World} {gm : Nat} {tx root next : Int} {vf : Value} {l : List (Int × Value)} {fs : List (Int × List Int)} (h : MGr w gm tx root next vf l fs) : gm < w.heap.size := (Array.getElem?_eq_some_iff.1 h.1).1

theorem ownF_grown {w w' : World} {B : Nat} {v : Value} {m : List (Int × Value)} {fs : List (Int × List Int)} {r : Option Nat} (h : OwnF w B v m fs) (hg : w.grownBy w' r) (hr : ∀ b, freeBlocks v m b → r ≠ some b) : OwnF w' B v m fs :=
  ownF_kept h (S := fun k => r = some k) ⟨hg.os, hg.tape, hg.output, hg.size, fun k hk hn => hg.block k hk (fun e => hn e.symm)⟩ (fun b hb e => hr b hb e)

theorem mgr_grown {w w' : World} {g gm : Nat} {tx root next : Int} {vf : Value} {l : List (Int × Value)} {fs : List (Int × List Int)} (h : MGr w gm tx root next vf l fs) (hg : w.grownBy w' (some g)) (hlt : g < gm) : MGr w' gm tx root next vf l fs :=
  ⟨(hg.block gm (mgr_lt h) (fun e => by injection e with e; omega)).trans h.1, ownF_grown h.2 hg (fun b hb e => by injection e with e; have := (ownF_lt h.2 b hb).1; omega)⟩

theorem mgr_below {w w' : World} {gm : Nat} {tx root next : Int} {vf : Value} {l : List (Int × Value)} {fs : List (Int × List Int)} (h : MGr w gm tx root next vf l fs) (hb : Below w.heap.size w w') : MGr w' gm tx root next vf l fs :=
  ⟨(hb.block gm (mgr_lt h)).trans h.1, ownF_stays h.2 hb⟩

theorem fgr_grown {w w' : World} {g gm gf : Nat} {ftx : Int} {vp : Value} {ps : List Int} {vf : Value} {l : List (Int × Value)} (h : FGr w gm gf ftx vp ps vf l) (hg : w.grownBy w' (some g)) (hlt : g < gm) : FGr w' gm gf ftx vp ps vf l := by
  obtain ⟨h1, h2, h3, h4, h5⟩ := h
  exact ⟨(hg.block gf (Array.getElem?_eq_some_iff.1 h1).1 (fun e => by injection e with e; omega)).trans h1, h2.kept hg (Or.inr (fun e => by have := (h2.lt _ e).1; omega)), h3, h4, h5⟩

theorem fgr_below {w w' : World} {gm gf : Nat} {ftx : Int} {vp : Value} {ps : List Int} {vf : Value} {l : List (Int × Value)} (h : FGr w gm gf ftx vp ps vf l) (hb : Below w.heap.size w w') : FGr w' gm gf ftx vp ps vf l := by
  obtain ⟨h1, h2, h3, h4, h5⟩ := h
  exact ⟨(hb.block gf (Array.getElem?_eq_some_iff.1 h1).1).trans h1, own_stays h2 hb, h3, h4, h5⟩

theorem own_none (w : World) (B e sz : Nat) : w.ownsRow B e sz (.slice none 0 0) 0 [] := ⟨by simp, Or.inl ⟨rfl, rfl⟩⟩

/-- a new meta without frees -/
theorem mgr_new (w : World) (tx root next : Int) : MGr (w.alloc (.cells #[.int .i64 tx, .int .i64 root, .int .i64 next, .slice none 0 0] 45 (0, 0))) w.heap.size tx root next (.slice none 0 0) [] [] :=
  ⟨heap_alloc_new w _, own_none _ _ _ _, rfl, fun i p f h => by simp at h, fun i j p q b h => by simp at h⟩

/-- a new free without pages -/
theorem fgr_new {w : World} {gm : Nat} {tx root next : Int} {vf : Value} {l : List (Int × Value)} {fs : List (Int × List Int)} (h : MGr w gm tx root next vf l fs) (ftx : Int) :
    FGr (w.alloc (.cells #[.int .i64 ftx, .slice none 0 0] 128 (0, 0))) gm w.heap.size ftx (.slice none 0 0) [] vf l :=
  ⟨heap_alloc_new w _, own_none _ _ _ _, mgr_lt h, fun e => by have := (ownF_lt h.2 _ (Or.inl e.symm)).2; omega, fun i p b _ _ e => by cases e⟩

theorem ints_snocM (l : List Int) (x : Int) : ints l ++ [.int .i64 x] = ints (l ++ [x]) := by simp [ints]

/-- a page more -/
theorem page_step {w w' : World} {gm gf b cap : Nat} {tx root next ftx x : Int} {vf vp : Value} {l : List (Int × Value)} {fs : List (Int × List Int)} {ps : List Int} {o : Obj} (hM : MGr w gm tx root next vf l fs) (hF : FGr w gm gf ftx vp ps vf l)
    (hown : w'.ownsRow (gm + 1) 3 1 (.slice (some ⟨b, 0, none⟩) (ps.length + 1) cap) (ps.length + 1) (ints ps ++ [.int .i64 x])) (hg : (w.alloc o).grownBy w' vp.ownBlock) (hb : vp.ownBlock = some b ∨ b = (w.alloc o).heap.size) :
    MGr (w'.setCell ⟨gf, 1, none⟩ (.slice (some ⟨b, 0, none⟩) (ps.length + 1) cap)) gm tx root next vf l fs ∧ FGr (w'.setCell ⟨gf, 1, none⟩ (.slice (some ⟨b, 0, none⟩) (ps.length + 1) cap)) gm gf ftx (.slice (some ⟨b, 0, none⟩) (ps.length + 1) cap) (ps ++ [x]) vf l ∧
    Below (gm + 1) w (w'.setCell ⟨gf, 1, none⟩ (.slice (some ⟨b, 0, none⟩) (ps.length + 1) cap)) ∧ w'.cell? ⟨gf, 1, none⟩ = some vp ∧ w'.frozen? ⟨gf, 1, none⟩ = false := by
  have hba : Below w.heap.size w (w.alloc o) := (Below.refl _ _).alloc (Nat.le_refl _) _
  have hMl := mgr_lt hM
  obtain ⟨m1, m2⟩ := mgr_below hM hba
  obtain ⟨f1, f2, f3, f4, f5⟩ := fgr_below hF hba
  have hsA : w.heap.size < (w.alloc o).heap.size := by simp
  have r1 : w'.heap[gf]? = _ := (hg.block gf (Array.getElem?_eq_some_iff.1 f1).1 (blk_typeM f2 f1 Tryz.free_int.symm)).trans f1
  have r2 : w'.heap[gm]? = _ := (hg.block gm (Array.getElem?_eq_some_iff.1 m1).1 (awayM (fun k e => (f2.lt k e).1))).trans m1
  have hs := grown_setM w' gf 1 (.slice (some ⟨b, 0, none⟩) (ps.length + 1) cap)
  have o1 : OwnF w' (gm + 1) vf l fs := ownF_grown m2 hg (fun c hc => by
    rcases hc with hc | ⟨i, p, hp, hc⟩
    · exact fun e => one_type m2.1 f2 Tryz.free_int c hc e
    · exact f5 i p c hp hc)
  have o2 : OwnF (w'.setCell ⟨gf, 1, none⟩ (.slice (some ⟨b, 0, none⟩) (ps.length + 1) cap)) (gm + 1) vf l fs := ownF_grown o1 hs (fun c hc e => by
    injection e with e
    subst e
    rcases hc with hc | ⟨i, p, hp, hc⟩
    · exact f4 hc.symm
    · have hi : i < fs.length := by have := (List.getElem?_eq_some_iff.1 hp).1; have := o1.2.1; omega
      exact blk_typeM (o1.2.2.1 i p _ hi hp (List.getElem?_eq_getElem hi)).2 r1 Tryz.free_int.symm hc.symm)
  have hbe : Below (gm + 1) w w' := ((Below.refl (gm + 1) w).alloc (by omega) o).grown hg (by simp; omega) (fun k e => (f2.lt k e).1)
  refine ⟨⟨(hs.block gm (by have := (Array.getElem?_eq_some_iff.1 r2).1; exact this) (fun e => by injection e with e; omega)).trans r2, o2⟩, ⟨heap_setCell_same w' gf 1 _ _ _ r1, ?_, f3, f4, fun i p c hp hc e => ?_⟩, hbe.grown hs (by have := hbe.size; omega) (fun k e => by injection e with e; omega), (cell_at r1 1).1, (cell_at r1 1).2⟩
  · rw [List.length_append, ← ints_snocM]
    exact hown.kept hs (Or.inr (fun e => blk_typeM hown r1 Tryz.free_int.symm e.symm))
  · have e : b = c := by injection e
    subst e
    rcases hb with hb | hb
    · exact f5 i p b hp hc hb
    · have hi : i < fs.length := by have := (List.getElem?_eq_some_iff.1 hp).1; have := m2.2.1; omega
      have := ((m2.2.2.1 i p _ hi hp (List.getElem?_eq_getElem hi)).2.lt b hc).2
      omega

theorem frs_snoc (l : List (Int × Value)) (x : Int) (u : Value) : frs (l ++ [(x, u)]) = frs l ++ [.int .i64 x, u] := by simp [frs]

/-- a free more -/
theorem free_step {w w' : World} {gm gf : Nat} {tx root next ftx : Int} {vf vp v' : Value} {l : List (Int × Value)} {fs : List (Int × List Int)} {ps : List Int} {o : Obj} (hM : MGr w gm tx root next vf l fs) (hF : FGr w gm gf ftx vp ps vf l)
    (hown : w'.ownsRow (gm + 1) 128 2 v' (fs.length + 1) (frs l ++ [.int .i64 ftx, vp])) (hg : (w.alloc o).grownBy w' vf.ownBlock) :
    MGr (w'.setCell ⟨gm, 3, none⟩ v') gm tx root next v' (l ++ [(ftx, vp)]) (fs ++ [(ftx, ps)]) ∧ Below gm w (w'.setCell ⟨gm, 3, none⟩ v') ∧ w'.cell? ⟨gm, 3, none⟩ = some vf ∧ w'.frozen? ⟨gm, 3, none⟩ = false := by
  have hba : Below w.heap.size w (w.alloc o) := (Below.refl _ _).alloc (Nat.le_refl _) _
  have hMl := mgr_lt hM
  obtain ⟨m1, m2⟩ := mgr_below hM hba
  obtain ⟨f1, f2, f3, f4, f5⟩ := fgr_below hF hba
  have r2 : w'.heap[gm]? = _ := (hg.block gm (Array.getElem?_eq_some_iff.1 m1).1 (awayM (fun k e => (m2.1.lt k e).1))).trans m1
  have hs := grown_setM w' gm 3 v'
  have hbe : Below gm w w' := ((Below.refl gm w).alloc (by omega) o).grown hg (by simp; omega) (fun k e => by have := (m2.1.lt k e).1; omega)
  have p1 : w'.ownsRow (gm + 1) 3 1 vp ps.length (ints ps) := f2.kept hg (apartM (fun k e => one_type m2.1 f2 Tryz.free_int k e))
  have p2 := p1.kept hs (Or.inr (fun e => by have := (p1.lt _ e).1; omega))
  have hlen : l.length = fs.length := m2.2.1
  refine ⟨⟨heap_setCell_same w' gm 3 _ _ _ r2, ?_, ?_, ?_, ?_⟩, hbe.grown hs (by have := hbe.size; omega) (fun k e => by injection e with e; omega), (cell_at r2 3).1, (cell_at r2 3).2⟩
  · rw [List.length_append, frs_snoc]
    exact hown.kept hs (Or.inr (fun e => by have := (hown.lt _ e).1; omega))
  · simp [hlen]
  · intro i p f hi hp hf
    by_cases e : i < fs.length
    · rw [List.getElem?_append_left (by omega)] at hp
      rw [List.getElem?_append_left e] at hf
      obtain ⟨g1, g2⟩ := m2.2.2.1 i p f e hp hf
      have g3 := g2.kept hg (apartM (fun k e => one_type m2.1 g2 Tryz.free_int k e))
      exact ⟨g1, g3.kept hs (Or.inr (fun e => by have := (g3.lt _ e).1; omega))⟩
    · have hi2 : i = fs.length := by simp at hi; omega
      subst hi2
      rw [List.getElem?_append_right (by omega), hlen] at hp
      rw [List.getElem?_append_right (by omega)] at hf
      simp at hp hf
      subst hp hf
      exact ⟨rfl, p2⟩
  · intro i j p q b hi hj hp hq h1 h2
    by_cases ei : i < fs.length
    · rw [List.getElem?_append_left (by omega)] at hp
      by_cases ej : j < fs.length
      · rw [List.getElem?_append_left (by omega)] at hq
        exact m2.2.2.2 i j p q b ei ej hp hq h1 h2
      · have hj2 : j = fs.length := by simp at hj; omega
        subst hj2
        rw [List.getElem?_append_right (by omega), hlen] at hq
        simp at hq
        subst hq
        exact absurd h2 (f5 i p b hp h1)
    · have hi2 : i = fs.length := by simp at hi; omega
      by_cases ej : j < fs.length
      · rw [List.getElem?_append_left (by omega)] at hq
        subst hi2
        rw [List.getElem?_append_right (by omega), hlen] at hp
        simp at hp
        subst hp
        exact absurd h1 (f5 j q b hq h2)
      · simp at hj
        omega

theorem mgr_own {w : World} {gm : Nat} {m : Mt} {vf : Value} {l : List (Int × Value)} (h : MGr w gm m.tx m.root m.next vf l m.fs) : MetaOwn w (gm + 1) (.agg #[.int .i64 m.tx, .int .i64 m.root, .int .i64 m.next, vf]) m := ⟨vf, l, rfl, h.2⟩

/-- a meta stored into another variable -/
theorem ret_meta {w : World} {a B : Nat} {m : Mt} {vf c0 c1 c2 c3 : Value} (hq : w.heap[a]? = some (.cells #[c0, c1, c2, c3] 45 (0, 0))) (hn : MetaOwn w B (.agg #[.int .i64 m.tx, .int .i64 m.root, .int .i64 m.next, vf]) m) (hlt : a < B) :
    ((((w.setCell ⟨a, 0, none⟩ (.int .i64 m.tx)).setCell ⟨a, 1, none⟩ (.int .i64 m.root)).setCell ⟨a, 2, none⟩ (.int .i64 m.next)).setCell ⟨a, 3, none⟩ vf).heap[a]? = some (.cells #[.int .i64 m.tx, .int .i64 m.root, .int .i64 m.next, vf] 45 (0, 0)) ∧
    MetaOwn ((((w.setCell ⟨a, 0, none⟩ (.int .i64 m.tx)).setCell ⟨a, 1, none⟩ (.int .i64 m.root)).setCell ⟨a, 2, none⟩ (.int .i64 m.next)).setCell ⟨a, 3, none⟩ vf) B (.agg #[.int .i64 m.tx, .int .i64 m.root, .int .i64 m.next, vf]) m ∧
    Below a w ((((w.setCell ⟨a, 0, none⟩ (.int .i64 m.tx)).setCell ⟨a, 1, none⟩ (.int .i64 m.root)).setCell ⟨a, 2, none⟩ (.int .i64 m.next)).setCell ⟨a, 3, none⟩ vf) := by
  have hal : a < w.heap.size := (Array.getElem?_eq_some_iff.1 hq).1
  have g1 : w.grownBy ((((w.setCell ⟨a, 0, none⟩ (.int .i64 m.tx)).setCell ⟨a, 1, none⟩ (.int .i64 m.root)).setCell ⟨a, 2, none⟩ (.int .i64 m.next)).setCell ⟨a, 3, none⟩ vf) (some a) := by
    have t : ∀ {x y z : World}, x.grownBy y (some a) → y.grownBy z (some a) → x.grownBy z (some a) := fun h k => ⟨k.os.trans h.os, k.tape.trans h.tape, k.output.trans h.output, Nat.le_trans h.size k.size, fun j hj hne => (k.block j (Nat.lt_of_lt_of_le hj h.size) hne).trans (h.block j hj hne)⟩
    exact t (t (t (grown_setM w a 0 _) (grown_setM _ a 1 _)) (grown_setM _ a 2 _)) (grown_setM _ a 3 _)
  refine ⟨heap_setCell_same _ a 3 _ _ _ (heap_setCell_same _ a 2 _ _ _ (heap_setCell_same _ a 1 _ _ _ (heap_setCell_same w a 0 _ _ _ hq))), ?_, (Below.refl a w).grown g1 (by omega) (fun k e => by injection e with e; omega)⟩
  obtain ⟨uf, l, e, h⟩ := hn
  obtain ⟨-, -, -, rfl⟩ := agg4 e
  exact ⟨_, l, rfl, ownF_grown h g1 (fun b hb e => by injection e with e; have := (ownF_lt h b hb).1; omega)⟩
end Go.Proofs.YtbokjfjdjgopeaaGreatDoor

namespace Go.Proofs.YtbokjfjdjgopeaaGreatDoor
open Go.RowKit

/-- the mark of the i-th free's number -/
def kAt (k0 : Nat) (fs : List (Int × List Int)) (i : Nat) : Nat := k0 + i + sumF fs i

def marksF (k0 : Nat) (fs : List (Int × List Int)) : List (Int × List Int) := (List.range fs.length).map fun i => (((kAt k0 fs i : Nat) : Int), marksI (kAt k0 fs i + 1) (fs.getD i (0, [])).2.length)

theorem marksF_length (k0 : Nat) (fs : List (Int × List Int)) : (marksF k0 fs).length = fs.length := by simp [marksF]

theorem marksF_at {k0 : Nat} {fs : List (Int × List Int)} {k : Nat} {tx : Int} {ps : List Int} (h : fs[k]? = some (tx, ps)) : (marksF k0 fs)[k]? = some (((kAt k0 fs k : Nat) : Int), marksI (kAt k0 fs k + 1) ps.length) := by
  have hk : k < fs.length := (List.getElem?_eq_some_iff.1 h).1
  simp [marksF, hk]
  have : fs[k] = (tx, ps) := by have := List.getElem?_eq_getElem hk; rw [h] at this; exact (Option.some.inj this).symm
  rw [this]

theorem kAt_next {k0 : Nat} {fs : List (Int × List Int)} {k : Nat} {tx : Int} {ps : List Int} (h : fs[k]? = some (tx, ps)) : kAt k0 fs (k + 1) = kAt k0 fs k + 1 + ps.length := by
  unfold kAt
  rw [sumF_succ fs k h]
  omega

theorem kAt_le (k0 : Nat) (fs : List (Int × List Int)) (k : Nat) (hk : k ≤ fs.length) : kAt k0 fs k ≤ k0 + bulkF fs := by
  unfold kAt bulkF
  have := sumF_mono fs k
  omega

theorem ownF_setTx {w : World} {B g n cap k : Nat} {m : List (Int × Value)} {fs : List (Int × List Int)} {tx x : Int} {ps : List Int} {p : Int × Value} (h : OwnF w B (.slice (some ⟨g, 0, none⟩) n cap) m fs) (hn : n = fs.length) (hf : fs[k]? = some (tx, ps)) (hp : m[k]? = some p) :
    OwnF (w.setCell ⟨g, k * 2, none⟩ (.int .i64 x)) B (.slice (some ⟨g, 0, none⟩) n cap) (m.set k (x, p.2)) (fs.set k (x, ps)) := by
  subst hn
  have hkf : k < fs.length := (List.getElem?_eq_some_iff.1 hf).1
  have hkm : k < m.length := (List.getElem?_eq_some_iff.1 hp).1
  have kp : Kept w (w.setCell ⟨g, k * 2, none⟩ (.int .i64 x)) (fun b => b = g) := kept_setCell _ _ _ _
  refine ⟨?_, ?_⟩
  · have h1 := (h.1.stored (k * 2) (.int .i64 x)).1
    rw [frs_set0 m k x p hp] at h1
    rw [List.length_set]
    exact h1
  · have hto : OwnTo (w.setCell ⟨g, k * 2, none⟩ (.int .i64 x)) B m fs fs.length := ownTo_kept h.2 kp (fun i q b hi hq hb e => by
      subst e
      exact one_type h.1 (h.2.2.1 i q _ hi hq (List.getElem?_eq_getElem hi)).2 Tryz.free_int b rfl hb)
    refine ⟨by rw [List.length_set, List.length_set]; exact hto.1, fun i q f hi hq hf' => ?_, fun i j q r b hi hj hq hr h1 h2 => ?_⟩
    · rw [List.length_set] at hi
      by_cases e : k = i
      · subst e
        rw [List.getElem?_set_self hkm] at hq
        rw [List.getElem?_set_self hkf] at hf'
        injection hq with hq
        injection hf' with hf'
        subst hq hf'
        exact ⟨rfl, (hto.2.1 k p _ hi hp hf).2⟩
      · rw [List.getElem?_set_ne e] at hq hf'
        exact hto.2.1 i q f hi hq hf'
    · rw [List.length_set] at hi hj
      have back : ∀ (i : Nat) (q : Int × Value), (m.set k (x, p.2))[i]? = some q → ∃ q' : Int × Value, m[i]? = some q' ∧ q'.2 = q.2 := fun i q h => by
        by_cases e : k = i
        · subst e
          rw [List.getElem?_set_self hkm] at h
          injection h with h
          exact ⟨p, hp, by rw [← h]⟩
        · rw [List.getElem?_set_ne e] at h
          exact ⟨q, h, rfl⟩
      obtain ⟨q', a1, a2⟩ := back i q hq
      obtain ⟨r', b1, b2⟩ := back j r hr
      exact hto.2.2 i j q' r' b hi hj a1 b1 (by rw [a2]; exact h1) (by rw [b2]; exact h2)

theorem ownF_setPg {w w' : World} {B k : Nat} {v : Value} {m : List (Int × Value)} {fs : List (Int × List Int)} {x : Int} {ps qs : List Int} {p : Int × Value} (h : OwnF w B v m fs) (hf : fs[k]? = some (x, ps)) (hp : m[k]? = some p)
    (hown : w'.ownsRow B 3 1 p.2 ps.length (ints qs)) (hq : qs.length = ps.length) (hk : Kept w w' (fun b => p.2.ownBlock = some b)) : OwnF w' B v m (fs.set k (x, qs)) := by
  have hkf : k < fs.length := (List.getElem?_eq_some_iff.1 hf).1
  have hpr := h.2.2.1 k p _ hkf hp hf
  refine ⟨?_, by rw [List.length_set]; exact h.2.1, fun i q f hi hq' hf' => ?_, fun i j q r b hi hj => ?_⟩
  · rw [List.length_set]
    exact own_kept h.1 hk (fun b hb e => one_type h.1 hpr.2 Tryz.free_int b hb e)
  · rw [List.length_set] at hi
    by_cases e : k = i
    · subst e
      rw [hp] at hq'
      rw [List.getElem?_set_self hkf] at hf'
      injection hq' with hq'
      injection hf' with hf'
      subst hq' hf'
      exact ⟨hpr.1, by rw [hq]; exact hown⟩
    · rw [List.getElem?_set_ne e] at hf'
      obtain ⟨g1, g2⟩ := h.2.2.1 i q f hi hq' hf'
      exact ⟨g1, own_kept g2 hk (fun b hb e' => e (h.2.2.2 k i p q b hkf hi hp hq' e' hb))⟩
  · rw [List.length_set] at hi hj
    exact h.2.2.2 i j q r b hi hj

theorem freeBlocks_same {v : Value} {m m' : List (Int × Value)} (h : m'.map Prod.snd = m.map Prod.snd) (b : Nat) : freeBlocks v m' b → freeBlocks v m b := by
  rintro (hb | ⟨i, p, hp, hb⟩)
  · exact Or.inl hb
  · have h1 : (m'.map Prod.snd)[i]? = some p.2 := by rw [List.getElem?_map, hp]; rfl
    rw [h, List.getElem?_map] at h1
    obtain ⟨q, h2, h3⟩ := Option.map_eq_some_iff.1 h1
    exact Or.inr ⟨i, q, h2, by rw [h3]; exact hb⟩

end Go.Proofs.YtbokjfjdjgopeaaGreatDoor

namespace Go.Proofs.YtbokjfjdjgopeaaGreatDoor
open Go.RowKit

/-- how much of a change counts -/
def bulkT (m : Mt) (k : Wk) : Nat := bulkF m.fs + k.bulk

theorem kept_below {B : Nat} {w w' : World} {S : Nat → Prop} (hk : Kept w w' S) (hB : B ≤ w.heap.size) (hS : ∀ j, S j → B ≤ j) : Below B w w' := (Below.refl B w).trans (below_of_kept hk hB hS)

set_option maxHeartbeats 4000000 in
set_option maxRecDepth 100000 in
theorem szTxn_any (v : Value) (m : Mt) (k : Wk) (root : Int) (hl : m.fs.length ≤ maxLen) (hs : ∀ f ∈ m.fs, f.2.length ≤ maxLen) (hk : k.fits) (left : Nat) (hleft : left ≤ 1048576) (w : World) (hd : TxnAt w v m k root) :
    Calls Tryz.prog 12 #[v, .int .i64 (left : Int)] w fun e w' => e = .returned (.int .i64 (szOut left (bulkT m k))) ∧ Below w.heap.size w w' := by
  obtain ⟨vr, vp, vl, vu, vg, vf, rfl, h1, h2⟩ := hd
  obtain ⟨tx, htx⟩ : ∃ n, n = m.tx := ⟨_, rfl⟩
  obtain ⟨mr, hmr⟩ : ∃ n, n = m.root := ⟨_, rfl⟩
  obtain ⟨mn, hmn⟩ : ∃ n, n = m.next := ⟨_, rfl⟩
  obtain ⟨wn, hwn⟩ : ∃ n, n = k.next := ⟨_, rfl⟩
  rw [← htx, ← hmr, ← hmn] at h1
  rw [← hwn] at h2
  have HL : Hid (m.tx = tx ∧ m.root = mr ∧ m.next = mn ∧ k.next = wn) := hide ⟨htx.symm, hmr.symm, hmn.symm, hwn.symm⟩
  rw [← htx, ← hmr, ← hmn, ← hwn]
  have HM := hide h1
  have HW := hide h2
  clear h1 h2 htx hmr hmn hwn
  have HC1 := hide (fun wx h => szMeta_any (.agg #[.int .i64 tx, .int .i64 mr, .int .i64 mn, vr]) m hl hs left hleft wx h)
  have HC2 := hide (fun (l2 : Nat) (h2 : l2 ≤ 1048576) wx h => szWork_any (.agg #[vp, vl, .int .i64 wn, vu, vg, vf]) k hk l2 h2 wx h)
  obtain ⟨w0, hw0⟩ : ∃ w0, w0 = w.alloc (Obj.cells #[.int .i64 tx, .int .i64 mr, .int .i64 mn, vr, vp, vl, .int .i64 wn, vu, vg, vf, .int .i64 root] 34) := ⟨_, rfl⟩
  have hb0 : Below w.heap.size w w0 := by rw [hw0]; exact (Below.refl w.heap.size w).alloc (Nat.le_refl _) _
  have hx0 : w0.heap[w.heap.size]? = some (Obj.cells #[.int .i64 tx, .int .i64 mr, .int .i64 mn, vr, vp, vl, .int .i64 wn, vu, vg, vf, .int .i64 root] 34) := by rw [hw0]; exact heap_alloc_new w _
  have HB0 := hide hb0
  have HX0 := hide (⟨hx0, (by rw [hw0]; simp : w.heap.size < w0.heap.size)⟩ : _ ∧ _)
  clear hb0 hx0 hl hs hk
  by_cases n1 : bulkF m.fs ≤ left
  · rw [szOut_yes n1] at HC1
    obtain ⟨z, hz⟩ : ∃ z, z = left - bulkF m.fs := ⟨_, rfl⟩
    rw [← hz] at HC1
    have hzl : z ≤ 1048576 := by omega
    have HC3 := hide (HC2.out z hzl)
    have HE : Hid (szOut left (bulkT m k) = szOut z k.bulk) := hide (by
      unfold bulkT
      by_cases n2 : k.bulk ≤ z
      · rw [szOut_yes (by omega), szOut_yes n2]; omega
      · rw [szOut_no (by omega), szOut_no (by omega)])
    rw [HE.out]
    clear hz n1 hzl HE
    by_cases n2 : k.bulk ≤ z
    · rw [szOut_yes n2] at HC3 ⊢
      obtain ⟨y, hy⟩ : ∃ y, y = z - k.bulk := ⟨_, rfl⟩
      rw [← hy] at HC3 ⊢
      clear hy n2
      go_enter Tryz.func12, Tryz.ntmps12
      go_wp2_with fail
      rw [← hw0]
      clear hw0
      refine (HC1.out _ (meta_below HM.out HB0.out)).mono ?_
      rintro e w1 ⟨rfl, hb1⟩
      obtain ⟨x0, x1, x2, x3, x4, x5, x6, x7, x8, x9, x10⟩ := blk11c ((hb1.block w.heap.size HX0.out.2).trans HX0.out.1)
      have HB1 := hide (HB0.out.trans (hb1.mono HB0.out.size))
      clear hb1
      go_wp2_with fail
      refine (HC3.out _ (work_below HW.out HB1.out)).mono ?_
      rintro e w2 ⟨rfl, hb2⟩
      have HB2 := hide (HB1.out.trans (hb2.mono HB1.out.size))
      clear hb2 x0 x1 x2 x3 x4 x5 x6 x7 x8 x9 x10
      go_wp2_with fail
      go_ret
      exact ⟨rfl, HB2.out⟩
    · rw [szOut_no (by omega)] at HC3 ⊢
      clear n2
      go_enter Tryz.func12, Tryz.ntmps12
      go_wp2_with fail
      rw [← hw0]
      clear hw0
      refine (HC1.out _ (meta_below HM.out HB0.out)).mono ?_
      rintro e w1 ⟨rfl, hb1⟩
      obtain ⟨x0, x1, x2, x3, x4, x5, x6, x7, x8, x9, x10⟩ := blk11c ((hb1.block w.heap.size HX0.out.2).trans HX0.out.1)
      have HB1 := hide (HB0.out.trans (hb1.mono HB0.out.size))
      clear hb1
      go_wp2_with fail
      refine (HC3.out _ (work_below HW.out HB1.out)).mono ?_
      rintro e w2 ⟨rfl, hb2⟩
      have HB2 := hide (HB1.out.trans (hb2.mono HB1.out.size))
      clear hb2 x0 x1 x2 x3 x4 x5 x6 x7 x8 x9 x10
      go_wp2_with fail
      go_ret
      exact ⟨rfl, HB2.out⟩
  · rw [szOut_no (by omega)] at HC1
    rw [szOut_no (by unfold bulkT; omega)]
    clear n1
    go_enter Tryz.func12, Tryz.ntmps12
    go_wp2_with fail
    rw [← hw0]
    clear hw0
    refine (HC1.out _ (meta_below HM.out HB0.out)).mono ?_
    rintro e w1 ⟨rfl, hb1⟩
    have HB1 := hide (HB0.out.trans (hb1.mono HB0.out.size))
    clear hb1
    go_wp2_with fail
    go_ret
    exact ⟨rfl, HB1.out⟩

set_option maxHeartbeats 8000000 in
set_option maxRecDepth 100000 in
theorem eqTxn_same (v u : Value) (m : Mt) (k : Wk) (root : Int) (hl : m.fs.length ≤ 1048576) (hs : ∀ f ∈ m.fs, f.2.length ≤ 1048576) (hk : k.small) (w : World) (hd : TxnAt w v m k root) (hu : TxnAt w u m k root) :
    Calls Tryz.prog 25 #[v, u] w fun e w' => e = .returned (.bool true) ∧ Below w.heap.size w w' := by
  obtain ⟨vr, vp, vl, vu, vg, vf, rfl, h1, h2⟩ := hd
  obtain ⟨tx, htx⟩ : ∃ n, n = m.tx := ⟨_, rfl⟩
  obtain ⟨mr, hmr⟩ : ∃ n, n = m.root := ⟨_, rfl⟩
  obtain ⟨mn, hmn⟩ : ∃ n, n = m.next := ⟨_, rfl⟩
  obtain ⟨wn, hwn⟩ : ∃ n, n = k.next := ⟨_, rfl⟩
  rw [← htx, ← hmr, ← hmn] at h1
  rw [← hwn] at h2
  have HL : Hid (m.tx = tx ∧ m.root = mr ∧ m.next = mn ∧ k.next = wn) := hide ⟨htx.symm, hmr.symm, hmn.symm, hwn.symm⟩
  rw [← htx, ← hmr, ← hmn, ← hwn]
  have HM := hide h1
  have HW := hide h2
  clear h1 h2 htx hmr hmn hwn
  obtain ⟨ur, up, ul, uu, ug, uf, rfl, h1, h2⟩ := hu
  rw [HL.out.1, HL.out.2.1, HL.out.2.2.1] at h1
  rw [HL.out.2.2.2] at h2
  rw [HL.out.1, HL.out.2.1, HL.out.2.2.1, HL.out.2.2.2]
  have HM2 := hide h1
  have HW2 := hide h2
  have HC1 := hide (fun a b wx h h' => eqMeta_same a b m hl hs wx h h')
  have HC2 := hide (fun a b wx h h' => eqWork_same a b k hk wx h h')
  clear h1 h2 hl hs hk
  obtain ⟨a0, ha0⟩ : ∃ a, a = w.heap.size := ⟨_, rfl⟩
  have hS0 := sep_new (sep_new (sep_nil w.heap.size w) (Obj.cells #[.int .i64 tx, .int .i64 mr, .int .i64 mn, vr, vp, vl, .int .i64 wn, vu, vg, vf, .int .i64 root] 50) (Nat.le_refl _)) (Obj.cells #[.int .i64 tx, .int .i64 mr, .int .i64 mn, ur, up, ul, .int .i64 wn, uu, ug, uf, .int .i64 root] 50) (by simp)
  obtain ⟨w0, hw0⟩ : ∃ w0, w0 = (w.alloc (Obj.cells #[.int .i64 tx, .int .i64 mr, .int .i64 mn, vr, vp, vl, .int .i64 wn, vu, vg, vf, .int .i64 root] 50)).alloc (Obj.cells #[.int .i64 tx, .int .i64 mr, .int .i64 mn, ur, up, ul, .int .i64 wn, uu, ug, uf, .int .i64 root] 50) := ⟨_, rfl⟩
  rw [World.size_alloc, ← hw0, ← ha0] at hS0
  have HS0 := hide hS0
  have HB0 : Hid (Below w.heap.size w w0) := hide (by rw [hw0]; exact ((Below.refl w.heap.size w).alloc (Nat.le_refl _) _).alloc (by simp) _)
  have HA := hide ha0
  clear hS0 ha0
  have dr : (root != root) = false := by simp
  go_enter Tryz.func25, Tryz.ntmps25
  go_wp2_with fail
  rw [← hw0, ← HA.out]
  clear hw0
  refine (HC1.out _ _ _ (meta_below HM.out HB0.out) (meta_below HM2.out HB0.out)).mono ?_
  rintro e w1 ⟨rfl, hb1⟩
  have HS1 := hide (sep_below HS0.out hb1)
  have HB1 : Hid (Below w.heap.size w w1) := hide (HB0.out.trans (hb1.mono HB0.out.size))
  clear hb1
  obtain ⟨x0, x1, x2, x3, x4, x5, x6, x7, x8, x9, x10⟩ := blk11c (sep_get HS1.out 1 rfl : w1.heap[a0]? = some (Obj.cells #[.int .i64 tx, .int .i64 mr, .int .i64 mn, vr, vp, vl, .int .i64 wn, vu, vg, vf, .int .i64 root] 50))
  obtain ⟨y0, y1, y2, y3, y4, y5, y6, y7, y8, y9, y10⟩ := blk11c (sep_get HS1.out 0 rfl : w1.heap[a0 + 1]? = some (Obj.cells #[.int .i64 tx, .int .i64 mr, .int .i64 mn, ur, up, ul, .int .i64 wn, uu, ug, uf, .int .i64 root] 50))
  go_wp2_with fail
  refine (HC2.out _ _ _ (work_below HW.out HB1.out) (work_below HW2.out HB1.out)).mono ?_
  rintro e w2 ⟨rfl, hb2⟩
  have HS2 := hide (sep_below HS1.out hb2)
  have HB2 : Hid (Below w.heap.size w w2) := hide (HB1.out.trans (hb2.mono HB1.out.size))
  clear hb2 x0 x1 x2 x3 x4 x5 x6 x7 x8 x9 x10 y0 y1 y2 y3 y4 y5 y6 y7 y8 y9 y10
  obtain ⟨x0, x1, x2, x3, x4, x5, x6, x7, x8, x9, x10⟩ := blk11c (sep_get HS2.out 1 rfl : w2.heap[a0]? = some (Obj.cells #[.int .i64 tx, .int .i64 mr, .int .i64 mn, vr, vp, vl, .int .i64 wn, vu, vg, vf, .int .i64 root] 50))
  obtain ⟨y0, y1, y2, y3, y4, y5, y6, y7, y8, y9, y10⟩ := blk11c (sep_get HS2.out 0 rfl : w2.heap[a0 + 1]? = some (Obj.cells #[.int .i64 tx, .int .i64 mr, .int .i64 mn, ur, up, ul, .int .i64 wn, uu, ug, uf, .int .i64 root] 50))
  go_wp2_with fail
  go_ret
  exact ⟨rfl, HB2.out⟩

set_option maxHeartbeats 8000000 in
set_option maxRecDepth 100000 in
theorem toTxn_any (v : Value) (m : Mt) (k : Wk) (root : Int) (hl : m.fs.length ≤ 1048576) (hs : ∀ f ∈ m.fs, f.2.length ≤ 1048576) (hk : k.bulk ≤ 1048576) (w : World) (hd : TxnAt w v m k root) :
    Calls Tryz.prog 18 #[v] w fun e w' => ∃ v', e = .returned v' ∧ TxnOwn w' w.heap.size v' m k root ∧ Below w.heap.size w w' := by
  obtain ⟨vr, vp, vl, vu, vg, vf, rfl, h1, h2⟩ := hd
  obtain ⟨tx, htx⟩ : ∃ n, n = m.tx := ⟨_, rfl⟩
  obtain ⟨mr, hmr⟩ : ∃ n, n = m.root := ⟨_, rfl⟩
  obtain ⟨mn, hmn⟩ : ∃ n, n = m.next := ⟨_, rfl⟩
  obtain ⟨wn, hwn⟩ : ∃ n, n = k.next := ⟨_, rfl⟩
  rw [← htx, ← hmr, ← hmn] at h1
  rw [← hwn] at h2
  have HL : Hid (m.tx = tx ∧ m.root = mr ∧ m.next = mn ∧ k.next = wn) := hide ⟨htx.symm, hmr.symm, hmn.symm, hwn.symm⟩
  rw [← htx, ← hmr, ← hmn, ← hwn]
  have HM := hide h1
  have HW := hide h2
  clear h1 h2 htx hmr hmn hwn
  have HC1 := hide (fun wx h => toMeta_any (.agg #[.int .i64 tx, .int .i64 mr, .int .i64 mn, vr]) m hl hs wx h)
  have HC2 := hide (fun wx h => toWork_any (.agg #[vp, vl, .int .i64 wn, vu, vg, vf]) k hk wx h)
  clear hl hs hk
  obtain ⟨a0, ha0⟩ : ∃ a, a = w.heap.size := ⟨_, rfl⟩
  have hS0 := sep_new (sep_new (sep_new (sep_nil w.heap.size w) (Obj.cells #[.int .i64 tx, .int .i64 mr, .int .i64 mn, vr, vp, vl, .int .i64 wn, vu, vg, vf, .int .i64 root] 34) (Nat.le_refl _)) (Obj.cells #[.int .i64 0, .int .i64 0, .int .i64 0, .slice none 0 0, .slice none 0 0, .slice none 0 0, .int .i64 0, .slice none 0 0, .slice none 0 0, .slice none 0 0, .int .i64 0] 50) (by simp)) (Obj.cells #[.int .i64 0, .int .i64 0, .int .i64 0, .slice none 0 0, .slice none 0 0, .slice none 0 0, .int .i64 0, .slice none 0 0, .slice none 0 0, .slice none 0 0, .int .i64 0] 50) (by simp; omega)
  obtain ⟨w0, hw0⟩ : ∃ w0, w0 = ((w.alloc (Obj.cells #[.int .i64 tx, .int .i64 mr, .int .i64 mn, vr, vp, vl, .int .i64 wn, vu, vg, vf, .int .i64 root] 34)).alloc (Obj.cells #[.int .i64 0, .int .i64 0, .int .i64 0, .slice none 0 0, .slice none 0 0, .slice none 0 0, .int .i64 0, .slice none 0 0, .slice none 0 0, .slice none 0 0, .int .i64 0] 50)).alloc (Obj.cells #[.int .i64 0, .int .i64 0, .int .i64 0, .slice none 0 0, .slice none 0 0, .slice none 0 0, .int .i64 0, .slice none 0 0, .slice none 0 0, .slice none 0 0, .int .i64 0] 50) := ⟨_, rfl⟩
  rw [World.size_alloc, World.size_alloc, ← hw0, ← ha0] at hS0
  have HS0 := hide hS0
  have HB0 : Hid (Below w.heap.size w w0) := hide (by rw [hw0]; exact (((Below.refl w.heap.size w).alloc (Nat.le_refl _) _).alloc (by simp) _).alloc (by simp; omega) _)
  have HZ0 : Hid (a0 ≤ w0.heap.size) := hide (by rw [hw0, ha0]; simp; omega)
  have HA := hide ha0
  clear hS0 ha0
  go_enter Tryz.func18, Tryz.ntmps18
  go_wp2_with fail
  rw [← hw0, ← HA.out]
  clear hw0
  refine (HC1.out _ (meta_below HM.out HB0.out)).mono ?_
  rintro e w1 ⟨v1, rfl, hm1, hb1⟩
  obtain ⟨xr, lr, e1, ho1⟩ := hm1
  obtain ⟨p1, q1, rfl⟩ := own_slice ho1.1
  rw [HL.out.1, HL.out.2.1, HL.out.2.2.1] at e1
  subst e1
  have HS1 := hide (sep_add HS0.out hb1 (freesA a0 (.slice p1 m.fs.length q1) lr m.fs) (ownF_down ho1 HZ0.out) (fun j hj => ownF_lt ho1 j hj) HZ0.out)
  have HB1 : Hid (Below w.heap.size w w1) := hide (HB0.out.trans (hb1.mono HB0.out.size))
  have HZ1 : Hid (a0 ≤ w1.heap.size) := hide (Nat.le_trans HZ0.out hb1.size)
  clear ho1 hb1
  obtain ⟨nL, hnL⟩ : ∃ n, n = m.fs.length := ⟨_, rfl⟩
  rw [← hnL] at HS1 ⊢
  have HNL := hide hnL
  clear hnL
  obtain ⟨x0, x1, x2, x3, x4, x5, x6, x7, x8, x9, x10⟩ := blk11c (sep_get HS1.out 3 rfl : w1.heap[a0]? = some (Obj.cells #[.int .i64 tx, .int .i64 mr, .int .i64 mn, vr, vp, vl, .int .i64 wn, vu, vg, vf, .int .i64 root] 34))
  obtain ⟨y0, y1, y2, y3, y4, y5, y6, y7, y8, y9, y10⟩ := blk11c (sep_get HS1.out 1 rfl : w1.heap[a0 + 1 + 1]? = some (Obj.cells #[.int .i64 0, .int .i64 0, .int .i64 0, .slice none 0 0, .slice none 0 0, .slice none 0 0, .int .i64 0, .slice none 0 0, .slice none 0 0, .slice none 0 0, .int .i64 0] 50))
  obtain ⟨z0, z1, z2, z3, z4, z5, z6, z7, z8, z9, z10⟩ := blk11z (sep_get HS1.out 1 rfl : w1.heap[a0 + 1 + 1]? = some (Obj.cells #[.int .i64 0, .int .i64 0, .int .i64 0, .slice none 0 0, .slice none 0 0, .slice none 0 0, .int .i64 0, .slice none 0 0, .slice none 0 0, .slice none 0 0, .int .i64 0] 50))
  have hne : a0 ≠ a0 + 1 + 1 := by omega
  have HS2 : Hid (Sep a0 ((((w1.setCell ⟨a0 + 1 + 1, 0, none⟩ (.int .i64 tx)).setCell ⟨a0 + 1 + 1, 1, none⟩ (.int .i64 mr)).setCell ⟨a0 + 1 + 1, 2, none⟩ (.int .i64 mn)).setCell ⟨a0 + 1 + 1, 3, none⟩ (.slice p1 nL q1)) _) := hide (sep_store (sep_store (sep_store (sep_store HS1.out 1 rfl 0 (.int .i64 tx)) 1 rfl 1 (.int .i64 mr)) 1 rfl 2 (.int .i64 mn)) 1 rfl 3 (.slice p1 nL q1))
  obtain ⟨w2, hw2⟩ : ∃ wx, wx = ((((w1.setCell ⟨a0 + 1 + 1, 0, none⟩ (.int .i64 tx)).setCell ⟨a0 + 1 + 1, 1, none⟩ (.int .i64 mr)).setCell ⟨a0 + 1 + 1, 2, none⟩ (.int .i64 mn)).setCell ⟨a0 + 1 + 1, 3, none⟩ (.slice p1 nL q1)) := ⟨_, rfl⟩
  have HB2 : Hid (Below w.heap.size w w2) := hide (by rw [hw2]; exact below_set4 (g := a0 + 1 + 1) HB1.out (by have := HA.out; omega) _ _ _ _)
  have HZ2 : Hid (a0 ≤ w2.heap.size) := hide (by rw [hw2]; have := HZ1.out; simp; omega)
  rw [← hw2] at HS2
  have HX := hide (⟨x4, x5, x6, x7, x8, x9⟩ : _ ∧ _ ∧ _ ∧ _ ∧ _ ∧ _)
  obtain ⟨xx0, xx1, xx2, xx3, xx4, xx5, xx6, xx7, xx8, xx9, xx10⟩ := blk11c (sep_get HS2.out 3 rfl : w2.heap[a0]? = some (Obj.cells #[.int .i64 tx, .int .i64 mr, .int .i64 mn, vr, vp, vl, .int .i64 wn, vu, vg, vf, .int .i64 root] 34))
  rw [hw2] at xx0 xx1 xx2 xx3 xx4 xx5 xx6 xx7 xx8 xx9 xx10
  go_wp2_with (rw [← hw2]; refine (HC2.out _ (work_below HW.out HB2.out)).mono ?_)
  clear x0 x1 x2 x3 x4 x5 x6 x7 x8 x9 x10 xx0 xx1 xx2 xx3 xx4 xx5 xx6 xx7 xx8 xx9 xx10 y0 y1 y2 y3 y4 y5 y6 y7 y8 y9 y10 z0 z1 z2 z3 z4 z5 z6 z7 z8 z9 z10 HX hw2
  rintro e w3 ⟨v3, rfl, ho3, hb3⟩
  obtain ⟨p2, q2, p3, q3, p4, q4, p5, q5, p6, q6, e3⟩ := work_form ho3
  rw [HL.out.2.2.2] at e3
  subst e3
  have HS3 := hide (sep_add HS2.out hb3 (workA a0 _ k) (workOwn_down ho3 HZ2.out) (fun j hj => workOwn_lt ho3 j hj) HZ2.out)
  have HB3 : Hid (Below w.heap.size w w3) := hide (HB2.out.trans (hb3.mono HB2.out.size))
  clear ho3 hb3
  obtain ⟨n2, hn2⟩ : ∃ n, n = k.ps.length := ⟨_, rfl⟩
  obtain ⟨n3, hn3⟩ : ∃ n, n = k.ls.length := ⟨_, rfl⟩
  obtain ⟨n4, hn4⟩ : ∃ n, n = k.us.length := ⟨_, rfl⟩
  obtain ⟨n5, hn5⟩ : ∃ n, n = k.gs.length := ⟨_, rfl⟩
  obtain ⟨n6, hn6⟩ : ∃ n, n = k.fs.length := ⟨_, rfl⟩
  rw [← hn2, ← hn3, ← hn4, ← hn5, ← hn6] at HS3 ⊢
  have HNs := hide (⟨hn2, hn3, hn4, hn5, hn6⟩ : _ ∧ _ ∧ _ ∧ _ ∧ _)
  clear hn2 hn3 hn4 hn5 hn6
  have HV3 : Hid (w3.heap[a0 + 1 + 1]? = some (Obj.cells #[.int .i64 tx, .int .i64 mr, .int .i64 mn, .slice p1 nL q1, .slice none 0 0, .slice none 0 0, .int .i64 0, .slice none 0 0, .slice none 0 0, .slice none 0 0, .int .i64 0] 50)) := hide (sep_get HS3.out 2 rfl)
  obtain ⟨y0, y1, y2, y3, y4, y5, y6, y7, y8, y9, y10⟩ := blk11c HV3.out
  obtain ⟨z0, z1, z2, z3, z4, z5, z6, z7, z8, z9, z10⟩ := blk11z HV3.out
  obtain ⟨x0, x1, x2, x3, x4, x5, x6, x7, x8, x9, x10⟩ := blk11c (sep_get HS3.out 4 rfl : w3.heap[a0]? = some (Obj.cells #[.int .i64 tx, .int .i64 mr, .int .i64 mn, vr, vp, vl, .int .i64 wn, vu, vg, vf, .int .i64 root] 34))
  obtain ⟨r0, r1, r2, r3, r4, r5, r6, r7, r8, r9, r10⟩ := blk11c (sep_get HS3.out 3 rfl : w3.heap[a0 + 1]? = some (Obj.cells #[.int .i64 0, .int .i64 0, .int .i64 0, .slice none 0 0, .slice none 0 0, .slice none 0 0, .int .i64 0, .slice none 0 0, .slice none 0 0, .slice none 0 0, .int .i64 0] 50))
  obtain ⟨s0, s1, s2, s3, s4, s5, s6, s7, s8, s9, s10⟩ := blk11z (sep_get HS3.out 3 rfl : w3.heap[a0 + 1]? = some (Obj.cells #[.int .i64 0, .int .i64 0, .int .i64 0, .slice none 0 0, .slice none 0 0, .slice none 0 0, .int .i64 0, .slice none 0 0, .slice none 0 0, .slice none 0 0, .int .i64 0] 50))
  have hne2 : a0 + 1 ≠ a0 + 1 + 1 := by omega
  go_wp2_with fail
  have HS4 := hide (sep_store11 (sep_store (sep_store (sep_store (sep_store (sep_store (sep_store (sep_store HS3.out 2 rfl 4 (.slice p2 n2 q2)) 2 rfl 5 (.slice p3 n3 q3)) 2 rfl 6 (.int .i64 wn)) 2 rfl 7 (.slice p4 n4 q4)) 2 rfl 8 (.slice p5 n5 q5)) 2 rfl 9 (.slice p6 n6 q6)) 2 rfl 10 (.int .i64 root)) 3 rfl (.int .i64 tx) (.int .i64 mr) (.int .i64 mn) (.slice p1 nL q1) (.slice p2 n2 q2) (.slice p3 n3 q3) (.int .i64 wn) (.slice p4 n4 q4) (.slice p5 n5 q5) (.slice p6 n6 q6) (.int .i64 root))
  obtain ⟨t0, t1, t2, t3, t4, t5, t6, t7, t8, t9, t10⟩ := blk11c (sep_get HS4.out 3 rfl : (set11 (((((((w3.setCell ⟨a0 + 1 + 1, 4, none⟩ (.slice p2 n2 q2)).setCell ⟨a0 + 1 + 1, 5, none⟩ (.slice p3 n3 q3)).setCell ⟨a0 + 1 + 1, 6, none⟩ (.int .i64 wn)).setCell ⟨a0 + 1 + 1, 7, none⟩ (.slice p4 n4 q4)).setCell ⟨a0 + 1 + 1, 8, none⟩ (.slice p5 n5 q5)).setCell ⟨a0 + 1 + 1, 9, none⟩ (.slice p6 n6 q6)).setCell ⟨a0 + 1 + 1, 10, none⟩ (.int .i64 root)) (a0 + 1) (.int .i64 tx) (.int .i64 mr) (.int .i64 mn) (.slice p1 nL q1) (.slice p2 n2 q2) (.slice p3 n3 q3) (.int .i64 wn) (.slice p4 n4 q4) (.slice p5 n5 q5) (.slice p6 n6 q6) (.int .i64 root)).heap[a0 + 1]? = some (Obj.cells #[.int .i64 tx, .int .i64 mr, .int .i64 mn, .slice p1 nL q1, .slice p2 n2 q2, .slice p3 n3 q3, .int .i64 wn, .slice p4 n4 q4, .slice p5 n5 q5, .slice p6 n6 q6, .int .i64 root] 50))
  have hg2 : w.heap.size ≤ a0 + 1 + 1 := by have := HA.out; omega
  have hbf := below_set11 (g := a0 + 1) (((((((HB3.out.setCell (p := ⟨a0 + 1 + 1, 4, none⟩) hg2 (.slice p2 n2 q2)).setCell (p := ⟨a0 + 1 + 1, 5, none⟩) hg2 (.slice p3 n3 q3)).setCell (p := ⟨a0 + 1 + 1, 6, none⟩) hg2 (.int .i64 wn)).setCell (p := ⟨a0 + 1 + 1, 7, none⟩) hg2 (.slice p4 n4 q4)).setCell (p := ⟨a0 + 1 + 1, 8, none⟩) hg2 (.slice p5 n5 q5)).setCell (p := ⟨a0 + 1 + 1, 9, none⟩) hg2 (.slice p6 n6 q6)).setCell (p := ⟨a0 + 1 + 1, 10, none⟩) hg2 (.int .i64 root)) (by have := HA.out; omega) (.int .i64 tx) (.int .i64 mr) (.int .i64 mn) (.slice p1 nL q1) (.slice p2 n2 q2) (.slice p3 n3 q3) (.int .i64 wn) (.slice p4 n4 q4) (.slice p5 n5 q5) (.slice p6 n6 q6) (.int .i64 root)
  refine bodyPost_ret (v := .agg #[.int .i64 tx, .int .i64 mr, .int .i64 mn, .slice p1 nL q1, .slice p2 n2 q2, .slice p3 n3 q3, .int .i64 wn, .slice p4 n4 q4, .slice p5 n5 q5, .slice p6 n6 q6, .int .i64 root]) (by simp [results, Tryz.results18, go_sem, t0, t1, t2, t3, t4, t5, t6, t7, t8, t9, t10]) rfl ⟨_, rfl, ?_, hbf⟩
  have h := sep_pick (pre := [_, _, _, _, _]) (rest := []) HS4.out [1, 0] (by decide) [_, _] rfl
  rw [HNL.out, HNs.out.1, HNs.out.2.1, HNs.out.2.2.1, HNs.out.2.2.2.1, HNs.out.2.2.2.2] at h ⊢
  refine ⟨lr, p1, q1, p2, q2, p3, q3, p4, q4, p5, q5, p6, q6, by rw [HL.out.1, HL.out.2.1, HL.out.2.2.1, HL.out.2.2.2], ?_⟩
  rw [HL.out.2.2.2]
  rw [HA.out] at h ⊢
  exact h
end Go.Proofs.YtbokjfjdjgopeaaGreatDoor

namespace Go.Proofs.YtbokjfjdjgopeaaGreatDoor
open Go.RowKit

/-- a store as plain data -/
structure St where
  ps : List ByteArray
  ls : List (Int × ByteArray)
  m : Mt
  rs : List (Int × Mt)
  tm : Mt
  tk : Wk
  tr : Int
  wr : Bool
  fl : Bool

def St.bulk (s : St) : Nat := (bulkS s.ps + bulkP s.ls) + bulkF s.m.fs + bulkR s.rs + bulkT s.tm s.tk

/-- a store no part of which is too long to be -/
def St.fits (s : St) : Prop := (s.ps.length ≤ maxLen ∧ (∀ t ∈ s.ps, t.size ≤ maxLen) ∧ s.ls.length ≤ maxLen ∧ ∀ p ∈ s.ls, p.2.size ≤ maxLen) ∧ (s.m.fs.length ≤ maxLen ∧ ∀ f ∈ s.m.fs, f.2.length ≤ maxLen) ∧ fitsR s.rs ∧ (s.tm.fs.length ≤ maxLen ∧ ∀ f ∈ s.tm.fs, f.2.length ≤ maxLen) ∧ s.tk.fits

/-- a store that is small enough -/
def St.small (s : St) : Prop := (s.ps.length ≤ 1048576 ∧ (∀ t ∈ s.ps, t.size ≤ 1048576) ∧ s.ls.length ≤ 1048576 ∧ ∀ p ∈ s.ls, p.2.size ≤ 1048576) ∧ (s.m.fs.length ≤ 1048576 ∧ ∀ f ∈ s.m.fs, f.2.length ≤ 1048576) ∧ (s.rs.length ≤ 1048576 ∧ ∀ r ∈ s.rs, r.2.fs.length ≤ 1048576 ∧ ∀ f ∈ r.2.fs, f.2.length ≤ 1048576) ∧ (s.tm.fs.length ≤ 1048576 ∧ ∀ f ∈ s.tm.fs, f.2.length ≤ 1048576) ∧ s.tk.bulk ≤ 1048576

theorem bulkSt_in {s : St} (h : s.bulk ≤ 1048576) : s.small := by
  unfold St.bulk bulkT at h
  have hr := bulkR_in (l := s.rs) (m := 1048576) (by omega)
  exact ⟨bulk_inW (by omega), bulkF_in (by omega), ⟨hr.1, fun r h => bulkF_in (hr.2 r h)⟩, bulkF_in (by omega), by omega⟩

/-- a store that reads so -/
def StAt (w : World) (v : Value) (s : St) : Prop := ∃ vp vl vf vR vr up ul uu ug uf, v = .agg #[vp, vl, .int .i64 s.m.tx, .int .i64 s.m.root, .int .i64 s.m.next, vf, vR, .int .i64 s.tm.tx, .int .i64 s.tm.root, .int .i64 s.tm.next, vr, up, ul, .int .i64 s.tk.next, uu, ug, uf, .int .i64 s.tr, .bool s.wr, .bool s.fl] ∧
  DiskAt w (.agg #[vp, vl]) s.ps s.ls ∧ MetaAt w (.agg #[.int .i64 s.m.tx, .int .i64 s.m.root, .int .i64 s.m.next, vf]) s.m ∧ RdsAt w vR s.rs ∧ TxnAt w (.agg #[.int .i64 s.tm.tx, .int .i64 s.tm.root, .int .i64 s.tm.next, vr, up, ul, .int .i64 s.tk.next, uu, ug, uf, .int .i64 s.tr]) s.tm s.tk s.tr

theorem st_below {w w' : World} {v : Value} {s : St} (h : StAt w v s) (hb : Below w.heap.size w w') : StAt w' v s := by
  obtain ⟨vp, vl, vf, vR, vr, up, ul, uu, ug, uf, e, h1, h2, h3, h4⟩ := h
  exact ⟨vp, vl, vf, vR, vr, up, ul, uu, ug, uf, e, disk_below h1 hb, meta_below h2 hb, rds_below h3 hb, txn_below h4 hb⟩

theorem blk20c {W : World} {g : Nat} {c0 c1 c2 c3 c4 c5 c6 c7 c8 c9 c10 c11 c12 c13 c14 c15 c16 c17 c18 c19 : Value} {t : TypeId} (h : W.heap[g]? = some (Obj.cells #[c0, c1, c2, c3, c4, c5, c6, c7, c8, c9, c10, c11, c12, c13, c14, c15, c16, c17, c18, c19] t)) : W.cell? ⟨g, 0, none⟩ = some c0 ∧ W.cell? ⟨g, 1, none⟩ = some c1 ∧ W.cell? ⟨g, 2, none⟩ = some c2 ∧ W.cell? ⟨g, 3, none⟩ = some c3 ∧ W.cell? ⟨g, 4, none⟩ = some c4 ∧ W.cell? ⟨g, 5, none⟩ = some c5 ∧ W.cell? ⟨g, 6, none⟩ = some c6 ∧ W.cell? ⟨g, 7, none⟩ = some c7 ∧ W.cell? ⟨g, 8, none⟩ = some c8 ∧ W.cell? ⟨g, 9, none⟩ = some c9 ∧ W.cell? ⟨g, 10, none⟩ = some c10 ∧ W.cell? ⟨g, 11, none⟩ = some c11 ∧ W.cell? ⟨g, 12, none⟩ = some c12 ∧ W.cell? ⟨g, 13, none⟩ = some c13 ∧ W.cell? ⟨g, 14, none⟩ = some c14 ∧ W.cell? ⟨g, 15, none⟩ = some c15 ∧ W.cell? ⟨g, 16, none⟩ = some c16 ∧ W.cell? ⟨g, 17, none⟩ = some c17 ∧ W.cell? ⟨g, 18, none⟩ = some c18 ∧ W.cell? ⟨g, 19, none⟩ = some c19 :=
  ⟨(cell_at h 0).1, (cell_at h 1).1, (cell_at h 2).1, (cell_at h 3).1, (cell_at h 4).1, (cell_at h 5).1, (cell_at h 6).1, (cell_at h 7).1, (cell_at h 8).1, (cell_at h 9).1, (cell_at h 10).1, (cell_at h 11).1, (cell_at h 12).1, (cell_at h 13).1, (cell_at h 14).1, (cell_at h 15).1, (cell_at h 16).1, (cell_at h 17).1, (cell_at h 18).1, (cell_at h 19).1⟩

theorem blk20z {W : World} {g : Nat} {c0 c1 c2 c3 c4 c5 c6 c7 c8 c9 c10 c11 c12 c13 c14 c15 c16 c17 c18 c19 : Value} {t : TypeId} (h : W.heap[g]? = some (Obj.cells #[c0, c1, c2, c3, c4, c5, c6, c7, c8, c9, c10, c11, c12, c13, c14, c15, c16, c17, c18, c19] t)) : W.frozen? ⟨g, 0, none⟩ = false ∧ W.frozen? ⟨g, 1, none⟩ = false ∧ W.frozen? ⟨g, 2, none⟩ = false ∧ W.frozen? ⟨g, 3, none⟩ = false ∧ W.frozen? ⟨g, 4, none⟩ = false ∧ W.frozen? ⟨g, 5, none⟩ = false ∧ W.frozen? ⟨g, 6, none⟩ = false ∧ W.frozen? ⟨g, 7, none⟩ = false ∧ W.frozen? ⟨g, 8, none⟩ = false ∧ W.frozen? ⟨g, 9, none⟩ = false ∧ W.frozen? ⟨g, 10, none⟩ = false ∧ W.frozen? ⟨g, 11, none⟩ = false ∧ W.frozen? ⟨g, 12, none⟩ = false ∧ W.frozen? ⟨g, 13, none⟩ = false ∧ W.frozen? ⟨g, 14, none⟩ = false ∧ W.frozen? ⟨g, 15, none⟩ = false ∧ W.frozen? ⟨g, 16, none⟩ = false ∧ W.frozen? ⟨g, 17, none⟩ = false ∧ W.frozen? ⟨g, 18, none⟩ = false ∧ W.frozen? ⟨g, 19, none⟩ = false :=
  ⟨(cell_at h 0).2, (cell_at h 1).2, (cell_at h 2).2, (cell_at h 3).2, (cell_at h 4).2, (cell_at h 5).2, (cell_at h 6).2, (cell_at h 7).2, (cell_at h 8).2, (cell_at h 9).2, (cell_at h 10).2, (cell_at h 11).2, (cell_at h 12).2, (cell_at h 13).2, (cell_at h 14).2, (cell_at h 15).2, (cell_at h 16).2, (cell_at h 17).2, (cell_at h 18).2, (cell_at h 19).2⟩

/-- things of another base, in the same blocks -/
def AsIs (A A' : Ast) : Prop := (∀ k, A'.F k → A.F k) ∧ ∀ W, A.P W → A'.P W

def AsIsL : List Ast → List Ast → Prop
  | [], [] => True
  | A :: l, A' :: l' => AsIs A A' ∧ AsIsL l l'
  | _, _ => False

theorem asIs_mem : ∀ (l l' : List Ast), AsIsL l l' → ∀ X' ∈ l', ∃ X ∈ l, AsIs X X'
  | [], [], _, X', h => by cases h
  | [], _ :: _, h, _, _ => h.elim
  | _ :: _, [], h, _, _ => h.elim
  | A :: l, A' :: l', h, X', hX => by
    rcases List.mem_cons.1 hX with rfl | hX
    · exact ⟨A, List.mem_cons_self, h.1⟩
    · obtain ⟨X, h1, h2⟩ := asIs_mem l l' h.2 X' hX
      exact ⟨X, List.mem_cons_of_mem _ h1, h2⟩

theorem sep_low {B : Nat} {W : World} : ∀ (l l' : List Ast), AsIsL l l' → Sep B W l → Sep B W l'
  | [], [], _, h => h
  | [], _ :: _, h, _ => h.elim
  | _ :: _, [], h, _ => h.elim
  | A :: l, A' :: l', hA, h => by
    obtain ⟨⟨h1, h2⟩, h3, h4⟩ := sep_cons.1 h
    refine sep_cons.2 ⟨⟨hA.1.2 W h1, fun k hk => h2 k (hA.1.1 k hk)⟩, fun X' hX' k hk hk' => ?_, sep_low l l' hA.2 h4⟩
    obtain ⟨X, hX1, hX2⟩ := asIs_mem l l' hA.2 X' hX'
    exact h3 X hX1 k (hA.1.1 k hk) (hX2.1 k hk')

theorem asIs_refl : ∀ l : List Ast, AsIsL l l
  | [] => trivial
  | _ :: l => ⟨⟨fun _ h => h, fun _ h => h⟩, asIs_refl l⟩

theorem asIs_append (m : List Ast) : ∀ l l' : List Ast, AsIsL l l' → AsIsL (l ++ m) (l' ++ m)
  | [], [], _ => asIs_refl m
  | [], _ :: _, h => h.elim
  | _ :: _, [], h => h.elim
  | _ :: l, _ :: l', h => ⟨h.1, asIs_append m l l' h.2⟩

theorem sep_joinL {a0 : Nat} {W W' : World} {l l' l'' : List Ast} (h : Sep a0 W l) (hb : Below W.heap.size W W') (h' : Sep W.heap.size W' l') (hf : AsIsL l' l'') (hz : a0 ≤ W.heap.size) : Sep a0 W' (l'' ++ l) := sep_low _ _ (asIs_append l l' l'' hf) (sep_join h hb h' hz)

theorem asIs_frees {B B' : Nat} (h : B' ≤ B) (v : Value) (l : List (Int × Value)) (fs : List (Int × List Int)) : AsIs (freesA B v l fs) (freesA B' v l fs) := ⟨fun _ h => h, fun _ hp => ownF_down hp h⟩

theorem asIs_work {B B' : Nat} (h : B' ≤ B) (v : Value) (k : Wk) : AsIs (workA B v k) (workA B' v k) := ⟨fun _ h => h, fun _ hp => workOwn_down hp h⟩

theorem asIs_row {B B' e sz n : Nat} (h : B' ≤ B) (v : Value) (xs : List Value) : AsIs (rowA B e sz v n xs) (rowA B' e sz v n xs) := ⟨fun _ h => h, fun _ hp => own_down hp h⟩

theorem asIs_frL {B B' : Nat} (h : B' ≤ B) : ∀ (us : List (Value × List (Int × Value))) (rs : List (Int × Mt)), AsIsL (frL B us rs) (frL B' us rs)
  | [], _ => trivial
  | _ :: _, [] => trivial
  | x :: us, r :: rs => ⟨asIs_frees h x.1 x.2 r.2.fs, asIs_frL h us rs⟩

theorem asIs_rds {B B' : Nat} (h : B' ≤ B) (v : Value) (us : List (Value × List (Int × Value))) (rs : List (Int × Mt)) : AsIsL (rdsL B v us rs) (rdsL B' v us rs) := ⟨asIs_row h v _, asIs_frL h us rs⟩

theorem disk_downQ {w : World} {B B' : Nat} {v : Value} {ps : List ByteArray} {ls : List (Int × ByteArray)} (h : DiskOwn w B v ps ls) (hB : B' ≤ B) : DiskOwn w B' v ps ls := by
  obtain ⟨vp, vl, e, h1, h2⟩ := h
  exact ⟨vp, vl, e, own_down h1 hB, own_down h2 hB⟩

theorem eqDisk_one (v u : Value) (ps : List ByteArray) (ls : List (Int × ByteArray)) (hp : ps.length ≤ 1048576) (hl : ls.length ≤ 1048576) (w : World) (hd : DiskAt w v ps ls) (hu : DiskAt w u ps ls) :
    Calls Tryz.prog 22 #[v, u] w fun e w' => e = .returned (.bool true) ∧ Below w.heap.size w w' := by
  have h := eqDisk_any v u ps ps ls ls (by omega) (by omega) (by omega) (by omega) w hd hu
  rw [decide_eq_true rfl] at h
  exact h

theorem sep_st7 {B : Nat} {W : World} {l : List Ast} (h : Sep B W l) (i : Nat) {g : Nat} {c0 c1 c2 c3 c4 c5 c6 c7 c8 c9 c10 c11 c12 c13 c14 c15 c16 c17 c18 c19 : Value} {T : TypeId} (hi : l[i]? = some (cellA g (Obj.cells #[c0, c1, c2, c3, c4, c5, c6, c7, c8, c9, c10, c11, c12, c13, c14, c15, c16, c17, c18, c19] T))) (u7 u8 u9 u10 u11 u12 u13 u14 u15 u16 u17 : Value) : Sep B (((((((((((W.setCell ⟨g, 7, none⟩ u7).setCell ⟨g, 8, none⟩ u8).setCell ⟨g, 9, none⟩ u9).setCell ⟨g, 10, none⟩ u10).setCell ⟨g, 11, none⟩ u11).setCell ⟨g, 12, none⟩ u12).setCell ⟨g, 13, none⟩ u13).setCell ⟨g, 14, none⟩ u14).setCell ⟨g, 15, none⟩ u15).setCell ⟨g, 16, none⟩ u16).setCell ⟨g, 17, none⟩ u17) (l.set i (cellA g (Obj.cells #[c0, c1, c2, c3, c4, c5, c6, u7, u8, u9, u10, u11, u12, u13, u14, u15, u16, u17, c18, c19] T))) := by
  have h1 : W.heap[g]? = some (Obj.cells #[c0, c1, c2, c3, c4, c5, c6, c7, c8, c9, c10, c11, c12, c13, c14, c15, c16, c17, c18, c19] T) := sep_get h i hi
  have h2 := sep_lt h i hi g rfl
  have hk : Kept W (((((((((((W.setCell ⟨g, 7, none⟩ u7).setCell ⟨g, 8, none⟩ u8).setCell ⟨g, 9, none⟩ u9).setCell ⟨g, 10, none⟩ u10).setCell ⟨g, 11, none⟩ u11).setCell ⟨g, 12, none⟩ u12).setCell ⟨g, 13, none⟩ u13).setCell ⟨g, 14, none⟩ u14).setCell ⟨g, 15, none⟩ u15).setCell ⟨g, 16, none⟩ u16).setCell ⟨g, 17, none⟩ u17) (fun k => k = g) := (kept_trans (kept_trans (kept_trans (kept_trans (kept_trans (kept_trans (kept_trans (kept_trans (kept_trans (kept_trans (kept_setCell _ _ _ _) (kept_setCell _ _ _ _) (fun _ _ h => h)) (kept_setCell _ _ _ _) (fun _ _ h => h)) (kept_setCell _ _ _ _) (fun _ _ h => h)) (kept_setCell _ _ _ _) (fun _ _ h => h)) (kept_setCell _ _ _ _) (fun _ _ h => h)) (kept_setCell _ _ _ _) (fun _ _ h => h)) (kept_setCell _ _ _ _) (fun _ _ h => h)) (kept_setCell _ _ _ _) (fun _ _ h => h)) (kept_setCell _ _ _ _) (fun _ _ h => h)) (kept_setCell _ _ _ _) (fun _ _ h => h))
  have e1 : (W.setCell ⟨g, 7, none⟩ u7).heap[g]? = some (Obj.cells #[c0, c1, c2, c3, c4, c5, c6, u7, c8, c9, c10, c11, c12, c13, c14, c15, c16, c17, c18, c19] T) := heap_setCell_same _ g 7 _ _ _ h1
  have e2 : ((W.setCell ⟨g, 7, none⟩ u7).setCell ⟨g, 8, none⟩ u8).heap[g]? = some (Obj.cells #[c0, c1, c2, c3, c4, c5, c6, u7, u8, c9, c10, c11, c12, c13, c14, c15, c16, c17, c18, c19] T) := heap_setCell_same _ g 8 _ _ _ e1
  have e3 : (((W.setCell ⟨g, 7, none⟩ u7).setCell ⟨g, 8, none⟩ u8).setCell ⟨g, 9, none⟩ u9).heap[g]? = some (Obj.cells #[c0, c1, c2, c3, c4, c5, c6, u7, u8, u9, c10, c11, c12, c13, c14, c15, c16, c17, c18, c19] T) := heap_setCell_same _ g 9 _ _ _ e2
  have e4 : ((((W.setCell ⟨g, 7, none⟩ u7).setCell ⟨g, 8, none⟩ u8).setCell ⟨g, 9, none⟩ u9).setCell ⟨g, 10, none⟩ u10).heap[g]? = some (Obj.cells #[c0, c1, c2, c3, c4, c5, c6, u7, u8, u9, u10, c11, c12, c13, c14, c15, c16, c17, c18, c19] T) := heap_setCell_same _ g 10 _ _ _ e3
  have e5 : (((((W.setCell ⟨g, 7, none⟩ u7).setCell ⟨g, 8, none⟩ u8).setCell ⟨g, 9, none⟩ u9).setCell ⟨g, 10, none⟩ u10).setCell ⟨g, 11, none⟩ u11).heap[g]? = some (Obj.cells #[c0, c1, c2, c3, c4, c5, c6, u7, u8, u9, u10, u11, c12, c13, c14, c15, c16, c17, c18, c19] T) := heap_setCell_same _ g 11 _ _ _ e4
  have e6 : ((((((W.setCell ⟨g, 7, none⟩ u7).setCell ⟨g, 8, none⟩ u8).setCell ⟨g, 9, none⟩ u9).setCell ⟨g, 10, none⟩ u10).setCell ⟨g, 11, none⟩ u11).setCell ⟨g, 12, none⟩ u12).heap[g]? = some (Obj.cells #[c0, c1, c2, c3, c4, c5, c6, u7, u8, u9, u10, u11, u12, c13, c14, c15, c16, c17, c18, c19] T) := heap_setCell_same _ g 12 _ _ _ e5
  have e7 : (((((((W.setCell ⟨g, 7, none⟩ u7).setCell ⟨g, 8, none⟩ u8).setCell ⟨g, 9, none⟩ u9).setCell ⟨g, 10, none⟩ u10).setCell ⟨g, 11, none⟩ u11).setCell ⟨g, 12, none⟩ u12).setCell ⟨g, 13, none⟩ u13).heap[g]? = some (Obj.cells #[c0, c1, c2, c3, c4, c5, c6, u7, u8, u9, u10, u11, u12, u13, c14, c15, c16, c17, c18, c19] T) := heap_setCell_same _ g 13 _ _ _ e6
  have e8 : ((((((((W.setCell ⟨g, 7, none⟩ u7).setCell ⟨g, 8, none⟩ u8).setCell ⟨g, 9, none⟩ u9).setCell ⟨g, 10, none⟩ u10).setCell ⟨g, 11, none⟩ u11).setCell ⟨g, 12, none⟩ u12).setCell ⟨g, 13, none⟩ u13).setCell ⟨g, 14, none⟩ u14).heap[g]? = some (Obj.cells #[c0, c1, c2, c3, c4, c5, c6, u7, u8, u9, u10, u11, u12, u13, u14, c15, c16, c17, c18, c19] T) := heap_setCell_same _ g 14 _ _ _ e7
  have e9 : (((((((((W.setCell ⟨g, 7, none⟩ u7).setCell ⟨g, 8, none⟩ u8).setCell ⟨g, 9, none⟩ u9).setCell ⟨g, 10, none⟩ u10).setCell ⟨g, 11, none⟩ u11).setCell ⟨g, 12, none⟩ u12).setCell ⟨g, 13, none⟩ u13).setCell ⟨g, 14, none⟩ u14).setCell ⟨g, 15, none⟩ u15).heap[g]? = some (Obj.cells #[c0, c1, c2, c3, c4, c5, c6, u7, u8, u9, u10, u11, u12, u13, u14, u15, c16, c17, c18, c19] T) := heap_setCell_same _ g 15 _ _ _ e8
  have e10 : ((((((((((W.setCell ⟨g, 7, none⟩ u7).setCell ⟨g, 8, none⟩ u8).setCell ⟨g, 9, none⟩ u9).setCell ⟨g, 10, none⟩ u10).setCell ⟨g, 11, none⟩ u11).setCell ⟨g, 12, none⟩ u12).setCell ⟨g, 13, none⟩ u13).setCell ⟨g, 14, none⟩ u14).setCell ⟨g, 15, none⟩ u15).setCell ⟨g, 16, none⟩ u16).heap[g]? = some (Obj.cells #[c0, c1, c2, c3, c4, c5, c6, u7, u8, u9, u10, u11, u12, u13, u14, u15, u16, c17, c18, c19] T) := heap_setCell_same _ g 16 _ _ _ e9
  have e11 : (((((((((((W.setCell ⟨g, 7, none⟩ u7).setCell ⟨g, 8, none⟩ u8).setCell ⟨g, 9, none⟩ u9).setCell ⟨g, 10, none⟩ u10).setCell ⟨g, 11, none⟩ u11).setCell ⟨g, 12, none⟩ u12).setCell ⟨g, 13, none⟩ u13).setCell ⟨g, 14, none⟩ u14).setCell ⟨g, 15, none⟩ u15).setCell ⟨g, 16, none⟩ u16).setCell ⟨g, 17, none⟩ u17).heap[g]? = some (Obj.cells #[c0, c1, c2, c3, c4, c5, c6, u7, u8, u9, u10, u11, u12, u13, u14, u15, u16, u17, c18, c19] T) := heap_setCell_same _ g 17 _ _ _ e10
  refine sep_set h i hi hk _ e11 (fun k hk => ⟨Or.inl hk, ?_⟩) (Nat.le_of_lt (Nat.lt_of_le_of_lt h2.1 h2.2))
  have hk : k = g := hk
  subst hk
  simpa using h2.2

theorem sep_st20 {B : Nat} {W : World} {l : List Ast} (h : Sep B W l) (i : Nat) {g : Nat} {c0 c1 c2 c3 c4 c5 c6 c7 c8 c9 c10 c11 c12 c13 c14 c15 c16 c17 c18 c19 : Value} {T : TypeId} (hi : l[i]? = some (cellA g (Obj.cells #[c0, c1, c2, c3, c4, c5, c6, c7, c8, c9, c10, c11, c12, c13, c14, c15, c16, c17, c18, c19] T))) (u0 u1 u2 u3 u4 u5 u6 u7 u8 u9 u10 u11 u12 u13 u14 u15 u16 u17 u18 u19 : Value) : Sep B ((((((((((((((((((((W.setCell ⟨g, 0, none⟩ u0).setCell ⟨g, 1, none⟩ u1).setCell ⟨g, 2, none⟩ u2).setCell ⟨g, 3, none⟩ u3).setCell ⟨g, 4, none⟩ u4).setCell ⟨g, 5, none⟩ u5).setCell ⟨g, 6, none⟩ u6).setCell ⟨g, 7, none⟩ u7).setCell ⟨g, 8, none⟩ u8).setCell ⟨g, 9, none⟩ u9).setCell ⟨g, 10, none⟩ u10).setCell ⟨g, 11, none⟩ u11).setCell ⟨g, 12, none⟩ u12).setCell ⟨g, 13, none⟩ u13).setCell ⟨g, 14, none⟩ u14).setCell ⟨g, 15, none⟩ u15).setCell ⟨g, 16, none⟩ u16).setCell ⟨g, 17, none⟩ u17).setCell ⟨g, 18, none⟩ u18).setCell ⟨g, 19, none⟩ u19) (l.set i (cellA g (Obj.cells #[u0, u1, u2, u3, u4, u5, u6, u7, u8, u9, u10, u11, u12, u13, u14, u15, u16, u17, u18, u19] T))) := by
  have h1 : W.heap[g]? = some (Obj.cells #[c0, c1, c2, c3, c4, c5, c6, c7, c8, c9, c10, c11, c12, c13, c14, c15, c16, c17, c18, c19] T) := sep_get h i hi
  have h2 := sep_lt h i hi g rfl
  have hk : Kept W ((((((((((((((((((((W.setCell ⟨g, 0, none⟩ u0).setCell ⟨g, 1, none⟩ u1).setCell ⟨g, 2, none⟩ u2).setCell ⟨g, 3, none⟩ u3).setCell ⟨g, 4, none⟩ u4).setCell ⟨g, 5, none⟩ u5).setCell ⟨g, 6, none⟩ u6).setCell ⟨g, 7, none⟩ u7).setCell ⟨g, 8, none⟩ u8).setCell ⟨g, 9, none⟩ u9).setCell ⟨g, 10, none⟩ u10).setCell ⟨g, 11, none⟩ u11).setCell ⟨g, 12, none⟩ u12).setCell ⟨g, 13, none⟩ u13).setCell ⟨g, 14, none⟩ u14).setCell ⟨g, 15, none⟩ u15).setCell ⟨g, 16, none⟩ u16).setCell ⟨g, 17, none⟩ u17).setCell ⟨g, 18, none⟩ u18).setCell ⟨g, 19, none⟩ u19) (fun k => k = g) := (kept_trans (kept_trans (kept_trans (kept_trans (kept_trans (kept_trans (kept_trans (kept_trans (kept_trans (kept_trans (kept_trans (kept_trans (kept_trans (kept_trans (kept_trans (kept_trans (kept_trans (kept_trans (kept_trans (kept_setCell _ _ _ _) (kept_setCell _ _ _ _) (fun _ _ h => h)) (kept_setCell _ _ _ _) (fun _ _ h => h)) (kept_setCell _ _ _ _) (fun _ _ h => h)) (kept_setCell _ _ _ _) (fun _ _ h => h)) (kept_setCell _ _ _ _) (fun _ _ h => h)) (kept_setCell _ _ _ _) (fun _ _ h => h)) (kept_setCell _ _ _ _) (fun _ _ h => h)) (kept_setCell _ _ _ _) (fun _ _ h => h)) (kept_setCell _ _ _ _) (fun _ _ h => h)) (kept_setCell _ _ _ _) (fun _ _ h => h)) (kept_setCell _ _ _ _) (fun _ _ h => h)) (kept_setCell _ _ _ _) (fun _ _ h => h)) (kept_setCell _ _ _ _) (fun _ _ h => h)) (kept_setCell _ _ _ _) (fun _ _ h => h)) (kept_setCell _ _ _ _) (fun _ _ h => h)) (kept_setCell _ _ _ _) (fun _ _ h => h)) (kept_setCell _ _ _ _) (fun _ _ h => h)) (kept_setCell _ _ _ _) (fun _ _ h => h)) (kept_setCell _ _ _ _) (fun _ _ h => h))
  have e1 : (W.setCell ⟨g, 0, none⟩ u0).heap[g]? = some (Obj.cells #[u0, c1, c2, c3, c4, c5, c6, c7, c8, c9, c10, c11, c12, c13, c14, c15, c16, c17, c18, c19] T) := heap_setCell_same _ g 0 _ _ _ h1
  have e2 : ((W.setCell ⟨g, 0, none⟩ u0).setCell ⟨g, 1, none⟩ u1).heap[g]? = some (Obj.cells #[u0, u1, c2, c3, c4, c5, c6, c7, c8, c9, c10, c11, c12, c13, c14, c15, c16, c17, c18, c19] T) := heap_setCell_same _ g 1 _ _ _ e1
  have e3 : (((W.setCell ⟨g, 0, none⟩ u0).setCell ⟨g, 1, none⟩ u1).setCell ⟨g, 2, none⟩ u2).heap[g]? = some (Obj.cells #[u0, u1, u2, c3, c4, c5, c6, c7, c8, c9, c10, c11, c12, c13, c14, c15, c16, c17, c18, c19] T) := heap_setCell_same _ g 2 _ _ _ e2
  have e4 : ((((W.setCell ⟨g, 0, none⟩ u0).setCell ⟨g, 1, none⟩ u1).setCell ⟨g, 2, none⟩ u2).setCell ⟨g, 3, none⟩ u3).heap[g]? = some (Obj.cells #[u0, u1, u2, u3, c4, c5, c6, c7, c8, c9, c10, c11, c12, c13, c14, c15, c16, c17, c18, c19] T) := heap_setCell_same _ g 3 _ _ _ e3
  have e5 : (((((W.setCell ⟨g, 0, none⟩ u0).setCell ⟨g, 1, none⟩ u1).setCell ⟨g, 2, none⟩ u2).setCell ⟨g, 3, none⟩ u3).setCell ⟨g, 4, none⟩ u4).heap[g]? = some (Obj.cells #[u0, u1, u2, u3, u4, c5, c6, c7, c8, c9, c10, c11, c12, c13, c14, c15, c16, c17, c18, c19] T) := heap_setCell_same _ g 4 _ _ _ e4
  have e6 : ((((((W.setCell ⟨g, 0, none⟩ u0).setCell ⟨g, 1, none⟩ u1).setCell ⟨g, 2, none⟩ u2).setCell ⟨g, 3, none⟩ u3).setCell ⟨g, 4, none⟩ u4).setCell ⟨g, 5, none⟩ u5).heap[g]? = some (Obj.cells #[u0, u1, u2, u3, u4, u5, c6, c7, c8, c9, c10, c11, c12, c13, c14, c15, c16, c17, c18, c19] T) := heap_setCell_same _ g 5 _ _ _ e5
  have e7 : (((((((W.setCell ⟨g, 0, none⟩ u0).setCell ⟨g, 1, none⟩ u1).setCell ⟨g, 2, none⟩ u2).setCell ⟨g, 3, none⟩ u3).setCell ⟨g, 4, none⟩ u4).setCell ⟨g, 5, none⟩ u5).setCell ⟨g, 6, none⟩ u6).heap[g]? = some (Obj.cells #[u0, u1, u2, u3, u4, u5, u6, c7, c8, c9, c10, c11, c12, c13, c14, c15, c16, c17, c18, c19] T) := heap_setCell_same _ g 6 _ _ _ e6
  have e8 : ((((((((W.setCell ⟨g, 0, none⟩ u0).setCell ⟨g, 1, none⟩ u1).setCell ⟨g, 2, none⟩ u2).setCell ⟨g, 3, none⟩ u3).setCell ⟨g, 4, none⟩ u4).setCell ⟨g, 5, none⟩ u5).setCell ⟨g, 6, none⟩ u6).setCell ⟨g, 7, none⟩ u7).heap[g]? = some (Obj.cells #[u0, u1, u2, u3, u4, u5, u6, u7, c8, c9, c10, c11, c12, c13, c14, c15, c16, c17, c18, c19] T) := heap_setCell_same _ g 7 _ _ _ e7
  have e9 : (((((((((W.setCell ⟨g, 0, none⟩ u0).setCell ⟨g, 1, none⟩ u1).setCell ⟨g, 2, none⟩ u2).setCell ⟨g, 3, none⟩ u3).setCell ⟨g, 4, none⟩ u4).setCell ⟨g, 5, none⟩ u5).setCell ⟨g, 6, none⟩ u6).setCell ⟨g, 7, none⟩ u7).setCell ⟨g, 8, none⟩ u8).heap[g]? = some (Obj.cells #[u0, u1, u2, u3, u4, u5, u6, u7, u8, c9, c10, c11, c12, c13, c14, c15, c16, c17, c18, c19] T) := heap_setCell_same _ g 8 _ _ _ e8
  have e10 : ((((((((((W.setCell ⟨g, 0, none⟩ u0).setCell ⟨g, 1, none⟩ u1).setCell ⟨g, 2, none⟩ u2).setCell ⟨g, 3, none⟩ u3).setCell ⟨g, 4, none⟩ u4).setCell ⟨g, 5, none⟩ u5).setCell ⟨g, 6, none⟩ u6).setCell ⟨g, 7, none⟩ u7).setCell ⟨g, 8, none⟩ u8).setCell ⟨g, 9, none⟩ u9).heap[g]? = some (Obj.cells #[u0, u1, u2, u3, u4, u5, u6, u7, u8, u9, c10, c11, c12, c13, c14, c15, c16, c17, c18, c19] T) := heap_setCell_same _ g 9 _ _ _ e9
  have e11 : (((((((((((W.setCell ⟨g, 0, none⟩ u0).setCell ⟨g, 1, none⟩ u1).setCell ⟨g, 2, none⟩ u2).setCell ⟨g, 3, none⟩ u3).setCell ⟨g, 4, none⟩ u4).setCell ⟨g, 5, none⟩ u5).setCell ⟨g, 6, none⟩ u6).setCell ⟨g, 7, none⟩ u7).setCell ⟨g, 8, none⟩ u8).setCell ⟨g, 9, none⟩ u9).setCell ⟨g, 10, none⟩ u10).heap[g]? = some (Obj.cells #[u0, u1, u2, u3, u4, u5, u6, u7, u8, u9, u10, c11, c12, c13, c14, c15, c16, c17, c18, c19] T) := heap_setCell_same _ g 10 _ _ _ e10
  have e12 : ((((((((((((W.setCell ⟨g, 0, none⟩ u0).setCell ⟨g, 1, none⟩ u1).setCell ⟨g, 2, none⟩ u2).setCell ⟨g, 3, none⟩ u3).setCell ⟨g, 4, none⟩ u4).setCell ⟨g, 5, none⟩ u5).setCell ⟨g, 6, none⟩ u6).setCell ⟨g, 7, none⟩ u7).setCell ⟨g, 8, none⟩ u8).setCell ⟨g, 9, none⟩ u9).setCell ⟨g, 10, none⟩ u10).setCell ⟨g, 11, none⟩ u11).heap[g]? = some (Obj.cells #[u0, u1, u2, u3, u4, u5, u6, u7, u8, u9, u10, u11, c12, c13, c14, c15, c16, c17, c18, c19] T) := heap_setCell_same _ g 11 _ _ _ e11
  have e13 : (((((((((((((W.setCell ⟨g, 0, none⟩ u0).setCell ⟨g, 1, none⟩ u1).setCell ⟨g, 2, none⟩ u2).setCell ⟨g, 3, none⟩ u3).setCell ⟨g, 4, none⟩ u4).setCell ⟨g, 5, none⟩ u5).setCell ⟨g, 6, none⟩ u6).setCell ⟨g, 7, none⟩ u7).setCell ⟨g, 8, none⟩ u8).setCell ⟨g, 9, none⟩ u9).setCell ⟨g, 10, none⟩ u10).setCell ⟨g, 11, none⟩ u11).setCell ⟨g, 12, none⟩ u12).heap[g]? = some (Obj.cells #[u0, u1, u2, u3, u4, u5, u6, u7, u8, u9, u10, u11, u12, c13, c14, c15, c16, c17, c18, c19] T) := heap_setCell_same _ g 12 _ _ _ e12
  have e14 : ((((((((((((((W.setCell ⟨g, 0, none⟩ u0).setCell ⟨g, 1, none⟩ u1).setCell ⟨g, 2, none⟩ u2).setCell ⟨g, 3, none⟩ u3).setCell ⟨g, 4, none⟩ u4).setCell ⟨g, 5, none⟩ u5).setCell ⟨g, 6, none⟩ u6).setCell ⟨g, 7, none⟩ u7).setCell ⟨g, 8, none⟩ u8).setCell ⟨g, 9, none⟩ u9).setCell ⟨g, 10, none⟩ u10).setCell ⟨g, 11, none⟩ u11).setCell ⟨g, 12, none⟩ u12).setCell ⟨g, 13, none⟩ u13).heap[g]? = some (Obj.cells #[u0, u1, u2, u3, u4, u5, u6, u7, u8, u9, u10, u11, u12, u13, c14, c15, c16, c17, c18, c19] T) := heap_setCell_same _ g 13 _ _ _ e13
  have e15 : (((((((((((((((W.setCell ⟨g, 0, none⟩ u0).setCell ⟨g, 1, none⟩ u1).setCell ⟨g, 2, none⟩ u2).setCell ⟨g, 3, none⟩ u3).setCell ⟨g, 4, none⟩ u4).setCell ⟨g, 5, none⟩ u5).setCell ⟨g, 6, none⟩ u6).setCell ⟨g, 7, none⟩ u7).setCell ⟨g, 8, none⟩ u8).setCell ⟨g, 9, none⟩ u9).setCell ⟨g, 10, none⟩ u10).setCell ⟨g, 11, none⟩ u11).setCell ⟨g, 12, none⟩ u12).setCell ⟨g, 13, none⟩ u13).setCell ⟨g, 14, none⟩ u14).heap[g]? = some (Obj.cells #[u0, u1, u2, u3, u4, u5, u6, u7, u8, u9, u10, u11, u12, u13, u14, c15, c16, c17, c18, c19] T) := heap_setCell_same _ g 14 _ _ _ e14
  have e16 : ((((((((((((((((W.setCell ⟨g, 0, none⟩ u0).setCell ⟨g, 1, none⟩ u1).setCell ⟨g, 2, none⟩ u2).setCell ⟨g, 3, none⟩ u3).setCell ⟨g, 4, none⟩ u4).setCell ⟨g, 5, none⟩ u5).setCell ⟨g, 6, none⟩ u6).setCell ⟨g, 7, none⟩ u7).setCell ⟨g, 8, none⟩ u8).setCell ⟨g, 9, none⟩ u9).setCell ⟨g, 10, none⟩ u10).setCell ⟨g, 11, none⟩ u11).setCell ⟨g, 12, none⟩ u12).setCell ⟨g, 13, none⟩ u13).setCell ⟨g, 14, none⟩ u14).setCell ⟨g, 15, none⟩ u15).heap[g]? = some (Obj.cells #[u0, u1, u2, u3, u4, u5, u6, u7, u8, u9, u10, u11, u12, u13, u14, u15, c16, c17, c18, c19] T) := heap_setCell_same _ g 15 _ _ _ e15
  have e17 : (((((((((((((((((W.setCell ⟨g, 0, none⟩ u0).setCell ⟨g, 1, none⟩ u1).setCell ⟨g, 2, none⟩ u2).setCell ⟨g, 3, none⟩ u3).setCell ⟨g, 4, none⟩ u4).setCell ⟨g, 5, none⟩ u5).setCell ⟨g, 6, none⟩ u6).setCell ⟨g, 7, none⟩ u7).setCell ⟨g, 8, none⟩ u8).setCell ⟨g, 9, none⟩ u9).setCell ⟨g, 10, none⟩ u10).setCell ⟨g, 11, none⟩ u11).setCell ⟨g, 12, none⟩ u12).setCell ⟨g, 13, none⟩ u13).setCell ⟨g, 14, none⟩ u14).setCell ⟨g, 15, none⟩ u15).setCell ⟨g, 16, none⟩ u16).heap[g]? = some (Obj.cells #[u0, u1, u2, u3, u4, u5, u6, u7, u8, u9, u10, u11, u12, u13, u14, u15, u16, c17, c18, c19] T) := heap_setCell_same _ g 16 _ _ _ e16
  have e18 : ((((((((((((((((((W.setCell ⟨g, 0, none⟩ u0).setCell ⟨g, 1, none⟩ u1).setCell ⟨g, 2, none⟩ u2).setCell ⟨g, 3, none⟩ u3).setCell ⟨g, 4, none⟩ u4).setCell ⟨g, 5, none⟩ u5).setCell ⟨g, 6, none⟩ u6).setCell ⟨g, 7, none⟩ u7).setCell ⟨g, 8, none⟩ u8).setCell ⟨g, 9, none⟩ u9).setCell ⟨g, 10, none⟩ u10).setCell ⟨g, 11, none⟩ u11).setCell ⟨g, 12, none⟩ u12).setCell ⟨g, 13, none⟩ u13).setCell ⟨g, 14, none⟩ u14).setCell ⟨g, 15, none⟩ u15).setCell ⟨g, 16, none⟩ u16).setCell ⟨g, 17, none⟩ u17).heap[g]? = some (Obj.cells #[u0, u1, u2, u3, u4, u5, u6, u7, u8, u9, u10, u11, u12, u13, u14, u15, u16, u17, c18, c19] T) := heap_setCell_same _ g 17 _ _ _ e17
  have e19 : (((((((((((((((((((W.setCell ⟨g, 0, none⟩ u0).setCell ⟨g, 1, none⟩ u1).setCell ⟨g, 2, none⟩ u2).setCell ⟨g, 3, none⟩ u3).setCell ⟨g, 4, none⟩ u4).setCell ⟨g, 5, none⟩ u5).setCell ⟨g, 6, none⟩ u6).setCell ⟨g, 7, none⟩ u7).setCell ⟨g, 8, none⟩ u8).setCell ⟨g, 9, none⟩ u9).setCell ⟨g, 10, none⟩ u10).setCell ⟨g, 11, none⟩ u11).setCell ⟨g, 12, none⟩ u12).setCell ⟨g, 13, none⟩ u13).setCell ⟨g, 14, none⟩ u14).setCell ⟨g, 15, none⟩ u15).setCell ⟨g, 16, none⟩ u16).setCell ⟨g, 17, none⟩ u17).setCell ⟨g, 18, none⟩ u18).heap[g]? = some (Obj.cells #[u0, u1, u2, u3, u4, u5, u6, u7, u8, u9, u10, u11, u12, u13, u14, u15, u16, u17, u18, c19] T) := heap_setCell_same _ g 18 _ _ _ e18
  have e20 : ((((((((((((((((((((W.setCell ⟨g, 0, none⟩ u0).setCell ⟨g, 1, none⟩ u1).setCell ⟨g, 2, none⟩ u2).setCell ⟨g, 3, none⟩ u3).setCell ⟨g, 4, none⟩ u4).setCell ⟨g, 5, none⟩ u5).setCell ⟨g, 6, none⟩ u6).setCell ⟨g, 7, none⟩ u7).setCell ⟨g, 8, none⟩ u8).setCell ⟨g, 9, none⟩ u9).setCell ⟨g, 10, none⟩ u10).setCell ⟨g, 11, none⟩ u11).setCell ⟨g, 12, none⟩ u12).setCell ⟨g, 13, none⟩ u13).setCell ⟨g, 14, none⟩ u14).setCell ⟨g, 15, none⟩ u15).setCell ⟨g, 16, none⟩ u16).setCell ⟨g, 17, none⟩ u17).setCell ⟨g, 18, none⟩ u18).setCell ⟨g, 19, none⟩ u19).heap[g]? = some (Obj.cells #[u0, u1, u2, u3, u4, u5, u6, u7, u8, u9, u10, u11, u12, u13, u14, u15, u16, u17, u18, u19] T) := heap_setCell_same _ g 19 _ _ _ e19
  refine sep_set h i hi hk _ e20 (fun k hk => ⟨Or.inl hk, ?_⟩) (Nat.le_of_lt (Nat.lt_of_le_of_lt h2.1 h2.2))
  have hk : k = g := hk
  subst hk
  simpa using h2.2

set_option maxHeartbeats 8000000 in
set_option maxRecDepth 100000 in
theorem szStore_any (v : Value) (s : St) (hf : s.fits) (left : Nat) (hleft : left ≤ 1048576) (w : World) (hd : StAt w v s) :
    Calls Tryz.prog 4 #[v, .int .i64 (left : Int)] w fun e w' => e = .returned (.int .i64 (szOut left s.bulk)) ∧ Below w.heap.size w w' := by
  obtain ⟨vp, vl, vf, vR, vr, up, ul, uu, ug, uf, rfl, h1, h2, h3, h4⟩ := hd
  obtain ⟨mt, e1⟩ : ∃ n, n = s.m.tx := ⟨_, rfl⟩
  obtain ⟨mr, e2⟩ : ∃ n, n = s.m.root := ⟨_, rfl⟩
  obtain ⟨mn, e3⟩ : ∃ n, n = s.m.next := ⟨_, rfl⟩
  obtain ⟨tt, e4⟩ : ∃ n, n = s.tm.tx := ⟨_, rfl⟩
  obtain ⟨ur, e5⟩ : ∃ n, n = s.tm.root := ⟨_, rfl⟩
  obtain ⟨tn, e6⟩ : ∃ n, n = s.tm.next := ⟨_, rfl⟩
  obtain ⟨wn, e7⟩ : ∃ n, n = s.tk.next := ⟨_, rfl⟩
  obtain ⟨tr, e8⟩ : ∃ n, n = s.tr := ⟨_, rfl⟩
  obtain ⟨bw, e9⟩ : ∃ n, n = s.wr := ⟨_, rfl⟩
  obtain ⟨bf, e10⟩ : ∃ n, n = s.fl := ⟨_, rfl⟩
  have HL : Hid (mt = s.m.tx ∧ mr = s.m.root ∧ mn = s.m.next ∧ tt = s.tm.tx ∧ ur = s.tm.root ∧ tn = s.tm.next ∧ wn = s.tk.next ∧ tr = s.tr ∧ bw = s.wr ∧ bf = s.fl) := hide ⟨e1, e2, e3, e4, e5, e6, e7, e8, e9, e10⟩
  rw [← e1, ← e2, ← e3] at h2
  rw [← e4, ← e5, ← e6, ← e7, ← e8] at h4
  rw [← e1, ← e2, ← e3, ← e4, ← e5, ← e6, ← e7, ← e8, ← e9, ← e10]
  have HD := hide h1
  have HM := hide h2
  have HR := hide h3
  have HT := hide h4
  clear h1 h2 h3 h4 e1 e2 e3 e4 e5 e6 e7 e8 e9 e10
  obtain ⟨⟨f1, f2, f3, f4⟩, ⟨f5, f6⟩, f7, ⟨f8, f9⟩, f10⟩ := hf
  have HC0 := hide (fun (l : Nat) (h : l ≤ 1048576) wx hx => szDisk_any (.agg #[vp, vl]) s.ps s.ls f1 f2 f3 f4 l h wx hx)
  have HC1 := hide (fun (l : Nat) (h : l ≤ 1048576) wx hx => szMeta_any (.agg #[.int .i64 mt, .int .i64 mr, .int .i64 mn, vf]) s.m f5 f6 l h wx hx)
  have HC2 := hide (fun (l : Nat) (h : l ≤ 1048576) wx hx => szReaderS_any s.rs f7 vR l h wx hx)
  have HC3 := hide (fun (l : Nat) (h : l ≤ 1048576) wx hx => szTxn_any (.agg #[.int .i64 tt, .int .i64 ur, .int .i64 tn, vr, up, ul, .int .i64 wn, uu, ug, uf, .int .i64 tr]) s.tm s.tk tr f8 f9 f10 l h wx hx)
  obtain ⟨b0, hb0⟩ : ∃ n, n = bulkS s.ps + bulkP s.ls := ⟨_, rfl⟩
  obtain ⟨b1, hb1⟩ : ∃ n, n = bulkF s.m.fs := ⟨_, rfl⟩
  obtain ⟨b2, hb2⟩ : ∃ n, n = bulkR s.rs := ⟨_, rfl⟩
  obtain ⟨b3, hb3⟩ : ∃ n, n = bulkT s.tm s.tk := ⟨_, rfl⟩
  have hbk : s.bulk = b0 + b1 + b2 + b3 := by rw [hb0, hb1, hb2, hb3]; rfl
  rw [← hb0] at HC0
  rw [← hb1] at HC1
  rw [← hb2] at HC2
  rw [← hb3] at HC3
  rw [hbk]
  obtain ⟨a0, ha0⟩ : ∃ a, a = w.heap.size := ⟨_, rfl⟩
  have hS0 := sep_new (sep_nil w.heap.size w) (Obj.cells #[vp, vl, .int .i64 mt, .int .i64 mr, .int .i64 mn, vf, vR, .int .i64 tt, .int .i64 ur, .int .i64 tn, vr, up, ul, .int .i64 wn, uu, ug, uf, .int .i64 tr, .bool bw, .bool bf] 36) (Nat.le_refl _)
  obtain ⟨w0, hw0⟩ : ∃ w0, w0 = w.alloc (Obj.cells #[vp, vl, .int .i64 mt, .int .i64 mr, .int .i64 mn, vf, vR, .int .i64 tt, .int .i64 ur, .int .i64 tn, vr, up, ul, .int .i64 wn, uu, ug, uf, .int .i64 tr, .bool bw, .bool bf] 36) := ⟨_, rfl⟩
  rw [← hw0, ← ha0] at hS0
  have HS0 := hide hS0
  have HB0 : Hid (Below w.heap.size w w0) := hide (by rw [hw0]; exact (Below.refl w.heap.size w).alloc (Nat.le_refl _) _)
  have HA := hide ha0
  clear hS0 ha0 hb0 hb1 hb2 hb3 hbk f1 f2 f3 f4 f5 f6 f7 f8 f9 f10
  by_cases n0 : b0 ≤ left
  · have HK0 := hide (HC0.out left (by omega))
    rw [szOut_yes n0] at HK0
    obtain ⟨z0, hz0⟩ : ∃ n, n = left - b0 := ⟨_, rfl⟩
    rw [← hz0] at HK0
    by_cases n1 : b1 ≤ z0
    · have HK1 := hide (HC1.out z0 (by omega))
      rw [szOut_yes n1] at HK1
      obtain ⟨z1, hz1⟩ : ∃ n, n = z0 - b1 := ⟨_, rfl⟩
      rw [← hz1] at HK1
      by_cases n2 : b2 ≤ z1
      · have HK2 := hide (HC2.out z1 (by omega))
        rw [szOut_yes n2] at HK2
        obtain ⟨z2, hz2⟩ : ∃ n, n = z1 - b2 := ⟨_, rfl⟩
        rw [← hz2] at HK2
        by_cases n3 : b3 ≤ z2
        · have HK3 := hide (HC3.out z2 (by omega))
          rw [szOut_yes n3] at HK3
          obtain ⟨z3, hz3⟩ : ∃ n, n = z2 - b3 := ⟨_, rfl⟩
          rw [← hz3] at HK3
          have hez : szOut left (b0 + b1 + b2 + b3) = ((z3 : Nat) : Int) := by rw [szOut_yes (by omega)]; congr 1; omega
          rw [hez]
          clear hez hz0 n0 hz1 n1 hz2 n2 hz3 n3
          go_enter Tryz.func4, Tryz.ntmps4
          go_wp2_with fail
          rw [← hw0, ← HA.out]
          clear hw0
          refine (HK0.out _ (disk_below HD.out HB0.out)).mono ?_
          rintro e w1 ⟨rfl, hq⟩
          have HS1 := hide (sep_below HS0.out hq)
          have HB1 : Hid (Below w.heap.size w w1) := hide (HB0.out.trans (hq.mono HB0.out.size))
          clear hq
          obtain ⟨x0, x1, x2, x3, x4, x5, x6, x7, x8, x9, x10, x11, x12, x13, x14, x15, x16, x17, x18, x19⟩ := blk20c (sep_get HS1.out 0 rfl : w1.heap[a0]? = some (Obj.cells #[vp, vl, .int .i64 mt, .int .i64 mr, .int .i64 mn, vf, vR, .int .i64 tt, .int .i64 ur, .int .i64 tn, vr, up, ul, .int .i64 wn, uu, ug, uf, .int .i64 tr, .bool bw, .bool bf] 36))
          go_wp2_with fail
          clear x0 x1 x2 x3 x4 x5 x6 x7 x8 x9 x10 x11 x12 x13 x14 x15 x16 x17 x18 x19
          refine (HK1.out _ (meta_below HM.out HB1.out)).mono ?_
          rintro e w2 ⟨rfl, hq⟩
          have HS2 := hide (sep_below HS1.out hq)
          have HB2 : Hid (Below w.heap.size w w2) := hide (HB1.out.trans (hq.mono HB1.out.size))
          clear hq
          obtain ⟨x0, x1, x2, x3, x4, x5, x6, x7, x8, x9, x10, x11, x12, x13, x14, x15, x16, x17, x18, x19⟩ := blk20c (sep_get HS2.out 0 rfl : w2.heap[a0]? = some (Obj.cells #[vp, vl, .int .i64 mt, .int .i64 mr, .int .i64 mn, vf, vR, .int .i64 tt, .int .i64 ur, .int .i64 tn, vr, up, ul, .int .i64 wn, uu, ug, uf, .int .i64 tr, .bool bw, .bool bf] 36))
          go_wp2_with fail
          clear x0 x1 x2 x3 x4 x5 x6 x7 x8 x9 x10 x11 x12 x13 x14 x15 x16 x17 x18 x19
          refine (HK2.out _ (rds_below HR.out HB2.out)).mono ?_
          rintro e w3 ⟨rfl, hq⟩
          have HS3 := hide (sep_below HS2.out hq)
          have HB3 : Hid (Below w.heap.size w w3) := hide (HB2.out.trans (hq.mono HB2.out.size))
          clear hq
          obtain ⟨x0, x1, x2, x3, x4, x5, x6, x7, x8, x9, x10, x11, x12, x13, x14, x15, x16, x17, x18, x19⟩ := blk20c (sep_get HS3.out 0 rfl : w3.heap[a0]? = some (Obj.cells #[vp, vl, .int .i64 mt, .int .i64 mr, .int .i64 mn, vf, vR, .int .i64 tt, .int .i64 ur, .int .i64 tn, vr, up, ul, .int .i64 wn, uu, ug, uf, .int .i64 tr, .bool bw, .bool bf] 36))
          go_wp2_with fail
          clear x0 x1 x2 x3 x4 x5 x6 x7 x8 x9 x10 x11 x12 x13 x14 x15 x16 x17 x18 x19
          refine (HK3.out _ (txn_below HT.out HB3.out)).mono ?_
          rintro e w4 ⟨rfl, hq⟩
          have HS4 := hide (sep_below HS3.out hq)
          have HB4 : Hid (Below w.heap.size w w4) := hide (HB3.out.trans (hq.mono HB3.out.size))
          clear hq
          go_wp2_with fail
          go_ret
          exact ⟨rfl, HB4.out⟩
        · have HK3 := hide (HC3.out z2 (by omega))
          rw [szOut_no (by omega)] at HK3
          rw [szOut_no (by omega)]
          clear hz0 hz1 hz2 n0 n1 n2 n3
          go_enter Tryz.func4, Tryz.ntmps4
          go_wp2_with fail
          rw [← hw0, ← HA.out]
          clear hw0
          refine (HK0.out _ (disk_below HD.out HB0.out)).mono ?_
          rintro e w1 ⟨rfl, hq⟩
          have HS1 := hide (sep_below HS0.out hq)
          have HB1 : Hid (Below w.heap.size w w1) := hide (HB0.out.trans (hq.mono HB0.out.size))
          clear hq
          obtain ⟨x0, x1, x2, x3, x4, x5, x6, x7, x8, x9, x10, x11, x12, x13, x14, x15, x16, x17, x18, x19⟩ := blk20c (sep_get HS1.out 0 rfl : w1.heap[a0]? = some (Obj.cells #[vp, vl, .int .i64 mt, .int .i64 mr, .int .i64 mn, vf, vR, .int .i64 tt, .int .i64 ur, .int .i64 tn, vr, up, ul, .int .i64 wn, uu, ug, uf, .int .i64 tr, .bool bw, .bool bf] 36))
          go_wp2_with fail
          clear x0 x1 x2 x3 x4 x5 x6 x7 x8 x9 x10 x11 x12 x13 x14 x15 x16 x17 x18 x19
          refine (HK1.out _ (meta_below HM.out HB1.out)).mono ?_
          rintro e w2 ⟨rfl, hq⟩
          have HS2 := hide (sep_below HS1.out hq)
          have HB2 : Hid (Below w.heap.size w w2) := hide (HB1.out.trans (hq.mono HB1.out.size))
          clear hq
          obtain ⟨x0, x1, x2, x3, x4, x5, x6, x7, x8, x9, x10, x11, x12, x13, x14, x15, x16, x17, x18, x19⟩ := blk20c (sep_get HS2.out 0 rfl : w2.heap[a0]? = some (Obj.cells #[vp, vl, .int .i64 mt, .int .i64 mr, .int .i64 mn, vf, vR, .int .i64 tt, .int .i64 ur, .int .i64 tn, vr, up, ul, .int .i64 wn, uu, ug, uf, .int .i64 tr, .bool bw, .bool bf] 36))
          go_wp2_with fail
          clear x0 x1 x2 x3 x4 x5 x6 x7 x8 x9 x10 x11 x12 x13 x14 x15 x16 x17 x18 x19
          refine (HK2.out _ (rds_below HR.out HB2.out)).mono ?_
          rintro e w3 ⟨rfl, hq⟩
          have HS3 := hide (sep_below HS2.out hq)
          have HB3 : Hid (Below w.heap.size w w3) := hide (HB2.out.trans (hq.mono HB2.out.size))
          clear hq
          obtain ⟨x0, x1, x2, x3, x4, x5, x6, x7, x8, x9, x10, x11, x12, x13, x14, x15, x16, x17, x18, x19⟩ := blk20c (sep_get HS3.out 0 rfl : w3.heap[a0]? = some (Obj.cells #[vp, vl, .int .i64 mt, .int .i64 mr, .int .i64 mn, vf, vR, .int .i64 tt, .int .i64 ur, .int .i64 tn, vr, up, ul, .int .i64 wn, uu, ug, uf, .int .i64 tr, .bool bw, .bool bf] 36))
          go_wp2_with fail
          clear x0 x1 x2 x3 x4 x5 x6 x7 x8 x9 x10 x11 x12 x13 x14 x15 x16 x17 x18 x19
          refine (HK3.out _ (txn_below HT.out HB3.out)).mono ?_
          rintro e w4 ⟨rfl, hq⟩
          have HS4 := hide (sep_below HS3.out hq)
          have HB4 : Hid (Below w.heap.size w w4) := hide (HB3.out.trans (hq.mono HB3.out.size))
          clear hq
          go_wp2_with fail
          go_ret
          exact ⟨rfl, HB4.out⟩
      · have HK2 := hide (HC2.out z1 (by omega))
        rw [szOut_no (by omega)] at HK2
        rw [szOut_no (by omega)]
        clear hz0 hz1 n0 n1 n2
        go_enter Tryz.func4, Tryz.ntmps4
        go_wp2_with fail
        rw [← hw0, ← HA.out]
        clear hw0
        refine (HK0.out _ (disk_below HD.out HB0.out)).mono ?_
        rintro e w1 ⟨rfl, hq⟩
        have HS1 := hide (sep_below HS0.out hq)
        have HB1 : Hid (Below w.heap.size w w1) := hide (HB0.out.trans (hq.mono HB0.out.size))
        clear hq
        obtain ⟨x0, x1, x2, x3, x4, x5, x6, x7, x8, x9, x10, x11, x12, x13, x14, x15, x16, x17, x18, x19⟩ := blk20c (sep_get HS1.out 0 rfl : w1.heap[a0]? = some (Obj.cells #[vp, vl, .int .i64 mt, .int .i64 mr, .int .i64 mn, vf, vR, .int .i64 tt, .int .i64 ur, .int .i64 tn, vr, up, ul, .int .i64 wn, uu, ug, uf, .int .i64 tr, .bool bw, .bool bf] 36))
        go_wp2_with fail
        clear x0 x1 x2 x3 x4 x5 x6 x7 x8 x9 x10 x11 x12 x13 x14 x15 x16 x17 x18 x19
        refine (HK1.out _ (meta_below HM.out HB1.out)).mono ?_
        rintro e w2 ⟨rfl, hq⟩
        have HS2 := hide (sep_below HS1.out hq)
        have HB2 : Hid (Below w.heap.size w w2) := hide (HB1.out.trans (hq.mono HB1.out.size))
        clear hq
        obtain ⟨x0, x1, x2, x3, x4, x5, x6, x7, x8, x9, x10, x11, x12, x13, x14, x15, x16, x17, x18, x19⟩ := blk20c (sep_get HS2.out 0 rfl : w2.heap[a0]? = some (Obj.cells #[vp, vl, .int .i64 mt, .int .i64 mr, .int .i64 mn, vf, vR, .int .i64 tt, .int .i64 ur, .int .i64 tn, vr, up, ul, .int .i64 wn, uu, ug, uf, .int .i64 tr, .bool bw, .bool bf] 36))
        go_wp2_with fail
        clear x0 x1 x2 x3 x4 x5 x6 x7 x8 x9 x10 x11 x12 x13 x14 x15 x16 x17 x18 x19
        refine (HK2.out _ (rds_below HR.out HB2.out)).mono ?_
        rintro e w3 ⟨rfl, hq⟩
        have HS3 := hide (sep_below HS2.out hq)
        have HB3 : Hid (Below w.heap.size w w3) := hide (HB2.out.trans (hq.mono HB2.out.size))
        clear hq
        go_wp2_with fail
        go_ret
        exact ⟨rfl, HB3.out⟩
    · have HK1 := hide (HC1.out z0 (by omega))
      rw [szOut_no (by omega)] at HK1
      rw [szOut_no (by omega)]
      clear hz0 n0 n1
      go_enter Tryz.func4, Tryz.ntmps4
      go_wp2_with fail
      rw [← hw0, ← HA.out]
      clear hw0
      refine (HK0.out _ (disk_below HD.out HB0.out)).mono ?_
      rintro e w1 ⟨rfl, hq⟩
      have HS1 := hide (sep_below HS0.out hq)
      have HB1 : Hid (Below w.heap.size w w1) := hide (HB0.out.trans (hq.mono HB0.out.size))
      clear hq
      obtain ⟨x0, x1, x2, x3, x4, x5, x6, x7, x8, x9, x10, x11, x12, x13, x14, x15, x16, x17, x18, x19⟩ := blk20c (sep_get HS1.out 0 rfl : w1.heap[a0]? = some (Obj.cells #[vp, vl, .int .i64 mt, .int .i64 mr, .int .i64 mn, vf, vR, .int .i64 tt, .int .i64 ur, .int .i64 tn, vr, up, ul, .int .i64 wn, uu, ug, uf, .int .i64 tr, .bool bw, .bool bf] 36))
      go_wp2_with fail
      clear x0 x1 x2 x3 x4 x5 x6 x7 x8 x9 x10 x11 x12 x13 x14 x15 x16 x17 x18 x19
      refine (HK1.out _ (meta_below HM.out HB1.out)).mono ?_
      rintro e w2 ⟨rfl, hq⟩
      have HS2 := hide (sep_below HS1.out hq)
      have HB2 : Hid (Below w.heap.size w w2) := hide (HB1.out.trans (hq.mono HB1.out.size))
      clear hq
      go_wp2_with fail
      go_ret
      exact ⟨rfl, HB2.out⟩
  · have HK0 := hide (HC0.out left (by omega))
    rw [szOut_no (by omega)] at HK0
    rw [szOut_no (by omega)]
    clear n0
    go_enter Tryz.func4, Tryz.ntmps4
    go_wp2_with fail
    rw [← hw0, ← HA.out]
    clear hw0
    refine (HK0.out _ (disk_below HD.out HB0.out)).mono ?_
    rintro e w1 ⟨rfl, hq⟩
    have HS1 := hide (sep_below HS0.out hq)
    have HB1 : Hid (Below w.heap.size w w1) := hide (HB0.out.trans (hq.mono HB0.out.size))
    clear hq
    go_wp2_with fail
    go_ret
    exact ⟨rfl, HB1.out⟩

set_option maxHeartbeats 8000000 in
set_option maxRecDepth 100000 in
theorem eqStore_same (v u : Value) (s : St) (hs : s.small) (w : World) (hd : StAt w v s) (hu : StAt w u s) :
    Calls Tryz.prog 8 #[v, u] w fun e w' => e = .returned (.bool true) ∧ Below w.heap.size w w' := by
  obtain ⟨vp, vl, vf, vR, vr, up, ul, uu, ug, uf, rfl, h1, h2, h3, h4⟩ := hd
  obtain ⟨mt, e1⟩ : ∃ n, n = s.m.tx := ⟨_, rfl⟩
  obtain ⟨mr, e2⟩ : ∃ n, n = s.m.root := ⟨_, rfl⟩
  obtain ⟨mn, e3⟩ : ∃ n, n = s.m.next := ⟨_, rfl⟩
  obtain ⟨tt, e4⟩ : ∃ n, n = s.tm.tx := ⟨_, rfl⟩
  obtain ⟨ur, e5⟩ : ∃ n, n = s.tm.root := ⟨_, rfl⟩
  obtain ⟨tn, e6⟩ : ∃ n, n = s.tm.next := ⟨_, rfl⟩
  obtain ⟨wn, e7⟩ : ∃ n, n = s.tk.next := ⟨_, rfl⟩
  obtain ⟨tr, e8⟩ : ∃ n, n = s.tr := ⟨_, rfl⟩
  obtain ⟨bw, e9⟩ : ∃ n, n = s.wr := ⟨_, rfl⟩
  obtain ⟨bf, e10⟩ : ∃ n, n = s.fl := ⟨_, rfl⟩
  have HL : Hid (mt = s.m.tx ∧ mr = s.m.root ∧ mn = s.m.next ∧ tt = s.tm.tx ∧ ur = s.tm.root ∧ tn = s.tm.next ∧ wn = s.tk.next ∧ tr = s.tr ∧ bw = s.wr ∧ bf = s.fl) := hide ⟨e1, e2, e3, e4, e5, e6, e7, e8, e9, e10⟩
  rw [← e1, ← e2, ← e3] at h2
  rw [← e4, ← e5, ← e6, ← e7, ← e8] at h4
  rw [← e1, ← e2, ← e3, ← e4, ← e5, ← e6, ← e7, ← e8, ← e9, ← e10]
  have HD := hide h1
  have HM := hide h2
  have HR := hide h3
  have HT := hide h4
  clear h1 h2 h3 h4 e1 e2 e3 e4 e5 e6 e7 e8 e9 e10
  obtain ⟨xp, xl, xf, xR, xr, yp, yl, yu, yg, yf, rfl, h1, h2, h3, h4⟩ := hu
  rw [← HL.out.1, ← HL.out.2.1, ← HL.out.2.2.1] at h2
  rw [← HL.out.2.2.2.1, ← HL.out.2.2.2.2.1, ← HL.out.2.2.2.2.2.1, ← HL.out.2.2.2.2.2.2.1, ← HL.out.2.2.2.2.2.2.2.1] at h4
  rw [← HL.out.1, ← HL.out.2.1, ← HL.out.2.2.1, ← HL.out.2.2.2.1, ← HL.out.2.2.2.2.1, ← HL.out.2.2.2.2.2.1, ← HL.out.2.2.2.2.2.2.1, ← HL.out.2.2.2.2.2.2.2.1, ← HL.out.2.2.2.2.2.2.2.2.1, ← HL.out.2.2.2.2.2.2.2.2.2]
  have HD2 := hide h1
  have HM2 := hide h2
  have HR2 := hide h3
  have HT2 := hide h4
  obtain ⟨f1, f2, f3, f4, f5⟩ := hs
  have HC0 := hide (fun a b wx h h' => eqDisk_one a b s.ps s.ls f1.1 f1.2.2.1 wx h h')
  have HC1 := hide (fun a b wx h h' => eqMeta_same a b s.m f2.1 f2.2 wx h h')
  have HC2 := hide (fun a b wx h h' => eqReaderS_same s.rs f3.1 f3.2 a b wx h h')
  have HC3 := hide (fun a b wx h h' => eqTxn_same a b s.tm s.tk tr f4.1 f4.2 (bulkW_in f5) wx h h')
  clear h1 h2 h3 h4 f1 f2 f3 f4 f5
  obtain ⟨a0, ha0⟩ : ∃ a, a = w.heap.size := ⟨_, rfl⟩
  have hS0 := sep_new (sep_new (sep_nil w.heap.size w) (Obj.cells #[vp, vl, .int .i64 mt, .int .i64 mr, .int .i64 mn, vf, vR, .int .i64 tt, .int .i64 ur, .int .i64 tn, vr, up, ul, .int .i64 wn, uu, ug, uf, .int .i64 tr, .bool bw, .bool bf] 52) (Nat.le_refl _)) (Obj.cells #[xp, xl, .int .i64 mt, .int .i64 mr, .int .i64 mn, xf, xR, .int .i64 tt, .int .i64 ur, .int .i64 tn, xr, yp, yl, .int .i64 wn, yu, yg, yf, .int .i64 tr, .bool bw, .bool bf] 52) (by simp)
  obtain ⟨w0, hw0⟩ : ∃ w0, w0 = (w.alloc (Obj.cells #[vp, vl, .int .i64 mt, .int .i64 mr, .int .i64 mn, vf, vR, .int .i64 tt, .int .i64 ur, .int .i64 tn, vr, up, ul, .int .i64 wn, uu, ug, uf, .int .i64 tr, .bool bw, .bool bf] 52)).alloc (Obj.cells #[xp, xl, .int .i64 mt, .int .i64 mr, .int .i64 mn, xf, xR, .int .i64 tt, .int .i64 ur, .int .i64 tn, xr, yp, yl, .int .i64 wn, yu, yg, yf, .int .i64 tr, .bool bw, .bool bf] 52) := ⟨_, rfl⟩
  rw [World.size_alloc, ← hw0, ← ha0] at hS0
  have HS0 := hide hS0
  have HB0 : Hid (Below w.heap.size w w0) := hide (by rw [hw0]; exact ((Below.refl w.heap.size w).alloc (Nat.le_refl _) _).alloc (by simp) _)
  have HA := hide ha0
  have dw : (bw != bw) = false := by cases bw <;> rfl
  have df : (bf != bf) = false := by cases bf <;> rfl
  clear hS0 ha0
  go_enter Tryz.func8, Tryz.ntmps8
  go_wp2_with fail
  rw [← hw0, ← HA.out]
  clear hw0
  refine (HC0.out _ _ _ (disk_below HD.out HB0.out) (disk_below HD2.out HB0.out)).mono ?_
  rintro e w1 ⟨rfl, hq⟩
  have HS1 := hide (sep_below HS0.out hq)
  have HB1 : Hid (Below w.heap.size w w1) := hide (HB0.out.trans (hq.mono HB0.out.size))
  clear hq
  obtain ⟨x0, x1, x2, x3, x4, x5, x6, x7, x8, x9, x10, x11, x12, x13, x14, x15, x16, x17, x18, x19⟩ := blk20c (sep_get HS1.out 1 rfl : w1.heap[a0]? = some (Obj.cells #[vp, vl, .int .i64 mt, .int .i64 mr, .int .i64 mn, vf, vR, .int .i64 tt, .int .i64 ur, .int .i64 tn, vr, up, ul, .int .i64 wn, uu, ug, uf, .int .i64 tr, .bool bw, .bool bf] 52))
  obtain ⟨y0, y1, y2, y3, y4, y5, y6, y7, y8, y9, y10, y11, y12, y13, y14, y15, y16, y17, y18, y19⟩ := blk20c (sep_get HS1.out 0 rfl : w1.heap[a0 + 1]? = some (Obj.cells #[xp, xl, .int .i64 mt, .int .i64 mr, .int .i64 mn, xf, xR, .int .i64 tt, .int .i64 ur, .int .i64 tn, xr, yp, yl, .int .i64 wn, yu, yg, yf, .int .i64 tr, .bool bw, .bool bf] 52))
  go_wp2_with fail
  clear x0 x1 x2 x3 x4 x5 x6 x7 x8 x9 x10 x11 x12 x13 x14 x15 x16 x17 x18 x19 y0 y1 y2 y3 y4 y5 y6 y7 y8 y9 y10 y11 y12 y13 y14 y15 y16 y17 y18 y19
  refine (HC1.out _ _ _ (meta_below HM.out HB1.out) (meta_below HM2.out HB1.out)).mono ?_
  rintro e w2 ⟨rfl, hq⟩
  have HS2 := hide (sep_below HS1.out hq)
  have HB2 : Hid (Below w.heap.size w w2) := hide (HB1.out.trans (hq.mono HB1.out.size))
  clear hq
  obtain ⟨x0, x1, x2, x3, x4, x5, x6, x7, x8, x9, x10, x11, x12, x13, x14, x15, x16, x17, x18, x19⟩ := blk20c (sep_get HS2.out 1 rfl : w2.heap[a0]? = some (Obj.cells #[vp, vl, .int .i64 mt, .int .i64 mr, .int .i64 mn, vf, vR, .int .i64 tt, .int .i64 ur, .int .i64 tn, vr, up, ul, .int .i64 wn, uu, ug, uf, .int .i64 tr, .bool bw, .bool bf] 52))
  obtain ⟨y0, y1, y2, y3, y4, y5, y6, y7, y8, y9, y10, y11, y12, y13, y14, y15, y16, y17, y18, y19⟩ := blk20c (sep_get HS2.out 0 rfl : w2.heap[a0 + 1]? = some (Obj.cells #[xp, xl, .int .i64 mt, .int .i64 mr, .int .i64 mn, xf, xR, .int .i64 tt, .int .i64 ur, .int .i64 tn, xr, yp, yl, .int .i64 wn, yu, yg, yf, .int .i64 tr, .bool bw, .bool bf] 52))
  go_wp2_with fail
  clear x0 x1 x2 x3 x4 x5 x6 x7 x8 x9 x10 x11 x12 x13 x14 x15 x16 x17 x18 x19 y0 y1 y2 y3 y4 y5 y6 y7 y8 y9 y10 y11 y12 y13 y14 y15 y16 y17 y18 y19
  refine (HC2.out _ _ _ (rds_below HR.out HB2.out) (rds_below HR2.out HB2.out)).mono ?_
  rintro e w3 ⟨rfl, hq⟩
  have HS3 := hide (sep_below HS2.out hq)
  have HB3 : Hid (Below w.heap.size w w3) := hide (HB2.out.trans (hq.mono HB2.out.size))
  clear hq
  obtain ⟨x0, x1, x2, x3, x4, x5, x6, x7, x8, x9, x10, x11, x12, x13, x14, x15, x16, x17, x18, x19⟩ := blk20c (sep_get HS3.out 1 rfl : w3.heap[a0]? = some (Obj.cells #[vp, vl, .int .i64 mt, .int .i64 mr, .int .i64 mn, vf, vR, .int .i64 tt, .int .i64 ur, .int .i64 tn, vr, up, ul, .int .i64 wn, uu, ug, uf, .int .i64 tr, .bool bw, .bool bf] 52))
  obtain ⟨y0, y1, y2, y3, y4, y5, y6, y7, y8, y9, y10, y11, y12, y13, y14, y15, y16, y17, y18, y19⟩ := blk20c (sep_get HS3.out 0 rfl : w3.heap[a0 + 1]? = some (Obj.cells #[xp, xl, .int .i64 mt, .int .i64 mr, .int .i64 mn, xf, xR, .int .i64 tt, .int .i64 ur, .int .i64 tn, xr, yp, yl, .int .i64 wn, yu, yg, yf, .int .i64 tr, .bool bw, .bool bf] 52))
  go_wp2_with fail
  clear x0 x1 x2 x3 x4 x5 x6 x7 x8 x9 x10 x11 x12 x13 x14 x15 x16 x17 x18 x19 y0 y1 y2 y3 y4 y5 y6 y7 y8 y9 y10 y11 y12 y13 y14 y15 y16 y17 y18 y19
  refine (HC3.out _ _ _ (txn_below HT.out HB3.out) (txn_below HT2.out HB3.out)).mono ?_
  rintro e w4 ⟨rfl, hq⟩
  have HS4 := hide (sep_below HS3.out hq)
  have HB4 : Hid (Below w.heap.size w w4) := hide (HB3.out.trans (hq.mono HB3.out.size))
  clear hq
  obtain ⟨x0, x1, x2, x3, x4, x5, x6, x7, x8, x9, x10, x11, x12, x13, x14, x15, x16, x17, x18, x19⟩ := blk20c (sep_get HS4.out 1 rfl : w4.heap[a0]? = some (Obj.cells #[vp, vl, .int .i64 mt, .int .i64 mr, .int .i64 mn, vf, vR, .int .i64 tt, .int .i64 ur, .int .i64 tn, vr, up, ul, .int .i64 wn, uu, ug, uf, .int .i64 tr, .bool bw, .bool bf] 52))
  obtain ⟨y0, y1, y2, y3, y4, y5, y6, y7, y8, y9, y10, y11, y12, y13, y14, y15, y16, y17, y18, y19⟩ := blk20c (sep_get HS4.out 0 rfl : w4.heap[a0 + 1]? = some (Obj.cells #[xp, xl, .int .i64 mt, .int .i64 mr, .int .i64 mn, xf, xR, .int .i64 tt, .int .i64 ur, .int .i64 tn, xr, yp, yl, .int .i64 wn, yu, yg, yf, .int .i64 tr, .bool bw, .bool bf] 52))
  go_wp2_with fail
  go_ret
  exact ⟨rfl, HB4.out⟩

/-- a store's things in memory of its own -/
def stL (B : Nat) (s : St) (u1 u2 u3 u4 u5 u6 u7 u8 u9 u10 : Value) (l1 l2 : List (Int × Value)) (us : List (Value × List (Int × Value))) : List Ast := [diskA B (.agg #[u1, u2]) s.ps s.ls, freesA B u3 l1 s.m.fs, packA B (rdsL B u4 us s.rs), freesA B u5 l2 s.tm.fs, workA B (.agg #[u6, u7, .int .i64 s.tk.next, u8, u9, u10]) s.tk]

/-- a store in memory of its own -/
def StOwn (w : World) (B : Nat) (v : Value) (s : St) : Prop := ∃ p1 q1 p2 q2 p3 q3 p4 q4 p5 q5 p6 q6 p7 q7 p8 q8 p9 q9 p10 q10 l1 l2 us, us.length = s.rs.length ∧
  v = .agg #[.slice p1 s.ps.length q1, .slice p2 s.ls.length q2, .int .i64 s.m.tx, .int .i64 s.m.root, .int .i64 s.m.next, .slice p3 s.m.fs.length q3, .slice p4 s.rs.length q4, .int .i64 s.tm.tx, .int .i64 s.tm.root, .int .i64 s.tm.next, .slice p5 s.tm.fs.length q5, .slice p6 s.tk.ps.length q6, .slice p7 s.tk.ls.length q7, .int .i64 s.tk.next, .slice p8 s.tk.us.length q8, .slice p9 s.tk.gs.length q9, .slice p10 s.tk.fs.length q10, .int .i64 s.tr, .bool s.wr, .bool s.fl] ∧
  Sep B w (stL B s (.slice p1 s.ps.length q1) (.slice p2 s.ls.length q2) (.slice p3 s.m.fs.length q3) (.slice p4 s.rs.length q4) (.slice p5 s.tm.fs.length q5) (.slice p6 s.tk.ps.length q6) (.slice p7 s.tk.ls.length q7) (.slice p8 s.tk.us.length q8) (.slice p9 s.tk.gs.length q9) (.slice p10 s.tk.fs.length q10) l1 l2 us)

theorem st_of_own {w : World} {B : Nat} {v : Value} {s : St} (h : StOwn w B v s) : StAt w v s := by
  obtain ⟨p1, q1, p2, q2, p3, q3, p4, q4, p5, q5, p6, q6, p7, q7, p8, q8, p9, q9, p10, q10, l1, l2, us, hu, e, hs⟩ := h
  exact ⟨_, _, _, _, _, _, _, _, _, _, e, disk_of_own (sep_get hs 0 rfl), ⟨_, rfl, frees_of_own (sep_get hs 1 rfl)⟩, rds_of_own hu (sep_get hs 2 rfl), ⟨_, _, _, _, _, _, rfl, ⟨_, rfl, frees_of_own (sep_get hs 3 rfl)⟩, work_of_own (sep_get hs 4 rfl)⟩⟩

end Go.Proofs.YtbokjfjdjgopeaaGreatDoor
