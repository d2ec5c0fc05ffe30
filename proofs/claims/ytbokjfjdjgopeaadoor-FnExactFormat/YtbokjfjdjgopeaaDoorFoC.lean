/-
  Several texts in one. A change under way in memory, and spec.l11Same by a contract. · Frees side by side with other things; a change (eleven cells) that is laid into a variable (made by tools/septxn.py). No program. · Plain facts on disks, without any program: a new disk, a put that is taken, what falls. · spec.DiskNew and spec.WritePage by contracts.
-/
import Derived.Test.YtbokjfjdjgopeaaDoorFoA
import Derived.Test.YtbokjfjdjgopeaaDoorFoB
import Derived.Test.YtbokjfjdjgopeaaDoorMeta
import Derived.Test.YtbokjfjdjgopeaaDoorPlain9
import Derived.Test.YtbokjfjdjgopeaaDoorDiskCopyN
import Derived.Test.YtbokjfjdjgopeaaDoorDiskRetN
namespace Go.Proofs.YtbokjfjdjgopeaaDoor
open Go.RowKit

/-- a change: its base, its work, its root -/
def TxnAt (w : World) (v : Value) (m : Mt) (k : Wk) (root : Int) : Prop :=
  ∃ vr vp vl vu vg vf, v = .agg #[.int .i64 m.tx, .int .i64 m.root, .int .i64 m.next, vr, vp, vl, .int .i64 k.next, vu, vg, vf, .int .i64 root] ∧ MetaAt w (.agg #[.int .i64 m.tx, .int .i64 m.root, .int .i64 m.next, vr]) m ∧ WorkAt w (.agg #[vp, vl, .int .i64 k.next, vu, vg, vf]) k

theorem txn_below {w w' : World} {v : Value} {m : Mt} {k : Wk} {root : Int} (h : TxnAt w v m k root) (hb : Below w.heap.size w w') : TxnAt w' v m k root := by
  obtain ⟨vr, vp, vl, vu, vg, vf, e, h1, h2⟩ := h
  exact ⟨vr, vp, vl, vu, vg, vf, e, meta_below h1 hb, work_below h2 hb⟩

/-- nothing is to be committed -/
def sameT (m : Mt) (k : Wk) (root : Int) : Bool := decide (root = m.root) && decide (k.gs.length = 0)

end Go.Proofs.YtbokjfjdjgopeaaDoor

namespace Go.Proofs.YtbokjfjdjgopeaaDoor
open Go.RowKit

/-- the frees of a meta, in memory of their own -/
def freesA (B : Nat) (v : Value) (l : List (Int × Value)) (fs : List (Int × List Int)) : Ast := ⟨freeBlocks v l, fun W => OwnF W B v l fs, fun W W' h hk =>
  ⟨(rowA B 48 2 v fs.length (frs l)).loc W W' h.1 (fun k e => hk k (Or.inl e)), h.2.1, fun i p f hi hp hf => ⟨(h.2.2.1 i p f hi hp hf).1, (rowA B 3 1 p.2 f.2.length (ints f.2)).loc W W' (h.2.2.1 i p f hi hp hf).2 (fun k e => hk k (Or.inr ⟨i, p, hp, e⟩))⟩, h.2.2.2⟩⟩

/-- a change in memory of its own -/
def TxnOwn (w : World) (B : Nat) (v : Value) (m : Mt) (k : Wk) (root : Int) : Prop := ∃ (lr : List (Int × Value)) (p1 : Option Addr) (q1 : Nat) (p2 : Option Addr) (q2 : Nat) (p3 : Option Addr) (q3 : Nat) (p4 : Option Addr) (q4 : Nat) (p5 : Option Addr) (q5 : Nat) (p6 : Option Addr) (q6 : Nat),
  v = .agg #[.int .i64 m.tx, .int .i64 m.root, .int .i64 m.next, .slice p1 m.fs.length q1, .slice p2 k.ps.length q2, .slice p3 k.ls.length q3, .int .i64 k.next, .slice p4 k.us.length q4, .slice p5 k.gs.length q5, .slice p6 k.fs.length q6, .int .i64 root] ∧
  Sep B w [freesA B (.slice p1 m.fs.length q1) lr m.fs, workA B (.agg #[.slice p2 k.ps.length q2, .slice p3 k.ls.length q3, .int .i64 k.next, .slice p4 k.us.length q4, .slice p5 k.gs.length q5, .slice p6 k.fs.length q6]) k]

theorem txn_of_own {w : World} {B : Nat} {v : Value} {m : Mt} {k : Wk} {root : Int} (h : TxnOwn w B v m k root) : TxnAt w v m k root := by
  obtain ⟨lr, p1, q1, p2, q2, p3, q3, p4, q4, p5, q5, p6, q6, e, hs⟩ := h
  exact ⟨_, _, _, _, _, _, e, ⟨_, rfl, frees_of_own (sep_get hs 0 rfl)⟩, work_of_own (sep_get hs 1 rfl)⟩

abbrev set11 (W : World) (g : Nat) (u0 u1 u2 u3 u4 u5 u6 u7 u8 u9 u10 : Value) : World := (((((((((((W.setCell ⟨g, 0, none⟩ u0).setCell ⟨g, 1, none⟩ u1).setCell ⟨g, 2, none⟩ u2).setCell ⟨g, 3, none⟩ u3).setCell ⟨g, 4, none⟩ u4).setCell ⟨g, 5, none⟩ u5).setCell ⟨g, 6, none⟩ u6).setCell ⟨g, 7, none⟩ u7).setCell ⟨g, 8, none⟩ u8).setCell ⟨g, 9, none⟩ u9).setCell ⟨g, 10, none⟩ u10)

theorem sep_store11 {B : Nat} {W : World} {l : List Ast} (h : Sep B W l) (i : Nat) {g : Nat} {c0 c1 c2 c3 c4 c5 c6 c7 c8 c9 c10 : Value} {T : TypeId} (hi : l[i]? = some (cellA g (Obj.cells #[c0, c1, c2, c3, c4, c5, c6, c7, c8, c9, c10] T))) (u0 u1 u2 u3 u4 u5 u6 u7 u8 u9 u10 : Value) : Sep B (set11 W g u0 u1 u2 u3 u4 u5 u6 u7 u8 u9 u10) (l.set i (cellA g (Obj.cells #[u0, u1, u2, u3, u4, u5, u6, u7, u8, u9, u10] T))) := by
  have h1 : W.heap[g]? = some (Obj.cells #[c0, c1, c2, c3, c4, c5, c6, c7, c8, c9, c10] T) := sep_get h i hi
  have h2 := sep_lt h i hi g rfl
  have hk : Kept W (set11 W g u0 u1 u2 u3 u4 u5 u6 u7 u8 u9 u10) (fun k => k = g) := (kept_trans (kept_trans (kept_trans (kept_trans (kept_trans (kept_trans (kept_trans (kept_trans (kept_trans (kept_trans (kept_setCell _ _ _ _) (kept_setCell _ _ _ _) (fun _ _ h => h)) (kept_setCell _ _ _ _) (fun _ _ h => h)) (kept_setCell _ _ _ _) (fun _ _ h => h)) (kept_setCell _ _ _ _) (fun _ _ h => h)) (kept_setCell _ _ _ _) (fun _ _ h => h)) (kept_setCell _ _ _ _) (fun _ _ h => h)) (kept_setCell _ _ _ _) (fun _ _ h => h)) (kept_setCell _ _ _ _) (fun _ _ h => h)) (kept_setCell _ _ _ _) (fun _ _ h => h)) (kept_setCell _ _ _ _) (fun _ _ h => h))
  have e1 : (W.setCell ⟨g, 0, none⟩ u0).heap[g]? = some (Obj.cells #[u0, c1, c2, c3, c4, c5, c6, c7, c8, c9, c10] T) := heap_setCell_same _ g 0 _ _ _ h1
  have e2 : ((W.setCell ⟨g, 0, none⟩ u0).setCell ⟨g, 1, none⟩ u1).heap[g]? = some (Obj.cells #[u0, u1, c2, c3, c4, c5, c6, c7, c8, c9, c10] T) := heap_setCell_same _ g 1 _ _ _ e1
  have e3 : (((W.setCell ⟨g, 0, none⟩ u0).setCell ⟨g, 1, none⟩ u1).setCell ⟨g, 2, none⟩ u2).heap[g]? = some (Obj.cells #[u0, u1, u2, c3, c4, c5, c6, c7, c8, c9, c10] T) := heap_setCell_same _ g 2 _ _ _ e2
  have e4 : ((((W.setCell ⟨g, 0, none⟩ u0).setCell ⟨g, 1, none⟩ u1).setCell ⟨g, 2, none⟩ u2).setCell ⟨g, 3, none⟩ u3).heap[g]? = some (Obj.cells #[u0, u1, u2, u3, c4, c5, c6, c7, c8, c9, c10] T) := heap_setCell_same _ g 3 _ _ _ e3
  have e5 : (((((W.setCell ⟨g, 0, none⟩ u0).setCell ⟨g, 1, none⟩ u1).setCell ⟨g, 2, none⟩ u2).setCell ⟨g, 3, none⟩ u3).setCell ⟨g, 4, none⟩ u4).heap[g]? = some (Obj.cells #[u0, u1, u2, u3, u4, c5, c6, c7, c8, c9, c10] T) := heap_setCell_same _ g 4 _ _ _ e4
  have e6 : ((((((W.setCell ⟨g, 0, none⟩ u0).setCell ⟨g, 1, none⟩ u1).setCell ⟨g, 2, none⟩ u2).setCell ⟨g, 3, none⟩ u3).setCell ⟨g, 4, none⟩ u4).setCell ⟨g, 5, none⟩ u5).heap[g]? = some (Obj.cells #[u0, u1, u2, u3, u4, u5, c6, c7, c8, c9, c10] T) := heap_setCell_same _ g 5 _ _ _ e5
  have e7 : (((((((W.setCell ⟨g, 0, none⟩ u0).setCell ⟨g, 1, none⟩ u1).setCell ⟨g, 2, none⟩ u2).setCell ⟨g, 3, none⟩ u3).setCell ⟨g, 4, none⟩ u4).setCell ⟨g, 5, none⟩ u5).setCell ⟨g, 6, none⟩ u6).heap[g]? = some (Obj.cells #[u0, u1, u2, u3, u4, u5, u6, c7, c8, c9, c10] T) := heap_setCell_same _ g 6 _ _ _ e6
  have e8 : ((((((((W.setCell ⟨g, 0, none⟩ u0).setCell ⟨g, 1, none⟩ u1).setCell ⟨g, 2, none⟩ u2).setCell ⟨g, 3, none⟩ u3).setCell ⟨g, 4, none⟩ u4).setCell ⟨g, 5, none⟩ u5).setCell ⟨g, 6, none⟩ u6).setCell ⟨g, 7, none⟩ u7).heap[g]? = some (Obj.cells #[u0, u1, u2, u3, u4, u5, u6, u7, c8, c9, c10] T) := heap_setCell_same _ g 7 _ _ _ e7
  have e9 : (((((((((W.setCell ⟨g, 0, none⟩ u0).setCell ⟨g, 1, none⟩ u1).setCell ⟨g, 2, none⟩ u2).setCell ⟨g, 3, none⟩ u3).setCell ⟨g, 4, none⟩ u4).setCell ⟨g, 5, none⟩ u5).setCell ⟨g, 6, none⟩ u6).setCell ⟨g, 7, none⟩ u7).setCell ⟨g, 8, none⟩ u8).heap[g]? = some (Obj.cells #[u0, u1, u2, u3, u4, u5, u6, u7, u8, c9, c10] T) := heap_setCell_same _ g 8 _ _ _ e8
  have e10 : ((((((((((W.setCell ⟨g, 0, none⟩ u0).setCell ⟨g, 1, none⟩ u1).setCell ⟨g, 2, none⟩ u2).setCell ⟨g, 3, none⟩ u3).setCell ⟨g, 4, none⟩ u4).setCell ⟨g, 5, none⟩ u5).setCell ⟨g, 6, none⟩ u6).setCell ⟨g, 7, none⟩ u7).setCell ⟨g, 8, none⟩ u8).setCell ⟨g, 9, none⟩ u9).heap[g]? = some (Obj.cells #[u0, u1, u2, u3, u4, u5, u6, u7, u8, u9, c10] T) := heap_setCell_same _ g 9 _ _ _ e9
  have e11 : (((((((((((W.setCell ⟨g, 0, none⟩ u0).setCell ⟨g, 1, none⟩ u1).setCell ⟨g, 2, none⟩ u2).setCell ⟨g, 3, none⟩ u3).setCell ⟨g, 4, none⟩ u4).setCell ⟨g, 5, none⟩ u5).setCell ⟨g, 6, none⟩ u6).setCell ⟨g, 7, none⟩ u7).setCell ⟨g, 8, none⟩ u8).setCell ⟨g, 9, none⟩ u9).setCell ⟨g, 10, none⟩ u10).heap[g]? = some (Obj.cells #[u0, u1, u2, u3, u4, u5, u6, u7, u8, u9, u10] T) := heap_setCell_same _ g 10 _ _ _ e10
  refine sep_set h i hi hk _ e11 (fun k hk => ⟨Or.inl hk, ?_⟩) (Nat.le_of_lt (Nat.lt_of_le_of_lt h2.1 h2.2))
  have hk : k = g := hk
  subst hk
  simpa using h2.2

theorem below_set11 {B : Nat} {W0 W : World} {g : Nat} (h : Below B W0 W) (hg : B ≤ g) (u0 u1 u2 u3 u4 u5 u6 u7 u8 u9 u10 : Value) : Below B W0 (set11 W g u0 u1 u2 u3 u4 u5 u6 u7 u8 u9 u10) :=
  ((((((((((h.setCell (p := ⟨g, 0, none⟩) hg _).setCell (p := ⟨g, 1, none⟩) hg _).setCell (p := ⟨g, 2, none⟩) hg _).setCell (p := ⟨g, 3, none⟩) hg _).setCell (p := ⟨g, 4, none⟩) hg _).setCell (p := ⟨g, 5, none⟩) hg _).setCell (p := ⟨g, 6, none⟩) hg _).setCell (p := ⟨g, 7, none⟩) hg _).setCell (p := ⟨g, 8, none⟩) hg _).setCell (p := ⟨g, 9, none⟩) hg _).setCell (p := ⟨g, 10, none⟩) hg _

theorem blk11c {W : World} {g : Nat} {c0 c1 c2 c3 c4 c5 c6 c7 c8 c9 c10 : Value} {t : TypeId} (h : W.heap[g]? = some (Obj.cells #[c0, c1, c2, c3, c4, c5, c6, c7, c8, c9, c10] t)) : W.cell? ⟨g, 0, none⟩ = some c0 ∧ W.cell? ⟨g, 1, none⟩ = some c1 ∧ W.cell? ⟨g, 2, none⟩ = some c2 ∧ W.cell? ⟨g, 3, none⟩ = some c3 ∧ W.cell? ⟨g, 4, none⟩ = some c4 ∧ W.cell? ⟨g, 5, none⟩ = some c5 ∧ W.cell? ⟨g, 6, none⟩ = some c6 ∧ W.cell? ⟨g, 7, none⟩ = some c7 ∧ W.cell? ⟨g, 8, none⟩ = some c8 ∧ W.cell? ⟨g, 9, none⟩ = some c9 ∧ W.cell? ⟨g, 10, none⟩ = some c10 :=
  ⟨(cell_at h 0).1, (cell_at h 1).1, (cell_at h 2).1, (cell_at h 3).1, (cell_at h 4).1, (cell_at h 5).1, (cell_at h 6).1, (cell_at h 7).1, (cell_at h 8).1, (cell_at h 9).1, (cell_at h 10).1⟩

theorem blk11z {W : World} {g : Nat} {c0 c1 c2 c3 c4 c5 c6 c7 c8 c9 c10 : Value} {t : TypeId} (h : W.heap[g]? = some (Obj.cells #[c0, c1, c2, c3, c4, c5, c6, c7, c8, c9, c10] t)) : W.frozen? ⟨g, 0, none⟩ = false ∧ W.frozen? ⟨g, 1, none⟩ = false ∧ W.frozen? ⟨g, 2, none⟩ = false ∧ W.frozen? ⟨g, 3, none⟩ = false ∧ W.frozen? ⟨g, 4, none⟩ = false ∧ W.frozen? ⟨g, 5, none⟩ = false ∧ W.frozen? ⟨g, 6, none⟩ = false ∧ W.frozen? ⟨g, 7, none⟩ = false ∧ W.frozen? ⟨g, 8, none⟩ = false ∧ W.frozen? ⟨g, 9, none⟩ = false ∧ W.frozen? ⟨g, 10, none⟩ = false :=
  ⟨(cell_at h 0).2, (cell_at h 1).2, (cell_at h 2).2, (cell_at h 3).2, (cell_at h 4).2, (cell_at h 5).2, (cell_at h 6).2, (cell_at h 7).2, (cell_at h 8).2, (cell_at h 9).2, (cell_at h 10).2⟩
end Go.Proofs.YtbokjfjdjgopeaaDoor

namespace Go.Proofs.YtbokjfjdjgopeaaDoor
open Go.RowKit

/-- the pages of a new disk -/
def newP (n : Int) : List ByteArray := if 4 ≤ n ∧ n ≤ 40 then List.replicate n.toNat ⟨#[]⟩ else []

/-- whether a put is taken -/
def writeOk (ps : List ByteArray) (ls : List (Int × ByteArray)) (page : Int) (text : ByteArray) : Bool := diskOkB ps ls && decide (0 ≤ page ∧ page ≤ (ps.length : Int) - 1) && decide (text.size ≤ 240) && decide (ls.length ≠ 200)

/-- what is late behind it -/
def writeL (ps : List ByteArray) (ls : List (Int × ByteArray)) (page : Int) (text : ByteArray) : List (Int × ByteArray) := if writeOk ps ls page text = true then ls ++ [(page, text)] else ls

theorem writeL_le {ps : List ByteArray} {ls : List (Int × ByteArray)} {page : Int} {text : ByteArray} (h : ls.length ≤ 1048576) : (writeL ps ls page text).length ≤ 1048576 := by
  rw [writeL]
  split
  · next hw =>
    rw [writeOk] at hw
    simp only [Bool.and_eq_true] at hw
    have := (diskOk_yes hw.1.1.1).2.2.2.2
    simp
    omega
  · exact h

/-- the text that is kept of the one at the place k -/
def fallT (torn : Int) (k : Nat) (t : ByteArray) : ByteArray := if (k : Int) = torn then t.extract 0 (t.size / 2) else t

/-- the pages behind the first k of what was late -/
def fallK (left : List Bool) (torn : Int) (ps : List ByteArray) (ls : List (Int × ByteArray)) : Nat → List ByteArray
  | 0 => ps
  | k + 1 => match ls[k]? with
    | some p => if left.getD k false = true then putD (fallK left torn ps ls k) (p.1, fallT torn k p.2) else fallK left torn ps ls k
    | none => fallK left torn ps ls k

theorem fallK_length (left : List Bool) (torn : Int) (ps : List ByteArray) (ls : List (Int × ByteArray)) (k : Nat) : (fallK left torn ps ls k).length = ps.length := by
  induction k with
  | zero => rfl
  | succ k ih =>
    rw [fallK]
    split
    · split
      · rw [putD_length, ih]
      · exact ih
    · exact ih

theorem fallK_put {left : List Bool} {torn : Int} {ps : List ByteArray} {ls : List (Int × ByteArray)} {k : Nat} {q : Int} {t : ByteArray} (h : ls[k]? = some (q, t)) (hl : left.getD k false = true) : fallK left torn ps ls (k + 1) = putD (fallK left torn ps ls k) (q, fallT torn k t) := by
  rw [fallK, h]
  exact if_pos hl

theorem fallK_lost {left : List Bool} {torn : Int} {ps : List ByteArray} {ls : List (Int × ByteArray)} {k : Nat} (hl : left.getD k false = false) : fallK left torn ps ls (k + 1) = fallK left torn ps ls k := by
  rw [fallK]
  split
  · exact if_neg (by rw [hl]; decide)
  · rfl

/-- what falls: the pages, and what is late -/
def fallP (left : List Bool) (torn : Int) (ps : List ByteArray) (ls : List (Int × ByteArray)) : List ByteArray := if diskOkB ps ls = true then fallK left torn ps ls ls.length else ps
def fallL (ps : List ByteArray) (ls : List (Int × ByteArray)) : List (Int × ByteArray) := if diskOkB ps ls = true then [] else ls

end Go.Proofs.YtbokjfjdjgopeaaDoor

namespace Go.Proofs.YtbokjfjdjgopeaaDoor
open Go.RowKit

theorem writeOk_no {ps : List ByteArray} {ls : List (Int × ByteArray)} {page : Int} {text : ByteArray} (h : ¬ (diskOkB ps ls = true ∧ (0 ≤ page ∧ page ≤ (ps.length : Int) - 1) ∧ text.size ≤ 240 ∧ ls.length ≠ 200)) : writeOk ps ls page text = false ∧ writeL ps ls page text = ls := by
  have e : writeOk ps ls page text = false := by
    rw [← Bool.not_eq_true, writeOk]
    simp only [Bool.and_eq_true, decide_eq_true_eq]
    intro hh
    exact h ⟨hh.1.1.1, hh.1.1.2, hh.1.2, hh.2⟩
  exact ⟨e, by rw [writeL, e]; rfl⟩

theorem writeOk_yes {ps : List ByteArray} {ls : List (Int × ByteArray)} {page : Int} {text : ByteArray} (h : diskOkB ps ls = true) (h1 : 0 ≤ page ∧ page ≤ (ps.length : Int) - 1) (h2 : text.size ≤ 240) (h3 : ls.length ≠ 200) : writeOk ps ls page text = true ∧ writeL ps ls page text = ls ++ [(page, text)] := by
  have e : writeOk ps ls page text = true := by
    rw [writeOk]
    simp only [Bool.and_eq_true, decide_eq_true_eq]
    exact ⟨⟨⟨h, h1⟩, h2⟩, h3⟩
  exact ⟨e, by rw [writeL, e]; rfl⟩

theorem puts_snoc (ls : List (Int × ByteArray)) (p : Int) (t : ByteArray) : puts ls ++ [.int .i64 p, .string t] = puts (ls ++ [(p, t)]) := by simp [puts]

set_option maxHeartbeats 1000000 in
theorem specDiskNew_any (n : Int) (w : World) :
    Calls Tryd.prog 9 #[.int .i64 n] w fun e w' => ∃ v', e = .returned (.tuple #[v', .bool (decide (4 ≤ n ∧ n ≤ 40))]) ∧ DiskOwn w' w.heap.size v' (newP n) [] ∧ Below w.heap.size w w' := by
  obtain ⟨i0, hi, hz0, hz1, hz2⟩ := info_parts Tryd.infoStrR
  have HC := hide (l01In_any n 4 40)
  by_cases hin : 4 ≤ n ∧ n ≤ 40
  · obtain ⟨k, rfl⟩ := Int.eq_ofNat_of_zero_le (show 0 ≤ n by omega)
    have hk : k ≤ 40 := by omega
    have HN : Hid (newP (k : Int) = List.replicate k ⟨#[]⟩) := hide (by rw [newP, if_pos hin, Int.toNat_natCast])
    rw [decide_eq_true hin] at HC ⊢
    clear hin
    go_enter Tryd.func9, Tryd.ntmps9
    go_wp2_with fail
    refine (HC.out _).mono ?_
    rintro e w1 ⟨rfl, rfl⟩
    go_wp2_with (at_make; refine wpList_make_full _ rfl _ _ 22 rfl (w.heap.size + 1) 9 i0 (.string ⟨#[]⟩) 1 Tryd.underlying22 hi hz0 hz1 .i64 .i64 _ _ k rfl rfl rfl rfl (by rw [hz2]; omega) (by unfold maxLen; omega) (by simp) ?_)
    intro w2 hown2' hg2
    have hown2 : w2.ownsRow (w.heap.size + 1) 9 1 (.slice (some ⟨w.heap.size + 1, 0, none⟩) k k) k (strs (List.replicate k ⟨#[]⟩)) := own_n hown2' rfl (strs_made k)
    have hblk := (hg2.block w.heap.size (by simp) (by simp)).trans (heap_alloc_new w (Obj.cells #[.slice none 0 0, .slice none 0 0] 25))
    have c0 : w2.cell? ⟨w.heap.size, 0, none⟩ = some (.slice none 0 0) := (cell_at hblk 0).1
    have c1 : w2.cell? ⟨w.heap.size, 1, none⟩ = some (.slice none 0 0) := (cell_at hblk 1).1
    have f0 := (cell_at hblk 0).2
    have f1 := (cell_at hblk 1).2
    have hb2 : Below w.heap.size w w2 := ((Below.refl w.heap.size w).alloc (Nat.le_refl _) _).grown hg2 (by simp) (fun j hj => by cases hj)
    have HBk := hide hblk
    have HO := hide hown2
    have HB := hide hb2
    clear hown2' hg2 hblk hown2 hb2
    go_wp2_with fail
    have y1 : (w2.setCell ⟨w.heap.size, 0, none⟩ (.slice (some ⟨w.heap.size + 1, 0, none⟩) k k)).heap[w.heap.size]? = some (Obj.cells #[.slice (some ⟨w.heap.size + 1, 0, none⟩) k k, .slice none 0 0] 25) := heap_setCell_same _ _ 0 _ _ _ HBk.out
    have y2 : ((w2.setCell ⟨w.heap.size, 0, none⟩ (.slice (some ⟨w.heap.size + 1, 0, none⟩) k k)).setCell ⟨w.heap.size, 1, none⟩ (.slice none 0 0)).heap[w.heap.size]? = some (Obj.cells #[.slice (some ⟨w.heap.size + 1, 0, none⟩) k k, .slice none 0 0] 25) := heap_setCell_same _ _ 1 _ _ _ y1
    have k2 : Kept w2 ((w2.setCell ⟨w.heap.size, 0, none⟩ (.slice (some ⟨w.heap.size + 1, 0, none⟩) k k)).setCell ⟨w.heap.size, 1, none⟩ (.slice none 0 0)) (fun j => j = w.heap.size) := kept_trans (kept_setCell _ _ _ _) (kept_setCell _ _ _ _) (fun j _ h => h)
    refine bodyPost_ret (v := .tuple #[.agg #[.slice (some ⟨w.heap.size + 1, 0, none⟩) k k, .slice none 0 0], .bool true]) (by simp [results, Tryd.results9, go_sem, (cell_at y2 0).1, (cell_at y2 1).1]) rfl ⟨_, rfl, ?_, (HB.out.setCell (Nat.le_refl _) _).setCell (Nat.le_refl _) _⟩
    rw [HN.out]
    refine ⟨_, _, rfl, ?_, ⟨rfl, Or.inl ⟨rfl, rfl⟩⟩⟩
    rw [List.length_replicate]
    exact own_down (own_kept HO.out k2 (fun j hj => by have := (HO.out.lt j hj).1; omega)) (by omega)
  · rw [decide_eq_false hin] at HC ⊢
    have HN : Hid (newP n = []) := hide (by rw [newP, if_neg hin])
    clear hin
    go_enter Tryd.func9, Tryd.ntmps9
    go_wp2_with fail
    refine (HC.out _).mono ?_
    rintro e w1 ⟨rfl, rfl⟩
    go_wp2_with fail
    have hblk := heap_alloc_new w (Obj.cells #[.slice none 0 0, .slice none 0 0] 25)
    refine bodyPost_ret (v := .tuple #[.agg #[.slice none 0 0, .slice none 0 0], .bool false]) (by simp [results, Tryd.results9, go_sem, (cell_at hblk 0).1, (cell_at hblk 1).1]) rfl ⟨_, rfl, ?_, (Below.refl w.heap.size w).alloc (Nat.le_refl _) _⟩
    rw [HN.out]
    exact ⟨_, _, rfl, ⟨rfl, Or.inl ⟨rfl, rfl⟩⟩, ⟨rfl, Or.inl ⟨rfl, rfl⟩⟩⟩

set_option maxHeartbeats 2000000 in
set_option maxRecDepth 100000 in
theorem specWritePage_any (v : Value) (ps : List ByteArray) (ls : List (Int × ByteArray)) (page : Int) (text : ByteArray) (ht : text.size ≤ 1048576) (hp : ps.length ≤ 1048576) (hl : ls.length ≤ 1048576) (hps : ∀ s ∈ ps, s.size ≤ 1048576) (hls : ∀ p ∈ ls, p.2.size ≤ 1048576) (w : World) (hd : DiskAt w v ps ls) :
    Calls Tryd.prog 11 #[v, .int .i64 page, .string text] w fun e w' => ∃ v', e = .returned (.tuple #[v', .bool (writeOk ps ls page text)]) ∧ DiskOwn w' w.heap.size v' ps (writeL ps ls page text) ∧ Below w.heap.size w w' := by
  obtain ⟨i1, hj, hy0, hy1, hy2⟩ := info_parts Tryd.infoPut
  have HCo := hide (fun u wx h => specCopy_any u ps ls hp hl wx h)
  have HOk := hide (fun u wx h => specDiskOk_any u ps ls hp hl hps hls wx h)
  have HIn := hide (l01In_any page 0 ((ps.length : Int) - 1))
  have HD := hide hd
  obtain ⟨vp, vl, rfl, h1, h2⟩ := hd
  obtain ⟨x1, c1, rfl⟩ : ∃ a cap, vp = .slice a ps.length cap := by obtain ⟨-, a, cap, e, -⟩ := h1; exact ⟨a, cap, e⟩
  obtain ⟨x2, c2, rfl⟩ : ∃ a cap, vl = .slice a ls.length cap := by obtain ⟨-, a, cap, e, -⟩ := h2; exact ⟨a, cap, e⟩
  clear h1 h2 hps hls
  obtain ⟨w0, hw0⟩ : ∃ w0, w0 = (w.alloc (Obj.cells #[.slice x1 ps.length c1, .slice x2 ls.length c2] 25)).alloc (Obj.cells #[.slice none 0 0, .slice none 0 0] 25) := ⟨_, rfl⟩
  obtain ⟨q0, q1, hs0⟩ := two_allocs w (Obj.cells #[.slice x1 ps.length c1, .slice x2 ls.length c2] 25) (Obj.cells #[.slice none 0 0, .slice none 0 0] 25)
  rw [← hw0] at q0 q1 hs0
  have HB_w0 : Hid (Below w.heap.size w w0) := hide (by rw [hw0]; exact ((Below.refl w.heap.size w).alloc (Nat.le_refl _) _).alloc (by simp) _)
  obtain ⟨a0, ha0⟩ : ∃ a, a = w.heap.size := ⟨_, rfl⟩
  obtain ⟨a1, ha1⟩ : ∃ a, a = a0 + 1 := ⟨_, rfl⟩
  rw [← ha0] at q0 q1 hs0
  rw [← ha1] at q1
  have Hbox_w0 := hide (held_var q0)
  have Hres_w0 := hide (held_var q1)
  have HA := hide (⟨ha0, ha1, hs0⟩ : a0 = w.heap.size ∧ a1 = a0 + 1 ∧ w0.heap.size = a0 + 2)
  clear q0 q1 hs0
  go_enter Tryd.func11, Tryd.ntmps11
  go_wp2_with fail
  rw [← hw0, ← ha0, ← ha1]
  clear hw0 ha0 ha1
  refine (HCo.out _ _ (disk_below HD.out HB_w0.out)).mono ?_
  rintro e w1 ⟨u1, rfl, hown, hb⟩
  have HZ1 : Hid (w0.heap.size ≤ w1.heap.size) := hide hb.size
  have HB_w1 : Hid (Below w.heap.size w w1) := hide (HB_w0.out.trans (hb.mono HB_w0.out.size))
  have Hbox_w1 := hide (held_below Hbox_w0.out hb)
  have Hres_w1 := hide (held_below Hres_w0.out hb)
  have Hd_w1 := hide (held_disk hown)
  obtain ⟨x3, c3, y3, d3, rfl⟩ := disk_form hown
  clear hown hb
  obtain ⟨g, hg⟩ : ∃ g, g = w1.heap.size := ⟨_, rfl⟩
  obtain ⟨w2, hnw⟩ : ∃ wx, wx = w1.alloc (Obj.cells #[.slice x3 ps.length c3, .slice y3 ls.length d3] 25) := ⟨_, rfl⟩
  have hnv := new_var w1 (.slice x3 ps.length c3) (.slice y3 ls.length d3) 25
  rw [← hnw, ← hg] at hnv
  have hbv : Below w1.heap.size w1 w2 := by rw [← hg]; exact hnv.1
  have Hg_w2 := hide hnv.2
  have HGt : Hid (w1.heap.size = g) := hide hg.symm
  have HB_w2 : Hid (Below w.heap.size w w2) := hide (HB_w1.out.trans (hbv.mono HB_w1.out.size))
  have Hbox_w2 := hide (held_below Hbox_w1.out hbv)
  have Hres_w2 := hide (held_below Hres_w1.out hbv)
  have Hd_w2 := hide (held_below Hd_w1.out hbv)
  clear hnv hbv
  obtain ⟨cb0, cb1⟩ := held_cells Hbox_w2.out
  rw [hnw] at cb0 cb1
  go_wp2_with fail
  rw [← hnw, ← hg]
  clear hnw hg cb0 cb1
  refine (HOk.out _ _ (disk_below HD.out HB_w2.out)).mono ?_
  rintro e w3 ⟨rfl, hb⟩
  have HB_w3 : Hid (Below w.heap.size w w3) := hide (HB_w2.out.trans (hb.mono HB_w2.out.size))
  have Hbox_w3 := hide (held_below Hbox_w2.out hb)
  have Hres_w3 := hide (held_below Hres_w2.out hb)
  have Hd_w3 := hide (held_below Hd_w2.out hb)
  have Hg_w3 := hide (held_below Hg_w2.out hb)
  clear hb
  obtain ⟨cb0, cb1⟩ := held_cells Hbox_w3.out
  obtain ⟨cg0, cg1⟩ := held_cells Hg_w3.out
  obtain ⟨cr0, cr1⟩ := held_cells Hres_w3.out
  have fr0 := (cell_at Hres_w3.out.is 0).2
  have fr1 := (cell_at Hres_w3.out.is 1).2
  by_cases hok : diskOkB ps ls = true
  · rw [hok]
    by_cases hin : 0 ≤ page ∧ page ≤ (ps.length : Int) - 1
    · rw [decide_eq_true hin] at HIn
      go_wp2_with fail
      refine (HIn.out _).mono ?_
      rintro e w4 ⟨rfl, rfl⟩
      by_cases ht2 : text.size ≤ 240
      · by_cases h200 : ls.length = 200
        · have HNo := hide (writeOk_no (page := page) (text := text) (ps := ps) (ls := ls) (fun h => h.2.2.2 h200))
          have hdl : decide ((240 : Int) < (text.size : Int)) = false := by simp; omega
          have hd2 : ((ls.length : Int) = 200) := by omega
          go_wp2_with fail
          have hfin := ret_disk Hres_w3.out.is Hd_w3.out.is.1 (by have := HA.out; omega) (by have := HA.out; omega) HB_w3.out
          rw [h200] at hfin
          refine bodyPost_ret (v := .tuple #[.agg #[.slice x3 ps.length c3, .slice y3 200 d3], .bool false]) (by simp [results, Tryd.results11, go_sem, hfin.1, hfin.2.1]) rfl ⟨_, by rw [HNo.out.1], by rw [HNo.out.2]; exact hfin.2.2.1, hfin.2.2.2⟩
        · have HYes := hide (writeOk_yes hok hin ht2 h200)
          have hdl : decide ((240 : Int) < (text.size : Int)) = false := by simp; omega
          have hd2 : ¬ ((ls.length : Int) = 200) := by omega
          obtain ⟨o1, o2⟩ := disk_rows Hd_w3.out.is.1
          have HO1 := hide o1
          have HU : Hid (∀ k, (Value.slice y3 ls.length d3).ownBlock = some k → w0.heap.size ≤ k ∧ k < w1.heap.size) := hide (fun k hk => ⟨(o2.lt k hk).1, Hd_w3.out.is.2 k ⟨_, _, rfl, Or.inr hk⟩⟩)
          clear o1
          go_wp2_with (at_builtin; refine wpList_append_own _ rfl _ _ 23 rfl w0.heap.size 52 i1 (.agg #[.int .i64 0, .string ⟨#[]⟩]) 2 24 Tryd.underlying23 hj hy0 hy1 hy2 rfl (by decide) _ _ _ rfl (o2.alloc _) ⟨w3.heap.size, 0, none⟩ 1 1 [.int .i64 page, .string text] rfl rfl ?c1 ?c2 ?c3 ?c4 ?c5 ?_)
          case c1 => exact World.news_of_block (cs := #[.int .i64 page, .string text]) (t := 52) (fr := (0, 0)) (heap_alloc_new w3 _)
          case c2 => intro u hu; simp at hu; rcases hu with rfl | rfl <;> rfl
          case c3 => unfold maxLen; omega
          case c4 => omega
          case c5 => have := Hd_w3.out.le; have := HZ1.out; simp; omega
          intro v5 w5 hown5 hg5 _
          obtain ⟨y5, d5, rfl⟩ := own_slice hown5
          rw [puts_snoc] at hown5
          have hA := HA.out
          have hu := HU.out
          have hz := HZ1.out
          have hgt := HGt.out
          have hle := Hg_w3.out.le
          have hkeep : ∀ k, k < w3.heap.size → (∀ j, (Value.slice y3 ls.length d3).ownBlock = some j → k ≠ j) → w5.heap[k]? = w3.heap[k]? := fun k hk hn => (hg5.block k (by simp; omega) (fun e => hn k e.symm rfl)).trans (Below.heap_alloc w3 _ k hk)
          have hr5 : w5.heap[a1]? = some (Obj.cells #[.slice none 0 0, .slice none 0 0] 25) := (hkeep a1 Hres_w3.out.le (fun j hj => by have := hu j hj; omega)).trans Hres_w3.out.is
          have hg5' : w5.heap[g]? = some (Obj.cells #[.slice x3 ps.length c3, .slice y3 ls.length d3] 25) := (hkeep g Hg_w3.out.le (fun j hj => by have := hu j hj; omega)).trans Hg_w3.out.is
          have ho5 : w5.ownsRow w0.heap.size 9 1 (.slice x3 ps.length c3) ps.length (strs ps) := own_apart (HO1.out.alloc _) (o2.alloc _) Tryd.types_part hg5
          obtain ⟨w6, hw6⟩ : ∃ w6, w6 = w5.setCell ⟨g, 1, none⟩ (.slice y5 (ls.length + 1) d5) := ⟨_, rfl⟩
          have e6 : w6.heap[g]? = some (Obj.cells #[.slice x3 ps.length c3, .slice y5 (ls.length + 1) d5] 25) := by rw [hw6]; exact heap_setCell_same _ g 1 _ _ _ hg5'
          have r6 : w6.heap[a1]? = some (Obj.cells #[.slice none 0 0, .slice none 0 0] 25) := by rw [hw6, heap_setCell_other _ ⟨g, 1, none⟩ a1 _ (by show a1 ≠ g; omega)]; exact hr5
          have hd6 : DiskOwn w6 w0.heap.size (.agg #[.slice x3 ps.length c3, .slice y5 (ls.length + 1) d5]) ps (ls ++ [(page, text)]) := by
            have k6 : Kept w5 w6 (fun k => k = g) := by rw [hw6]; exact kept_setCell _ _ _ _
            refine ⟨_, _, rfl, own_kept ho5 k6 (fun k hk e => own_ne_type ho5 hg5' (by decide) (by rw [hk, e])), ?_⟩
            rw [List.length_append]
            exact own_kept hown5 k6 (fun k hk e => own_ne_type hown5 hg5' (by decide) (by rw [hk, e]))
          have hb6 : Below w.heap.size w w6 := by
            rw [hw6]
            exact (((HB_w3.out.alloc HB_w3.out.size _).grown hg5 (by simp; have := HB_w3.out.size; omega) (fun k hk => by have := hu k hk; omega))).setCell (by show _ ≤ g; omega) _
          have cg50 : w5.cell? ⟨g, 0, none⟩ = some (.slice x3 ps.length c3) := (cell_at hg5' 0).1
          have cg51 : w5.cell? ⟨g, 1, none⟩ = some (.slice y3 ls.length d3) := (cell_at hg5' 1).1
          have fg51 := (cell_at hg5' 1).2
          have c60 : w6.cell? ⟨g, 0, none⟩ = some (.slice x3 ps.length c3) := (cell_at e6 0).1
          have c61 : w6.cell? ⟨g, 1, none⟩ = some (.slice y5 (ls.length + 1) d5) := (cell_at e6 1).1
          have d60 : w6.cell? ⟨a1, 0, none⟩ = some (.slice none 0 0) := (cell_at r6 0).1
          have d61 : w6.cell? ⟨a1, 1, none⟩ = some (.slice none 0 0) := (cell_at r6 1).1
          have f60 := (cell_at r6 0).2
          have f61 := (cell_at r6 1).2
          have HR6 := hide r6
          have HD6 := hide hd6
          have HB6 := hide hb6
          have HW6 := hide hw6
          rw [hw6] at c60 c61 d60 d61 f60 f61
          clear hown5 hg5 hkeep hr5 hg5' ho5 e6 r6 hd6 hb6 hw6 o2 hA hu hz hgt hle cb0 cb1 cg0 cg1 cr0 cr1 fr0 fr1
          go_wp2_with fail
          rw [← HW6.out]
          have hfin := ret_disk HR6.out HD6.out (by have := HA.out; omega) (by have := HA.out; omega) HB6.out
          refine bodyPost_ret (v := .tuple #[.agg #[.slice x3 ps.length c3, .slice y5 (ls.length + 1) d5], .bool true]) (by simp [results, Tryd.results11, go_sem, hfin.1, hfin.2.1]) rfl ⟨_, by rw [HYes.out.1], by rw [HYes.out.2]; exact hfin.2.2.1, hfin.2.2.2⟩
      · have HNo := hide (writeOk_no (page := page) (text := text) (ps := ps) (ls := ls) (fun h => ht2 h.2.2.1))
        have hdl : decide ((240 : Int) < (text.size : Int)) = true := by simp; omega
        go_wp2_with fail
        have hfin := ret_disk Hres_w3.out.is Hd_w3.out.is.1 (by have := HA.out; omega) (by have := HA.out; omega) HB_w3.out
        refine bodyPost_ret (v := .tuple #[.agg #[.slice x3 ps.length c3, .slice y3 ls.length d3], .bool false]) (by simp [results, Tryd.results11, go_sem, hfin.1, hfin.2.1]) rfl ⟨_, by rw [HNo.out.1], by rw [HNo.out.2]; exact hfin.2.2.1, hfin.2.2.2⟩
    · rw [decide_eq_false hin] at HIn
      have HNo := hide (writeOk_no (text := text) (ls := ls) (fun h => hin h.2.1))
      go_wp2_with fail
      refine (HIn.out _).mono ?_
      rintro e w4 ⟨rfl, rfl⟩
      go_wp2_with fail
      have hfin := ret_disk Hres_w3.out.is Hd_w3.out.is.1 (by have := HA.out; omega) (by have := HA.out; omega) HB_w3.out
      refine bodyPost_ret (v := .tuple #[.agg #[.slice x3 ps.length c3, .slice y3 ls.length d3], .bool false]) (by simp [results, Tryd.results11, go_sem, hfin.1, hfin.2.1]) rfl ⟨_, by rw [HNo.out.1], by rw [HNo.out.2]; exact hfin.2.2.1, hfin.2.2.2⟩
  · have hok' : diskOkB ps ls = false := by rw [← Bool.not_eq_true]; exact hok
    have HNo := hide (writeOk_no (page := page) (text := text) (fun h => hok h.1))
    rw [hok']
    go_wp2_with fail
    have hfin := ret_disk Hres_w3.out.is Hd_w3.out.is.1 (by have := HA.out; omega) (by have := HA.out; omega) HB_w3.out
    refine bodyPost_ret (v := .tuple #[.agg #[.slice x3 ps.length c3, .slice y3 ls.length d3], .bool false]) (by simp [results, Tryd.results11, go_sem, hfin.1, hfin.2.1]) rfl ⟨_, by rw [HNo.out.1], by rw [HNo.out.2]; exact hfin.2.2.1, hfin.2.2.2⟩
end Go.Proofs.YtbokjfjdjgopeaaDoor
