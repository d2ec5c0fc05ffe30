/-
  Facts and contracts that the law's own text rests on, by their texts' names: SpecTxn, SepTxn, SepFree, RdRow, NextPlain.
-/
import Derived.BigQuiet
import Derived.Deep.AppendLies
import Derived.Deep.RegionHeld
import Derived.Maps.AppendAt
import Derived.WalkKit
import Derived.Test.YtdbpbhemnnffeaaGreatDoorXw9
import Derived.Test.YtdbpbhemnnffeaaGreatDoorXw2
import Derived.Test.YtdbpbhemnnffeaaGreatDoorXw1
import Derived.Test.YtdbpbhemnnffeaaGreatDoorXw8
namespace Go.Proofs.YtdbpbhemnnffeaaGreatDoor
open Go.RowKit
def TxnAt (w : World) (v : Value) (m : Mt) (k : Wk) (root : Int) : Prop :=
  ∃ vr vp vl vu vg vf, v = .agg #[.int .i64 m.tx, .int .i64 m.root, .int .i64 m.next, vr, vp, vl, .int .i64 k.next, vu, vg, vf, .int .i64 root] ∧ MetaAt w (.agg #[.int .i64 m.tx, .int .i64 m.root, .int .i64 m.next, vr]) m ∧ WorkAt w (.agg #[vp, vl, .int .i64 k.next, vu, vg, vf]) k
theorem txn_below {w w' : World} {v : Value} {m : Mt} {k : Wk} {root : Int} (h : TxnAt w v m k root) (hb : Below w.heap.size w w') : TxnAt w' v m k root := by
  obtain ⟨vr, vp, vl, vu, vg, vf, e, h1, h2⟩ := h
  exact ⟨vr, vp, vl, vu, vg, vf, e, meta_below h1 hb, work_below h2 hb⟩
open Go.RowKit
def freesA (B : Nat) (v : Value) (l : List (Int × Value)) (fs : List (Int × List Int)) : Ast := ⟨freeBlocks v l, fun W => OwnF W B v l fs, fun W W' h hk =>
  ⟨(rowA B 149 2 v fs.length (frs l)).loc W W' h.1 (fun k e => hk k (Or.inl e)), h.2.1, fun i p f hi hp hf => ⟨(h.2.2.1 i p f hi hp hf).1, (rowA B 3 1 p.2 f.2.length (ints f.2)).loc W W' (h.2.2.1 i p f hi hp hf).2 (fun k e => hk k (Or.inr ⟨i, p, hp, e⟩))⟩, h.2.2.2⟩⟩
def TxnOwn (w : World) (B : Nat) (v : Value) (m : Mt) (k : Wk) (root : Int) : Prop := ∃ (lr : List (Int × Value)) (p1 : Option Addr) (q1 : Nat) (p2 : Option Addr) (q2 : Nat) (p3 : Option Addr) (q3 : Nat) (p4 : Option Addr) (q4 : Nat) (p5 : Option Addr) (q5 : Nat) (p6 : Option Addr) (q6 : Nat),
  v = .agg #[.int .i64 m.tx, .int .i64 m.root, .int .i64 m.next, .slice p1 m.fs.length q1, .slice p2 k.ps.length q2, .slice p3 k.ls.length q3, .int .i64 k.next, .slice p4 k.us.length q4, .slice p5 k.gs.length q5, .slice p6 k.fs.length q6, .int .i64 root] ∧
  Sep B w [freesA B (.slice p1 m.fs.length q1) lr m.fs, workA B (.agg #[.slice p2 k.ps.length q2, .slice p3 k.ls.length q3, .int .i64 k.next, .slice p4 k.us.length q4, .slice p5 k.gs.length q5, .slice p6 k.fs.length q6]) k]
abbrev set11 (W : World) (g : Nat) (u0 u1 u2 u3 u4 u5 u6 u7 u8 u9 u10 : Value) : World := (((((((((((W.setCell ⟨g, 0, none⟩ u0).setCell ⟨g, 1, none⟩ u1).setCell ⟨g, 2, none⟩ u2).setCell ⟨g, 3, none⟩ u3).setCell ⟨g, 4, none⟩ u4).setCell ⟨g, 5, none⟩ u5).setCell ⟨g, 6, none⟩ u6).setCell ⟨g, 7, none⟩ u7).setCell ⟨g, 8, none⟩ u8).setCell ⟨g, 9, none⟩ u9).setCell ⟨g, 10, none⟩ u10)
theorem sep_store11 {B : Nat} {W : World} {l : List Ast} (h : Sep B W l) (i : Nat) {g : Nat} {c0 c1 c2 c3 c4 c5 c6 c7 c8 c9 c10 : Value} {T : TypeId} (hi : l[i]? = some (cellA g (Obj.cells #[c0, c1, c2, c3, c4, c5, c6, c7, c8, c9, c10] T))) (u0 u1 u2 u3 u4 u5 u6 u7 u8 u9 u10 : Value) : Sep B (set11 W g u0 u1 u2 u3 u4 u5 u6 u7 u8 u9 u10) (l.set i (cellA g (Obj.cells #[u0, u1, u2, u3, u4, u5, u6, u7, u8, u9, u10] T))) := by
  have h1 : W.heap[g]? = some (Obj.cells #[c0, c1, c2, c3, c4, c5, c6, c7, c8, c9, c10] T) := sep_get h i hi
  have h2 := sep_lt h i hi g rfl
  have hk : Kept W (set11 W g u0 u1 u2 u3 u4 u5 u6 u7 u8 u9 u10) (fun k => k = g) := (kept_trans (kept_trans (kept_trans (kept_trans (kept_trans (kept_trans (kept_trans (kept_trans (kept_trans (kept_trans (kept_setCell _ _ _ _) (kept_setCell _ _ _ _) (fun _ _ h => h)) (kept_setCell _ _ _ _) (fun _ _ h => h)) (kept_setCell _ _ _ _) (fun _ _ h => h)) (kept_setCell _ _ _ _) (fun _ _ h => h)) (kept_setCell _ _ _ _) (fun _ _ h => h)) (kept_setCell _ _ _ _) (fun _ _ h => h)) (kept_setCell _ _ _ _) (fun _ _ h => h)) (kept_setCell _ _ _ _) (fun _ _ h => h)) (kept_setCell _ _ _ _) (fun _ _ h => h)) (kept_setCell _ _ _ _) (fun _ _ h => h))
  have e1 : (W.setCell ⟨g, 0, none⟩ u0).heap[g]? = some (Obj.cells #[u0, c1, c2, c3, c4, c5, c6, c7, c8, c9, c10] T) := heap_setCell_same _ g 0 _ _ _ h1
  have e2 : ((W.setCell ⟨g, 0, none⟩ u0).setCell ⟨g, 1, none⟩ u1).heap[g]? = some (Obj.cells #[u0, u1, c2, c3, c4, c5, c6, c7, c8, c9, c10] T) := heap_setCell_same _ g 1 _ _ _ e1
  have e3 : (((W.setCell ⟨g, 0, none⟩ u0).setCell ⟨g, 1, none⟩ u1).setCell ⟨g, 2, none⟩ u2).heap[g]? = some (Obj.cells #[u0, u1, u2, c3, c4, c5, c6, c7, c8, c9, c10] T) := heap_setCell_same _ g 2 _ _ _ e2
  have e4 : ((((W.setCell ⟨g, 0, none⟩ u0).setCell ⟨g, 1, none⟩ u1).setCell ⟨g, 2, none⟩ u2).setCell ⟨g, 3, none⟩ u3).heap[g]? = some (Obj.cells #[u0, u1, u2, u3, c4, c5, c6, c7, c8, c9, c10] T) := heap_setCell_same _ g 3 _ _ _ e3
  have e5 : (((((W.setCell ⟨g, 0, none⟩ u0).setCell ⟨g, 1, none⟩ u1).setCell ⟨g, 2, none⟩ u2).setCell ⟨g, 3, none⟩ u3).setCell ⟨g, 4, none⟩ u4).heap[g]? = some (Obj.cells #[u0, u1, u2, u3, u4, c5, c6, c7, c8, c9, c10] T) := heap_setCell_same _ g 4 _ _ _ e4
  have e6 : ((((((W.setCell ⟨g, 0, none⟩ u0).setCell ⟨g, 1, none⟩ u1).setCell ⟨g, 2, none⟩ u2).setCell ⟨g, 3, none⟩ u3).setCell ⟨g, 4, none⟩ u4).setCell ⟨g, 5, none⟩ u5).heap[g]? = some (Obj.cells #[u0, u1, u2, u3, u4, u5, c6, c7, c8, c9, c10] T) := heap_setCell_same _ g 5 _ _ _ e5
  have e7 : (((((((W.setCell ⟨g, 0, none⟩ u0).setCell ⟨g, 1, none⟩ u1).setCell ⟨g, 2, none⟩ u2).setCell ⟨g, 3, none⟩ u3).setCell ⟨g, 4, none⟩ u4).setCell ⟨g, 5, none⟩ u5).setCell ⟨g, 6, none⟩ u6).heap[g]? = some (Obj.cells #[u0, u1, u2, u3, u4, u5, u6, c7, c8, c9, c10] T) := heap_setCell_same _ g 6 _ _ _ e6
  have e8 : ((((((((W.setCell ⟨g, 0, none⟩ u0).setCell ⟨g, 1, none⟩ u1).setCell ⟨g, 2, none⟩ u2).setCell ⟨g, 3, none⟩ u3).setCell ⟨g, 4, none⟩ u4).setCell ⟨g, 5, none⟩ u5).setCell ⟨g, 6, none⟩ u6).setCell ⟨g, 7, none⟩ u7).heap[g]? = some (Obj.cells #[u0, u1, u2, u3, u4, u5, u6, u7, c8, c9, c10] T) := heap_setCell_same _ g 7 _ _ _ e7
  have e9 : (((((((((W.setCell ⟨g, 0, none⟩ u0).setCell ⟨g, 1, none⟩ u1).setCell ⟨g, 2, none⟩ u2).setCell ⟨g, 3, none⟩ u3).setCell ⟨g, 4, none⟩ u4).setCell ⟨g, 5, none⟩ u5).setCell ⟨g, 6, none⟩ u6).setCell ⟨g, 7, none⟩ u7).setCell ⟨g, 8, none⟩ u8).heap[g]? = some (Obj.cells #[u0, u1, u2, u3, u4, u5, u6, u7, u8, c9, c10] T) := heap_setCell_same _ g 8 _ _ _ e8
  have e10 : ((((((((((W.setCell ⟨g, 0, none⟩ u0).setCell ⟨g, 1, none⟩ u1).setCell ⟨g, 2, none⟩ u2).setCell ⟨g, 3, none⟩ u3).setCell ⟨g, 4, none⟩ u4).setCell ⟨g, 5, none⟩ u5).setCell ⟨g, 6, none⟩ u6).setCell ⟨g, 7, none⟩ u7).setCell ⟨g, 8, none⟩ u8).setCell ⟨g, 9, none⟩ u9).heap[g]? = some (Obj.cells #[u0, u1, u2, u3, u4, u5, u6, u7, u8, u9, c10] T) := heap_setCell_same _ g 9 _ _ _ e9
  have e11 : (((((((((((W.setCell ⟨g, 0, none⟩ u0).setCell ⟨g, 1, none⟩ u1).setCell ⟨g, 2, none⟩ u2).setCell ⟨g, 3, none⟩ u3).setCell ⟨g, 4, none⟩ u4).setCell ⟨g, 5, none⟩ u5).setCell ⟨g, 6, none⟩ u6).setCell ⟨g, 7, none⟩ u7).setCell ⟨g, 8, none⟩ u8).setCell ⟨g, 9, none⟩ u9).setCell ⟨g, 10, none⟩ u10).heap[g]? = some (Obj.cells #[u0, u1, u2, u3, u4, u5, u6, u7, u8, u9, u10] T) := heap_setCell_same _ g 10 _ _ _ e10
  refine sep_set h i hi hk _ e11 (fun k hk => ⟨Or.inl hk, ?_⟩) (Nat.le_of_lt (Nat.lt_of_le_of_lt h2.1 h2.2))
  have hk : k = g := hk
  subst hk
  simpa using h2.2
theorem below_set11 {B : Nat} {W0 W : World} {g : Nat} (h : Below B W0 W) (hg : B ≤ g) (u0 u1 u2 u3 u4 u5 u6 u7 u8 u9 u10 : Value) : Below B W0 (set11 W g u0 u1 u2 u3 u4 u5 u6 u7 u8 u9 u10) :=
  ((((((((((h.setCell (p := ⟨g, 0, none⟩) hg _).setCell (p := ⟨g, 1, none⟩) hg _).setCell (p := ⟨g, 2, none⟩) hg _).setCell (p := ⟨g, 3, none⟩) hg _).setCell (p := ⟨g, 4, none⟩) hg _).setCell (p := ⟨g, 5, none⟩) hg _).setCell (p := ⟨g, 6, none⟩) hg _).setCell (p := ⟨g, 7, none⟩) hg _).setCell (p := ⟨g, 8, none⟩) hg _).setCell (p := ⟨g, 9, none⟩) hg _).setCell (p := ⟨g, 10, none⟩) hg _
theorem blk11c {W : World} {g : Nat} {c0 c1 c2 c3 c4 c5 c6 c7 c8 c9 c10 : Value} {t : TypeId} (h : W.heap[g]? = some (Obj.cells #[c0, c1, c2, c3, c4, c5, c6, c7, c8, c9, c10] t)) : W.cell? ⟨g, 0, none⟩ = some c0 ∧ W.cell? ⟨g, 1, none⟩ = some c1 ∧ W.cell? ⟨g, 2, none⟩ = some c2 ∧ W.cell? ⟨g, 3, none⟩ = some c3 ∧ W.cell? ⟨g, 4, none⟩ = some c4 ∧ W.cell? ⟨g, 5, none⟩ = some c5 ∧ W.cell? ⟨g, 6, none⟩ = some c6 ∧ W.cell? ⟨g, 7, none⟩ = some c7 ∧ W.cell? ⟨g, 8, none⟩ = some c8 ∧ W.cell? ⟨g, 9, none⟩ = some c9 ∧ W.cell? ⟨g, 10, none⟩ = some c10 :=
  ⟨(cell_at h 0).1, (cell_at h 1).1, (cell_at h 2).1, (cell_at h 3).1, (cell_at h 4).1, (cell_at h 5).1, (cell_at h 6).1, (cell_at h 7).1, (cell_at h 8).1, (cell_at h 9).1, (cell_at h 10).1⟩
theorem blk11z {W : World} {g : Nat} {c0 c1 c2 c3 c4 c5 c6 c7 c8 c9 c10 : Value} {t : TypeId} (h : W.heap[g]? = some (Obj.cells #[c0, c1, c2, c3, c4, c5, c6, c7, c8, c9, c10] t)) : W.frozen? ⟨g, 0, none⟩ = false ∧ W.frozen? ⟨g, 1, none⟩ = false ∧ W.frozen? ⟨g, 2, none⟩ = false ∧ W.frozen? ⟨g, 3, none⟩ = false ∧ W.frozen? ⟨g, 4, none⟩ = false ∧ W.frozen? ⟨g, 5, none⟩ = false ∧ W.frozen? ⟨g, 6, none⟩ = false ∧ W.frozen? ⟨g, 7, none⟩ = false ∧ W.frozen? ⟨g, 8, none⟩ = false ∧ W.frozen? ⟨g, 9, none⟩ = false ∧ W.frozen? ⟨g, 10, none⟩ = false :=
  ⟨(cell_at h 0).2, (cell_at h 1).2, (cell_at h 2).2, (cell_at h 3).2, (cell_at h 4).2, (cell_at h 5).2, (cell_at h 6).2, (cell_at h 7).2, (cell_at h 8).2, (cell_at h 9).2, (cell_at h 10).2⟩
open Go.RowKit
theorem below_set4 {B : Nat} {W0 W : World} {g : Nat} (h : Below B W0 W) (hg : B ≤ g) (u0 u1 u2 u3 : Value) : Below B W0 (set4 W g u0 u1 u2 u3) :=
  (((h.setCell (p := ⟨g, 0, none⟩) hg _).setCell (p := ⟨g, 1, none⟩) hg _).setCell (p := ⟨g, 2, none⟩) hg _).setCell (p := ⟨g, 3, none⟩) hg _
open Go.RowKit
def rds : List (Int × Mt) → List Value → List Value
  | r :: rs, u :: us => .int .i64 r.1 :: .int .i64 r.2.tx :: .int .i64 r.2.root :: .int .i64 r.2.next :: u :: rds rs us
  | _, _ => []
theorem rds_length : ∀ (rs : List (Int × Mt)) (us : List Value), us.length = rs.length → (rds rs us).length = rs.length * 5
  | [], us, _ => by cases us <;> rfl
  | r :: rs, [], h => by simp at h
  | r :: rs, u :: us, h => by
    have ih := rds_length rs us (by simpa using h)
    simp only [rds, List.length_cons, ih]
    omega
theorem rds_at : ∀ (rs : List (Int × Mt)) (us : List Value) (k : Nat) (r : Int × Mt) (u : Value), rs[k]? = some r → us[k]? = some u →
    (rds rs us)[k * 5]? = some (.int .i64 r.1) ∧ (rds rs us)[k * 5 + 1]? = some (.int .i64 r.2.tx) ∧ (rds rs us)[k * 5 + 2]? = some (.int .i64 r.2.root) ∧ (rds rs us)[k * 5 + 3]? = some (.int .i64 r.2.next) ∧ (rds rs us)[k * 5 + 4]? = some u
  | [], us, k, r, u, h, _ => by simp at h
  | r' :: rs, [], k, r, u, _, h => by simp at h
  | r' :: rs, u' :: us, 0, r, u, h1, h2 => by
    simp only [List.getElem?_cons_zero, Option.some.injEq] at h1 h2
    subst h1 h2
    exact ⟨rfl, rfl, rfl, rfl, rfl⟩
  | r' :: rs, u' :: us, k + 1, r, u, h1, h2 => by
    have ih := rds_at rs us k r u (by simpa using h1) (by simpa using h2)
    have e : (k + 1) * 5 = k * 5 + 1 + 1 + 1 + 1 + 1 := by omega
    rw [e]
    exact ih
theorem rds_set : ∀ (rs : List (Int × Mt)) (us : List Value) (k : Nat) (r : Int × Mt) (u : Value), us.length = rs.length → k < rs.length →
    (((((rds rs us).set (k * 5) (.int .i64 r.1)).set (k * 5 + 1) (.int .i64 r.2.tx)).set (k * 5 + 2) (.int .i64 r.2.root)).set (k * 5 + 3) (.int .i64 r.2.next)).set (k * 5 + 4) u = rds (rs.set k r) (us.set k u)
  | [], us, k, r, u, _, h => by simp at h
  | r' :: rs, [], k, r, u, h, _ => by simp at h
  | r' :: rs, u' :: us, 0, r, u, _, _ => rfl
  | r' :: rs, u' :: us, k + 1, r, u, h1, h2 => by
    have ih := rds_set rs us k r u (by simpa using h1) (by simpa using h2)
    have e : (k + 1) * 5 = k * 5 + 1 + 1 + 1 + 1 + 1 := by omega
    rw [e]
    simp only [rds, List.set_cons_succ]
    rw [← ih]
def RdsAt (w : World) (v : Value) (rs : List (Int × Mt)) : Prop :=
  ∃ us : List Value, us.length = rs.length ∧ RowAt w 5 v rs.length (rds rs us) ∧ ∀ (k : Nat) (r : Int × Mt) (u : Value), rs[k]? = some r → us[k]? = some u → FreesAt w u r.2.fs
theorem rds_below {w w' : World} {v : Value} {rs : List (Int × Mt)} (h : RdsAt w v rs) (hb : Below w.heap.size w w') : RdsAt w' v rs := by
  obtain ⟨us, h1, h2, h3⟩ := h
  exact ⟨us, h1, row_below h2 hb, fun k r u hr hu => frees_below (h3 k r u hr hu) hb⟩
theorem rds_slice {w : World} {v : Value} {rs : List (Int × Mt)} (h : RdsAt w v rs) : ∃ a cap, v = .slice a rs.length cap := by
  obtain ⟨us, h1, h2, h3⟩ := h
  obtain ⟨-, a, cap, e, -⟩ := h2
  exact ⟨a, cap, e⟩
theorem rds_get {w : World} {a : Option Addr} {n cap : Nat} {rs : List (Int × Mt)} (h : RdsAt w (.slice a n cap) rs) {k : Nat} {id : Int} {m : Mt} (hk : rs[k]? = some (id, m)) :
    ∃ b off u, a = some ⟨b, off, none⟩ ∧ b < w.heap.size ∧ (w.cell? ⟨b, off + k * 5, none⟩ = some (.int .i64 id) ∧ w.cell? ⟨b, off + k * 5 + 1, none⟩ = some (.int .i64 m.tx) ∧ w.cell? ⟨b, off + k * 5 + 2, none⟩ = some (.int .i64 m.root) ∧ w.cell? ⟨b, off + k * 5 + 3, none⟩ = some (.int .i64 m.next) ∧ w.cell? ⟨b, off + k * 5 + 4, none⟩ = some u) ∧ FreesAt w u m.fs := by
  obtain ⟨us, h1, h2, h3⟩ := h
  have hlt : k < rs.length := (List.getElem?_eq_some_iff.1 hk).1
  obtain ⟨u, hu⟩ : ∃ u, us[k]? = some u := ⟨_, List.getElem?_eq_getElem (by omega)⟩
  obtain ⟨-, a', cap', e, hr⟩ := h2
  injection e with e _ _
  subst e
  rcases hr with h0 | ⟨b, off, rfl, hb, hc⟩
  · omega
  · obtain ⟨e0, e1, e2, e3, e4⟩ := rds_at rs us k _ u hk hu
    refine ⟨b, off, u, rfl, hb, ⟨?_, ?_, ?_, ?_, ?_⟩, h3 k _ u hk hu⟩
    · rw [hc (k * 5) (by omega), e0]
    · rw [Nat.add_assoc, hc (k * 5 + 1) (by omega), e1]
    · rw [Nat.add_assoc, hc (k * 5 + 2) (by omega), e2]
    · rw [Nat.add_assoc, hc (k * 5 + 3) (by omega), e3]
    · rw [Nat.add_assoc, hc (k * 5 + 4) (by omega), e4]
def sumR (l : List (Int × Mt)) (k : Nat) : Nat := ((l.take k).map fun p => bulkF p.2.fs).sum
theorem sumR_succ (l : List (Int × Mt)) (k : Nat) {id : Int} {m : Mt} (h : l[k]? = some (id, m)) : sumR l (k + 1) = sumR l k + bulkF m.fs := by
  obtain ⟨hk, e⟩ := List.getElem?_eq_some_iff.1 h
  unfold sumR
  rw [List.take_succ_eq_append_getElem hk, List.map_append, List.sum_append, e]
  simp
theorem sumR_zero (l : List (Int × Mt)) : sumR l 0 = 0 := by simp [sumR]
theorem sumR_mono (l : List (Int × Mt)) (k : Nat) : sumR l k ≤ sumR l l.length := by
  unfold sumR
  conv => rhs; rw [List.take_length, ← List.take_append_drop k l, List.map_append, List.sum_append]
  omega
def bulkR (l : List (Int × Mt)) : Nat := l.length + sumR l l.length
theorem bulkR_in {l : List (Int × Mt)} {m : Nat} (h : bulkR l ≤ m) : l.length ≤ m ∧ ∀ r ∈ l, bulkF r.2.fs ≤ m := by
  unfold bulkR at h
  refine ⟨by omega, fun f hf => ?_⟩
  obtain ⟨i, hi, rfl⟩ := List.getElem_of_mem hf
  have h1 := sumR_succ l i (id := l[i].1) (m := l[i].2) (List.getElem?_eq_getElem hi)
  have h2 := sumR_mono l (i + 1)
  omega
def fitsR (l : List (Int × Mt)) : Prop := l.length ≤ maxLen ∧ ∀ r ∈ l, r.2.fs.length ≤ maxLen ∧ ∀ f ∈ r.2.fs, f.2.length ≤ maxLen
set_option maxHeartbeats 1000000 in
theorem szReader_any (id : Int) (v : Value) (m : Mt) (hl : m.fs.length ≤ maxLen) (hs : ∀ f ∈ m.fs, f.2.length ≤ maxLen) (left : Nat) (hleft : left ≤ 1048576) (w : World) (hd : FreesAt w v m.fs) :
    Calls Tryz.prog 58 #[.agg #[.int .i64 id, .int .i64 m.tx, .int .i64 m.root, .int .i64 m.next, v], .int .i64 (left : Int)] w fun e w' => e = .returned (.int .i64 (szOut left (bulkF m.fs))) ∧ Below w.heap.size w w' := by
  obtain ⟨tx, htx⟩ : ∃ n, n = m.tx := ⟨_, rfl⟩
  obtain ⟨mr, hmr⟩ : ∃ n, n = m.root := ⟨_, rfl⟩
  obtain ⟨mn, hmn⟩ : ∃ n, n = m.next := ⟨_, rfl⟩
  have HM : Hid (∀ wx, Below w.heap.size w wx → MetaAt wx (.agg #[.int .i64 tx, .int .i64 mr, .int .i64 mn, v]) m) := hide (fun wx hb => ⟨v, by rw [htx, hmr, hmn], frees_below hd hb⟩)
  rw [← htx, ← hmr, ← hmn]
  have HC := hide (fun wx h => szMeta_any (.agg #[.int .i64 tx, .int .i64 mr, .int .i64 mn, v]) m hl hs left hleft wx h)
  obtain ⟨w0, hw0⟩ : ∃ w0, w0 = w.alloc (Obj.cells #[.int .i64 id, .int .i64 tx, .int .i64 mr, .int .i64 mn, v] 118) := ⟨_, rfl⟩
  have HB : Hid (Below w.heap.size w w0) := hide (by rw [hw0]; exact (Below.refl w.heap.size w).alloc (Nat.le_refl _) _)
  clear hd htx hmr hmn hl hs
  by_cases h : bulkF m.fs ≤ left
  · rw [szOut_yes h] at HC ⊢
    obtain ⟨z, hz⟩ : ∃ z, z = left - bulkF m.fs := ⟨_, rfl⟩
    rw [← hz] at HC ⊢
    clear hz h
    go_enter Tryz.func58, Tryz.ntmps58
    go_wp2_with fail
    rw [← hw0]
    clear hw0
    refine (HC.out _ (HM.out _ HB.out)).mono ?_
    rintro e w1 ⟨rfl, hb1⟩
    have HB1 := hide (HB.out.trans (hb1.mono HB.out.size))
    clear hb1
    go_wp2_with fail
    go_ret
    exact ⟨rfl, HB1.out⟩
  · rw [szOut_no (by omega)] at HC ⊢
    clear h
    go_enter Tryz.func58, Tryz.ntmps58
    go_wp2_with fail
    rw [← hw0]
    clear hw0
    refine (HC.out _ (HM.out _ HB.out)).mono ?_
    rintro e w1 ⟨rfl, hb1⟩
    have HB1 := hide (HB.out.trans (hb1.mono HB.out.size))
    clear hb1
    go_wp2_with fail
    go_ret
    exact ⟨rfl, HB1.out⟩
set_option maxHeartbeats 2000000 in
theorem szReaderS_any (l : List (Int × Mt)) (hf : fitsR l) (v : Value) (left : Nat) (hleft : left ≤ 1048576) (w : World) (hr : RdsAt w v l) :
    Calls Tryz.prog 37 #[v, .int .i64 (left : Int)] w fun e w' => e = .returned (.int .i64 (szOut left (bulkR l))) ∧ Below w.heap.size w w' := by
  obtain ⟨a, cap, rfl⟩ := rds_slice hr
  obtain ⟨hl, hs⟩ := hf
  have HR := hide hr
  have HS := hide hs
  clear hr hs
  unfold maxLen at hl
  have HBk : Hid (bulkR l = l.length + sumR l l.length) := hide rfl
  by_cases h0 : left < l.length
  · have HO : Hid (szOut left (bulkR l) = -1) := hide (szOut_no (by rw [HBk.out]; omega))
    go_enter Tryz.func37, Tryz.ntmps37
    go_wp2
    go_ret
    rw [HO.out]
    exact ⟨rfl, Below.refl _ _⟩
  · go_enter Tryz.func37, Tryz.ntmps37
    go_wp2
    go_loopg [1, 5] l.length (fun g lv iv wr => ∃ k z : Nat, k ≤ l.length ∧ iv = .int .i64 (k : Int) ∧ g + k = l.length ∧ lv = .int .i64 (z : Int) ∧ z ≤ 1048576 ∧ Hid (z + l.length + sumR l k = left) ∧ Below w.heap.size w wr)
    case atStart => exact ⟨0, left - l.length, Nat.zero_le _, rfl, rfl, by go_num, by omega, hide (by rw [sumR_zero]; omega), Below.refl _ _⟩
    case round =>
      obtain ⟨k, z, hk, rfl, hg, rfl, hz, HM, hb⟩ := hrel
      have HG := hide hg
      clear hg
      by_cases hlt : k < l.length
      · obtain ⟨id, m, hm⟩ : ∃ id m, l[k]? = some (id, m) := ⟨_, _, List.getElem?_eq_getElem hlt⟩
        obtain ⟨b, off, u, rfl, hbl, ⟨c0, c1, c2, c3, c4⟩, hfr⟩ := rds_get (rds_below HR.out hb) hm
        have hxs := HS.out _ (List.mem_of_getElem? hm)
        have HSum := hide (sumR_succ l k hm)
        have HC := hide (fun wx h => szReader_any id u m hxs.1 hxs.2 z hz wx h)
        have HFr := hide hfr
        obtain ⟨xa, xc, rfl⟩ := frees_slice hfr
        obtain ⟨tx, htx⟩ : ∃ n, n = m.tx := ⟨_, rfl⟩
        obtain ⟨mr, hmr⟩ : ∃ n, n = m.root := ⟨_, rfl⟩
        obtain ⟨mn, hmn⟩ : ∃ n, n = m.next := ⟨_, rfl⟩
        obtain ⟨mL, hmL⟩ : ∃ n, n = m.fs.length := ⟨_, rfl⟩
        obtain ⟨n, hn⟩ : ∃ n, n = bulkF m.fs := ⟨_, rfl⟩
        rw [← htx, ← hmr, ← hmn, ← hmL] at HC
        rw [← htx] at c1
        rw [← hmr] at c2
        rw [← hmn] at c3
        rw [← hmL] at c4
        rw [← hmL] at HFr
        rw [← hn] at HSum HC
        have hk0 : (0 : Int) ≤ (k : Int) := by omega
        have hk1 : (k : Int) < (l.length : Int) := by omega
        clear hm hn hfr hxs htx hmr hmn hmL
        by_cases hneg : z < n
        · have HO : Hid (szOut left (bulkR l) = -1) := hide (szOut_no (by have h1 := HBk.out; have h2 := HM.out; have h3 := HSum.out; have h4 := sumR_mono l (k + 1); omega))
          rw [szOut_no hneg] at HC
          go_wp2_with fail
          refine (HC.out _ HFr.out).mono ?_
          rintro e w2 ⟨rfl, hb2⟩
          go_wp2_with fail
          go_ret
          rw [HO.out]
          exact ⟨rfl, hb.trans (hb2.mono hb.size)⟩
        · rw [szOut_yes (by omega)] at HC
          obtain ⟨z', hz'⟩ : ∃ z', z' = z - n := ⟨_, rfl⟩
          rw [← hz'] at HC
          have hml : z' ≤ 1048576 := by omega
          have HM2 : Hid (z' + l.length + sumR l (k + 1) = left) := hide (by have h2 := HM.out; have h3 := HSum.out; omega)
          clear hz' hneg
          go_wp2_with fail
          refine (HC.out _ HFr.out).mono ?_
          rintro e w2 ⟨rfl, hb2⟩
          go_wp2_with fail
          go_roundg (gk - 1)
          case measure => have := HG.out; omega
          case rel => exact ⟨k + 1, z', by omega, by go_num, by have := HG.out; omega, rfl, hml, HM2, hb.trans (hb2.mono hb.size)⟩
      · have HO : Hid (szOut left (bulkR l) = (z : Int)) := hide (by
          have h1 := HBk.out
          have h2 := HM.out
          obtain rfl : k = l.length := by omega
          rw [szOut_yes (by omega)]
          congr 1
          omega)
        go_wp2
        go_ret
        rw [HO.out]
        exact ⟨rfl, hb⟩
open Go.RowKit
theorem take_next {α : Type} (l : List α) (i : Nat) (x : α) (h : l[i]? = some x) : l.take (i + 1) = l.take i ++ [x] := by rw [List.take_add_one, h]; rfl
end Go.Proofs.YtdbpbhemnnffeaaGreatDoor
