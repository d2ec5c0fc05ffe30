/-
  What GivePage makes of a work, as plain data. No program.
-/
import Derived.Test.YtacmpggigdlmmaaDoorWorkCp
namespace Go.Proofs.YtacmpggigdlmmaaDoor
open Go.RowKit

def giveK (k : Wk) : Wk := match k.us with
  | x :: t => { k with us := t, fs := k.fs ++ [x] }
  | [] => if k.next < (k.ps.length : Int) then { k with next := wrap64 (k.next + 1), fs := k.fs ++ [k.next] } else k

def giveP (k : Wk) : Int := match k.us with
  | x :: _ => x
  | [] => if k.next < (k.ps.length : Int) then k.next else 0

theorem give_cons {k : Wk} {x : Int} {t : List Int} (h : k.us = x :: t) : giveK k = { k with us := t, fs := k.fs ++ [x] } ∧ giveP k = x := by
  unfold giveK giveP
  rw [h]
  exact ⟨rfl, rfl⟩

theorem give_next {k : Wk} (h : k.us = []) (hn : k.next < (k.ps.length : Int)) : giveK k = { k with next := wrap64 (k.next + 1), fs := k.fs ++ [k.next] } ∧ giveP k = k.next := by
  unfold giveK giveP
  rw [h]
  simp [hn]

theorem give_none {k : Wk} (h : k.us = []) (hn : ¬ k.next < (k.ps.length : Int)) : giveK k = k ∧ giveP k = 0 := by
  unfold giveK giveP
  rw [h]
  simp [hn]

theorem give_small {k : Wk} (h : k.bulk ≤ 1048576) : (giveK k).small := by
  obtain ⟨h1, h2, h3, h4, h5, h6, h7⟩ := bulkW_in h
  unfold Wk.bulk at h
  cases hu : k.us with
  | cons x t =>
    rw [(give_cons hu).1]
    rw [hu] at h h5
    simp at h h5
    exact ⟨h1, h2, h3, h4, by simp; omega, h6, by simp; omega⟩
  | nil =>
    by_cases hn : k.next < (k.ps.length : Int)
    · rw [(give_next hu hn).1]
      exact ⟨h1, h2, h3, h4, by simp [hu], h6, by simp; omega⟩
    · rw [(give_none hu hn).1]
      exact ⟨h1, h2, h3, h4, h5, h6, h7⟩

theorem small_of_bulk {k : Wk} (h : k.bulk ≤ 1048576) : k.small := bulkW_in h

/-- the work with its rows as they lie in a variable -/
theorem nw_rows {w : World} {B : Nat} {u0 u1 u2 u3 u4 u5 : Value} {k : Wk} (h : WorkNw w B (.agg #[u0, u1, u2, u3, u4, u5]) k) : DiskOwn w B (.agg #[u0, u1]) k.ps k.ls ∧ u2 = .int .i64 k.next ∧ w.ownsRow B 3 1 u3 k.us.length (ints k.us) ∧ w.ownsRow B 3 1 u4 k.gs.length (ints k.gs) ∧ w.ownsRow B 3 1 u5 k.fs.length (ints k.fs) ∧
    (∀ j, u3.ownBlock = some j → u4.ownBlock ≠ some j) ∧ (∀ j, u3.ownBlock = some j → u5.ownBlock ≠ some j) ∧ (∀ j, u4.ownBlock = some j → u5.ownBlock ≠ some j) := by
  obtain ⟨vp, vl, vu, vg, vf, e, h1, h2, h3, h4, h5⟩ := h
  obtain ⟨rfl, rfl, rfl, rfl, rfl, rfl⟩ := agg6 e
  exact ⟨h1, rfl, h2, h3, h4, h5⟩

theorem nw_form {w : World} {B : Nat} {v : Value} {k : Wk} (h : WorkNw w B v k) : ∃ a1 c1 a2 c2 a3 c3 a4 c4 a5 c5, v = .agg #[.slice a1 k.ps.length c1, .slice a2 k.ls.length c2, .int .i64 k.next, .slice a3 k.us.length c3, .slice a4 k.gs.length c4, .slice a5 k.fs.length c5] := work_form (nw_own h)

theorem staysW {w w' : World} {a : Nat} {o : Obj} (h : w.heap[a]? = some o) (hb : Below w.heap.size w w') : w'.heap[a]? = some o := (hb.block _ (Array.getElem?_eq_some_iff.1 h).1).trans h

theorem one_newC (w : World) (n : Nat) (hn : n = w.heap.size) (x : Value) (T : TypeId) : ∀ (j : Nat) (u : Value), [x][j]? = some u → (w.alloc (Obj.cells #[x] T)).cell? ((⟨n, 0, none⟩ : Addr).add j) = some u := by
  subst hn
  intro j u hj
  obtain rfl : j = 0 := by have := (List.getElem?_eq_some_iff.1 hj).1; simp at this; omega
  simp at hj
  subst hj
  simp [Addr.add]

theorem stays_grown {w w' : World} {a : Nat} {o : Obj} {r : Option Nat} (h : w.heap[a]? = some o) (hg : w.grownBy w' r) (hr : r ≠ some a) : w'.heap[a]? = some o := (hg.block _ (Array.getElem?_eq_some_iff.1 h).1 (fun e => hr e.symm)).trans h

/-- a page that goes behind the fresh ones of a work in a variable -/
theorem give_app {w w1 w5 : World} {k : Wk} {a0 g B b d nf c5 : Nat} {a5 : Option Addr} {u0 u1 u3 u3' u4 : Value} {us' : List Int} {n' : Int} {p : Int} {rs : Obj} {t : TypeId} (hnf : nf = k.fs.length)
    (hnw : WorkNw w1 B (.agg #[u0, u1, .int .i64 k.next, u3, u4, .slice a5 nf c5]) k) (hu : IntOwn w1 B u3' us') (hub : ∀ j, u3'.ownBlock = some j → u3.ownBlock = some j) (hg : g = w1.heap.size) (hres : w1.heap[a0 + 1]? = some rs) (hB : a0 + 2 ≤ B) (ha : a0 = w.heap.size) (_hBg : B ≤ g) (hlow : Below w.heap.size w w1)
    (hown : w5.ownsRow B 3 1 (.slice (some ⟨b, 0, none⟩) (nf + 1) d) (nf + 1) (ints k.fs ++ [.int .i64 p]))
    (hgr : ((w1.alloc (Obj.cells #[u0, u1, .int .i64 n', u3', u4, .slice a5 nf c5] t)).alloc (Obj.cells #[.int .i64 p] 3)).grownBy w5 (Value.slice a5 nf c5).ownBlock)
    (hb : (Value.slice a5 nf c5).ownBlock = some b ∨ b = g + 2) :
    w5.heap[g]? = some (Obj.cells #[u0, u1, .int .i64 n', u3', u4, .slice a5 nf c5] t) ∧
    (w5.setCell ⟨g, 5, none⟩ (.slice (some ⟨b, 0, none⟩) (nf + 1) d)).heap[g]? = some (Obj.cells #[u0, u1, .int .i64 n', u3', u4, .slice (some ⟨b, 0, none⟩) (nf + 1) d] t) ∧
    (w5.setCell ⟨g, 5, none⟩ (.slice (some ⟨b, 0, none⟩) (nf + 1) d)).heap[a0 + 1]? = some rs ∧
    WorkOwn (w5.setCell ⟨g, 5, none⟩ (.slice (some ⟨b, 0, none⟩) (nf + 1) d)) B (.agg #[u0, u1, .int .i64 n', u3', u4, .slice (some ⟨b, 0, none⟩) (nf + 1) d]) { k with next := n', us := us', fs := k.fs ++ [p] } ∧
    Below w.heap.size w (w5.setCell ⟨g, 5, none⟩ (.slice (some ⟨b, 0, none⟩) (nf + 1) d)) ∧
    ∀ j o, w1.heap[j]? = some o → j < B → (w5.setCell ⟨g, 5, none⟩ (.slice (some ⟨b, 0, none⟩) (nf + 1) d)).heap[j]? = some o := by
  subst hnf
  obtain ⟨hd, -, h3, h4, h5, n1, n2, n3⟩ := nw_rows hnw
  have l5 : ∀ j, (Value.slice a5 k.fs.length c5).ownBlock = some j → B ≤ j ∧ j < g := fun j e => by rw [hg]; exact h5.lt j e
  have l4 : ∀ j, u4.ownBlock = some j → B ≤ j ∧ j < g := fun j e => by rw [hg]; exact h4.lt j e
  have l3 : ∀ j, u3'.ownBlock = some j → B ≤ j ∧ j < g := fun j e => by rw [hg]; exact h3.lt j (hub j e)
  have ld := diskOwn_lt hd
  have hlt1 : a0 + 1 < w1.heap.size := (Array.getElem?_eq_some_iff.1 hres).1
  have hb1 : Below w1.heap.size w1 ((w1.alloc (Obj.cells #[u0, u1, .int .i64 n', u3', u4, .slice a5 k.fs.length c5] t)).alloc (Obj.cells #[.int .i64 p] 3)) := ((Below.refl _ _).alloc (Nat.le_refl _) _).alloc (by simp) _
  obtain ⟨q0, q1, hs⟩ := two_allocs w1 (Obj.cells #[u0, u1, .int .i64 n', u3', u4, .slice a5 k.fs.length c5] t) (Obj.cells #[.int .i64 p] 3)
  rw [← hg] at q0 hs
  have hk : Kept w1 w5 (fun j => (Value.slice a5 k.fs.length c5).ownBlock = some j) := ⟨hgr.os.trans hb1.os, hgr.tape.trans hb1.tape, hgr.output.trans hb1.output, Nat.le_trans hb1.size hgr.size, fun j hj hn => (hgr.block j (Nat.lt_of_lt_of_le hj hb1.size) (fun e => hn e.symm)).trans (hb1.block j hj)⟩
  have e5 : w5.heap[g]? = some (Obj.cells #[u0, u1, .int .i64 n', u3', u4, .slice a5 k.fs.length c5] t) := stays_grown q0 hgr (fun e => by have := l5 g e; omega)
  have hk6 : Kept w5 (w5.setCell ⟨g, 5, none⟩ (.slice (some ⟨b, 0, none⟩) (k.fs.length + 1) d)) (fun j => j = g) := kept_setCell _ _ _ _
  have hkk : Kept w1 (w5.setCell ⟨g, 5, none⟩ (.slice (some ⟨b, 0, none⟩) (k.fs.length + 1) d)) (fun j => (Value.slice a5 k.fs.length c5).ownBlock = some j) := kept_trans hk hk6 (fun j hj e => by omega)
  refine ⟨e5, heap_setCell_same w5 g 5 _ _ _ e5, (hkk.2.2.2.2 _ hlt1 (fun e => by have := l5 _ e; omega)).trans hres, ⟨u0, u1, u3', u4, _, rfl, ?_, ?_, ?_, ?_, ?_, ?_, ?_⟩, hlow.trans (below_of_kept hkk hlow.size (fun j e => by have := l5 j e; omega)), fun j o hj hlt => (hkk.2.2.2.2 j (Array.getElem?_eq_some_iff.1 hj).1 (fun e => by have := l5 j e; omega)).trans hj⟩
  · exact diskOwn_kept hd hkk (fun j e h => disk_int_apart hd (intOwn_of_own h5) j e h)
  · exact intOwn_kept hu hkk (fun j e h => n2 j (hub j e) h)
  · exact intOwn_kept (intOwn_of_own h4) hkk (fun j e h => n3 j e h)
  · refine intOwn_kept (intOwn_of_own (l := k.fs ++ [p]) ?_) hk6 (fun j e h => ?_)
    · have e1 : (k.fs ++ [p]).length = k.fs.length + 1 := by simp
      have e2 : ints (k.fs ++ [p]) = ints k.fs ++ [.int .i64 p] := by simp [ints]
      rw [e1, e2]
      exact hown
    · injection e with e
      have e : b = j := e
      rcases hb with hb | hb
      · have := l5 b hb; omega
      · omega
  · exact fun j e1 e2 => n1 j (hub j e1) e2
  · intro j e1 e2
    injection e2 with e2
    have e2 : b = j := e2
    rcases hb with hb | hb
    · exact n2 j (hub j e1) (by rw [← e2]; exact hb)
    · have := l3 j e1; omega
  · intro j e1 e2
    injection e2 with e2
    have e2 : b = j := e2
    rcases hb with hb | hb
    · exact n3 j e1 (by rw [← e2]; exact hb)
    · have := l4 j e1; omega
end Go.Proofs.YtacmpggigdlmmaaDoor
