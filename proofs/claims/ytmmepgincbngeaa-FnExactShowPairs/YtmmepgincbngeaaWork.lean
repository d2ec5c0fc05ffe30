/-
  Works (a disk, the next page, usable, gone and fresh pages), read only ('WorkAt') or in new memory ('WorkOwn'), and the laws' own helpers over them by contracts: szWork, toWork, eqWork, heldWork, markWork.
-/
import Derived.Test.YtmmepgincbngeaaDiskN
import Derived.Test.YtmmepgincbngeaaEnvN
import Derived.Test.YtmmepgincbngeaaIntOwn
namespace Go.Proofs.Ytmmepgincbngeaa
open Go.RowKit

/-- a work as plain data -/
structure Wk where
  ps : List ByteArray
  ls : List (Int × ByteArray)
  next : Int
  us : List Int
  gs : List Int
  fs : List Int

def Wk.bulk (k : Wk) : Nat := bulkS k.ps + bulkP k.ls + k.us.length + k.gs.length + k.fs.length

/-- what comes in with a work -/
def Wk.fits (k : Wk) : Prop := k.ps.length ≤ maxLen ∧ (∀ s ∈ k.ps, s.size ≤ maxLen) ∧ k.ls.length ≤ maxLen ∧ (∀ p ∈ k.ls, p.2.size ≤ maxLen) ∧ k.us.length ≤ maxLen ∧ k.gs.length ≤ maxLen ∧ k.fs.length ≤ maxLen

/-- a work that is small enough -/
def Wk.small (k : Wk) : Prop := k.ps.length ≤ 1048576 ∧ (∀ s ∈ k.ps, s.size ≤ 1048576) ∧ k.ls.length ≤ 1048576 ∧ (∀ p ∈ k.ls, p.2.size ≤ 1048576) ∧ k.us.length ≤ 2000000 ∧ k.gs.length ≤ 2000000 ∧ k.fs.length ≤ 2000000

/-- a work that reads so -/
def WorkAt (w : World) (v : Value) (k : Wk) : Prop :=
  ∃ vp vl vu vg vf, v = .agg #[vp, vl, .int .i64 k.next, vu, vg, vf] ∧ DiskAt w (.agg #[vp, vl]) k.ps k.ls ∧ RowAt w 1 vu k.us.length (ints k.us) ∧ RowAt w 1 vg k.gs.length (ints k.gs) ∧ RowAt w 1 vf k.fs.length (ints k.fs) ∧ ∃ a cap, vu = .slice a k.us.length cap ∧ k.us.length ≤ cap

def workBlocks (v : Value) (j : Nat) : Prop := ∃ vp vl n vu vg vf, v = .agg #[vp, vl, n, vu, vg, vf] ∧ (diskBlocks (.agg #[vp, vl]) j ∨ vu.ownBlock = some j ∨ vg.ownBlock = some j ∨ vf.ownBlock = some j)

theorem agg6 {a b c d e f a' b' c' d' e' f' : Value} (h : Value.agg #[a, b, c, d, e, f] = .agg #[a', b', c', d', e', f']) : a = a' ∧ b = b' ∧ c = c' ∧ d = d' ∧ e = e' ∧ f = f' := by
  injection h with h
  have := congrArg Array.toList h
  simp at this
  exact this

theorem work_below {w w' : World} {v : Value} {k : Wk} (h : WorkAt w v k) (hb : Below w.heap.size w w') : WorkAt w' v k := by
  obtain ⟨vp, vl, vu, vg, vf, e, h1, h2, h3, h4, h5⟩ := h
  exact ⟨vp, vl, vu, vg, vf, e, disk_below h1 hb, row_below h2 hb, row_below h3 hb, row_below h4 hb, h5⟩

theorem bulk_inW {ps : List ByteArray} {ls : List (Int × ByteArray)} (h : bulkS ps + bulkP ls ≤ 1048576) : ps.length ≤ 1048576 ∧ (∀ s ∈ ps, s.size ≤ 1048576) ∧ ls.length ≤ 1048576 ∧ ∀ p ∈ ls, p.2.size ≤ 1048576 := by
  rw [bulkS_eq] at h
  unfold bulkP at h
  refine ⟨by omega, fun s hs => ?_, by omega, fun p hp => ?_⟩
  · obtain ⟨i, hi, rfl⟩ := List.getElem_of_mem hs
    have h1 := sumS_succ ps i hi
    have h2 := sumS_mono ps (i + 1)
    omega
  · obtain ⟨i, hi, rfl⟩ := List.getElem_of_mem hp
    have h1 := sumP_succ ls i hi
    have h2 := sumP_mono ls (i + 1)
    omega

theorem bulkW_in {k : Wk} (h : k.bulk ≤ 1048576) : k.small := by
  unfold Wk.bulk at h
  obtain ⟨h1, h2, h3, h4⟩ := bulk_inW (ps := k.ps) (ls := k.ls) (by omega)
  exact ⟨h1, h2, h3, h4, by omega, by omega, by omega⟩

theorem cells3 {w : World} {a0 a1 a2 : Nat} {o0 o1 o2 : Obj} (h : w.heap[a0]? = some o0 ∧ w.heap[a1]? = some o1 ∧ w.heap[a2]? = some o2) {w' : World} (hb : Below w.heap.size w w') : w'.heap[a0]? = some o0 ∧ w'.heap[a1]? = some o1 ∧ w'.heap[a2]? = some o2 :=
  ⟨(hb.block _ (Array.getElem?_eq_some_iff.1 h.1).1).trans h.1, (hb.block _ (Array.getElem?_eq_some_iff.1 h.2.1).1).trans h.2.1, (hb.block _ (Array.getElem?_eq_some_iff.1 h.2.2).1).trans h.2.2⟩

def marksW (k0 np nl nu ng nf : Nat) (nx : Int) : Wk := ⟨marksS k0 np, marksP (k0 + np) nl, nx, marksI (k0 + np + nl * 2) nu, marksI (k0 + np + nl * 2 + nu) ng, marksI (k0 + np + nl * 2 + nu + ng) nf⟩

end Go.Proofs.Ytmmepgincbngeaa
