/-
  Several texts in one. Exact laws over nodes by contracts, where the program's functions are as their contracts say: NodeText. · What PutNode makes of a work and a node, as plain data, and a work in a variable that gets another disk. No program. · Plain: a node that may be too long is put as one or as two. No program. · What BuildTree makes of a work and pairs, as plain data: leaves of four, then nodes of four, level by level. No program. · Chapter 7, plain: what a page tells (rdN), and what GetKey tells (getL). · Chapter 7, plain: how a tree is gone through, by the program (downL: what is visited, and what was seen where it went on) and by the document's model (walkS), and that both tell the same pairs and pages. · A range over a function whose iterator keeps state of its own in cells: the caller's memory (C) and the iterator's are told apart by their blocks. No program. · What is met in a tree (spec.l07All) behind a pointer: three lists and two flags, and how each of them grows. No function of the program. · Rows of pairs (a key and a value each), and the laws' own helpers over them by contracts: eqPairS, markPairS, heldPairS. · Things that lie side by side in memory of our own: each with the blocks that it stands in, no two share one. No program. · An append of one thing to a row among others that lie side by side. No program. · A disk and a work among things that lie side by side. No function of the program. · The draws' cursor by contracts: l01Byte, l01Below, l01Once give some number within their bounds and turn nothing but the cursor's own block. Which number is drawn is not said. · More draws by contracts: l01Once, l01New, l01Text, l01Long. Which text is drawn is not said but its length's bound. · A node that grows in a variable of its own, row by row: what stays and what is new behind an append and a store. No function of the program. · A node among things that lie side by side; an append of a text. No function of the program. · impl's nodesFor, levelsAbove, pairsAscend by contracts; rows of halves, entriesOf. · A region that draws its order, where two operations may come up either way round and leave the same behind them: both ways are walked to one goal. No program.
-/
import Derived.Test.YtacmpggigdlmmaaDoorNode2
import Derived.Test.YtacmpggigdlmmaaDoorNodeSpec2
import Derived.Deep.RegionHeld3
import Derived.Test.YtacmpggigdlmmaaDoorGivePlain
import Derived.Test.YtacmpggigdlmmaaDoorWorkEnv
import Derived.Test.YtacmpggigdlmmaaDoorPlain26
import Derived.Test.YtacmpggigdlmmaaDoorPlain10
import Derived.Test.YtacmpggigdlmmaaDoorPlain16
import Derived.RangeFuncNested
import Derived.RangeFuncBound
import Derived.RangeFuncCalls
import Derived.RangeFuncLeaves
import Derived.RangeFuncBox
import Derived.Below
import Derived.Test.YtacmpggigdlmmaaDoorNode
import Derived.Test.YtacmpggigdlmmaaDoorFrame
import Derived.Deep.RegionHeld
import Derived.Deep.AppendLies
import Derived.Test.YtacmpggigdlmmaaDoorWorkCp
import Derived.Test.YtacmpggigdlmmaaDoorProg
import Derived.Test.YtacmpggigdlmmaaDoorPlain2
import Derived.Laws.OwnMore
import Derived.Laws.Pointers
import Derived.Laws.BitsAllLaws
import Derived.Laws.Shifts
import Derived.OwnWalk
import Derived.WalkKit
import Derived.WalkSpells
import Derived.WalkSmall
import Derived.BigQuiet
import Derived.Deep.QuietTactic
import Derived.Outline
import Derived.Test.YtacmpggigdlmmaaDoorOwn
import Derived.Deep.LoopGhost
import Derived.Test.YtacmpggigdlmmaaDoorStepCall
namespace Go.Proofs.YtacmpggigdlmmaaDoor
open Go.RowKit

theorem bulkS_in {l : List ByteArray} {m : Nat} (h : bulkS l ≤ m) : l.length ≤ m ∧ ∀ s ∈ l, s.size ≤ m := by
  rw [bulkS_eq] at h
  refine ⟨by omega, fun s hs => ?_⟩
  obtain ⟨i, hi, rfl⟩ := List.getElem_of_mem hs
  have h1 := sumS_succ l i hi
  have h2 := sumS_mono l (i + 1)
  omega

theorem bulkN_in {ks vs : List ByteArray} {cs : List Int} (h : bulkN ks vs cs ≤ 1048576) : ks.length ≤ 1048576 ∧ (∀ s ∈ ks, s.size ≤ 1048576) ∧ vs.length ≤ 1048576 ∧ (∀ s ∈ vs, s.size ≤ 1048576) ∧ cs.length ≤ 1048576 := by
  unfold bulkN at h
  obtain ⟨a, b⟩ := bulkS_in (l := ks) (m := 1048576) (by omega)
  obtain ⟨c, d⟩ := bulkS_in (l := vs) (m := 1048576) (by omega)
  exact ⟨a, b, c, d, by omega⟩

end Go.Proofs.YtacmpggigdlmmaaDoor

namespace Go.Proofs.YtacmpggigdlmmaaDoor
open Go.RowKit

/-- it is put -/
def putB (k : Wk) (lf : Bool) (ks vs : List ByteArray) (cs : List Int) : Bool := nodeOkB lf ks vs cs && decide (giveP k ≠ 0) && writeOk k.ps k.ls (giveP k) (nodeO lf ks vs cs)

def putK (k : Wk) (lf : Bool) (ks vs : List ByteArray) (cs : List Int) : Wk := if putB k lf ks vs cs = true then { giveK k with ls := writeL k.ps k.ls (giveP k) (nodeO lf ks vs cs) } else k

def putP (k : Wk) (lf : Bool) (ks vs : List ByteArray) (cs : List Int) : Int := if putB k lf ks vs cs = true then giveP k else 0

theorem put_no {k : Wk} {lf : Bool} {ks vs : List ByteArray} {cs : List Int} (h : putB k lf ks vs cs = false) : putK k lf ks vs cs = k ∧ putP k lf ks vs cs = 0 := by
  unfold putK putP
  rw [h]
  exact ⟨rfl, rfl⟩

theorem put_yes {k : Wk} {lf : Bool} {ks vs : List ByteArray} {cs : List Int} (h : putB k lf ks vs cs = true) : putK k lf ks vs cs = { giveK k with ls := writeL k.ps k.ls (giveP k) (nodeO lf ks vs cs) } ∧ putP k lf ks vs cs = giveP k := by
  unfold putK putP
  rw [h]
  exact ⟨rfl, rfl⟩

theorem give_disk (k : Wk) : (giveK k).ps = k.ps ∧ (giveK k).ls = k.ls := by
  unfold giveK
  split
  · exact ⟨rfl, rfl⟩
  · split <;> exact ⟨rfl, rfl⟩

theorem nodeO_small (lf : Bool) (ks vs : List ByteArray) (cs : List Int) : (nodeO lf ks vs cs).size ≤ 206 := by
  unfold nodeO
  split
  · next h => exact nodeT_size h
  · exact Nat.zero_le _

theorem putK_small {k : Wk} {lf : Bool} {ks vs : List ByteArray} {cs : List Int} (h : k.bulk ≤ 1048576) : (putK k lf ks vs cs).small := by
  unfold putK
  split
  · obtain ⟨g1, g2, g3, g4, g5, g6, g7⟩ := give_small h
    obtain ⟨h1, h2, h3, h4, -⟩ := bulkW_in h
    refine ⟨g1, g2, writeL_le h3, fun p hp => ?_, g5, g6, g7⟩
    have hp : p ∈ writeL k.ps k.ls (giveP k) (nodeO lf ks vs cs) := hp
    unfold writeL at hp
    split at hp
    · rcases List.mem_append.1 hp with hp | hp
      · exact h4 p hp
      · obtain rfl := List.mem_singleton.1 hp
        exact Nat.le_trans (nodeO_small lf ks vs cs) (by omega)
    · exact h4 p hp
  · exact bulkW_in h

/-- the disk of a work in a variable is another -/
theorem put_fin {w w5 : World} {kg : Wk} {ls' : List (Int × ByteArray)} {a1 g B U : Nat} {rs : Obj} {u0 u1 u3 u4 u5 d0 d1 : Value} {t : TypeId} (hv : w5.heap[g]? = some (Obj.cells #[u0, u1, .int .i64 kg.next, u3, u4, u5] t)) (hres : w5.heap[a1]? = some rs) (hw : WorkOwn w5 B (.agg #[u0, u1, .int .i64 kg.next, u3, u4, u5]) kg) (hu : ∀ j, workBlocks (.agg #[u0, u1, .int .i64 kg.next, u3, u4, u5]) j → j < U) (hg : U ≤ g) (hd : DiskOwn w5 (g + 1) (.agg #[d0, d1]) kg.ps ls') (ha : a1 < B) (hB : B ≤ g) (hwa : w.heap.size ≤ a1) (hlow : Below w.heap.size w w5) :
    ((w5.setCell ⟨g, 0, none⟩ d0).setCell ⟨g, 1, none⟩ d1).heap[g]? = some (Obj.cells #[d0, d1, .int .i64 kg.next, u3, u4, u5] t) ∧ ((w5.setCell ⟨g, 0, none⟩ d0).setCell ⟨g, 1, none⟩ d1).heap[a1]? = some rs ∧
    WorkOwn ((w5.setCell ⟨g, 0, none⟩ d0).setCell ⟨g, 1, none⟩ d1) B (.agg #[d0, d1, .int .i64 kg.next, u3, u4, u5]) { kg with ls := ls' } ∧ Below w.heap.size w ((w5.setCell ⟨g, 0, none⟩ d0).setCell ⟨g, 1, none⟩ d1) := by
  have hk : Kept w5 ((w5.setCell ⟨g, 0, none⟩ d0).setCell ⟨g, 1, none⟩ d1) (fun j => j = g) := kept_trans (kept_setCell _ _ _ _) (kept_setCell _ _ _ _) (fun _ _ h => h)
  obtain ⟨vp, vl, vu, vg, vf, e, h1, h2, h3, h4, h5⟩ := hw
  obtain ⟨rfl, rfl, -, rfl, rfl, rfl⟩ := agg6 e
  refine ⟨heap_setCell_same _ g 1 _ _ _ (heap_setCell_same w5 g 0 _ _ _ hv), (hk.2.2.2.2 a1 (Array.getElem?_eq_some_iff.1 hres).1 (by omega)).trans hres, ⟨d0, d1, _, _, _, rfl, ?_, ?_, ?_, ?_, h5⟩, hlow.trans (below_of_kept hk hlow.size (fun j e => by omega))⟩
  · obtain ⟨vp', vl', e, k1, k2⟩ := diskOwn_kept hd hk (fun j e h => by have := (diskOwn_lt hd j e).1; omega)
    exact ⟨vp', vl', e, own_down k1 (by omega), own_down k2 (by omega)⟩
  · exact intOwn_kept h2 hk (fun j e h => by have := hu j ⟨_, _, _, _, _, _, rfl, Or.inr (Or.inl e)⟩; omega)
  · exact intOwn_kept h3 hk (fun j e h => by have := hu j ⟨_, _, _, _, _, _, rfl, Or.inr (Or.inr (Or.inl e))⟩; omega)
  · exact intOwn_kept h4 hk (fun j e h => by have := hu j ⟨_, _, _, _, _, _, rfl, Or.inr (Or.inr (Or.inr e))⟩; omega)
end Go.Proofs.YtacmpggigdlmmaaDoor

namespace Go.Proofs.YtacmpggigdlmmaaDoor

abbrev Part := List ByteArray × List ByteArray × List Int

def halfParts (lf : Bool) (ks vs : List ByteArray) (cs : List Int) : List Part :=
  if 4 < ks.length then (if lf = true then [(ks.take 3, vs.take 3, []), (ks.drop 3, vs.drop 3, [])] else [(ks.take 3, [], cs.take 3), (ks.drop 3, [], cs.drop 3)]) else [(ks, vs, cs)]

/-- the parts are put one by one -/
noncomputable def halfL (lf : Bool) : Wk → List Part → Wk × List ByteArray × List Int × Bool
  | k, [] => (k, [], [], true)
  | k, p :: r => if putP k lf p.1 p.2.1 p.2.2 = 0 then (k, [], [], false) else
      ((halfL lf (putK k lf p.1 p.2.1 p.2.2) r).1, p.1.getD 0 ⟨#[]⟩ :: (halfL lf (putK k lf p.1 p.2.1 p.2.2) r).2.1, putP k lf p.1 p.2.1 p.2.2 :: (halfL lf (putK k lf p.1 p.2.1 p.2.2) r).2.2.1, (halfL lf (putK k lf p.1 p.2.1 p.2.2) r).2.2.2)

noncomputable def halfS (k : Wk) (lf : Bool) (ks vs : List ByteArray) (cs : List Int) : Wk × List ByteArray × List Int × Bool := halfL lf k (halfParts lf ks vs cs)

/-- so far: K, P of what was put; the rest is still to be put into k -/
def HalfAt (R : Wk × List ByteArray × List Int × Bool) (lf : Bool) (k : Wk) (K : List ByteArray) (P : List Int) (r : List Part) : Prop := R = ((halfL lf k r).1, K ++ (halfL lf k r).2.1, P ++ (halfL lf k r).2.2.1, (halfL lf k r).2.2.2)

theorem halfAt_start (k : Wk) (lf : Bool) (r : List Part) : HalfAt (halfL lf k r) lf k [] [] r := by unfold HalfAt; simp

theorem halfAt_no {R : Wk × List ByteArray × List Int × Bool} {lf : Bool} {k : Wk} {K : List ByteArray} {P : List Int} {p : Part} {r : List Part} (h : HalfAt R lf k K P (p :: r)) (h0 : putP k lf p.1 p.2.1 p.2.2 = 0) : R = (k, K, P, false) := by
  unfold HalfAt at h
  rw [halfL, if_pos h0] at h
  simpa using h

theorem halfAt_yes {R : Wk × List ByteArray × List Int × Bool} {lf : Bool} {k : Wk} {K : List ByteArray} {P : List Int} {p : Part} {r : List Part} (h : HalfAt R lf k K P (p :: r)) (h0 : putP k lf p.1 p.2.1 p.2.2 ≠ 0) : HalfAt R lf (putK k lf p.1 p.2.1 p.2.2) (K ++ [p.1.getD 0 ⟨#[]⟩]) (P ++ [putP k lf p.1 p.2.1 p.2.2]) r := by
  unfold HalfAt at h ⊢
  rw [halfL, if_neg h0] at h
  simpa using h

theorem halfAt_done {R : Wk × List ByteArray × List Int × Bool} {lf : Bool} {k : Wk} {K : List ByteArray} {P : List Int} (h : HalfAt R lf k K P []) : R = (k, K, P, true) := by
  unfold HalfAt at h
  rw [halfL] at h
  simpa using h

/-- room for m more in every list -/
def Wk.sm (k : Wk) (m : Nat) : Prop := k.ps.length ≤ 1048576 ∧ (∀ s ∈ k.ps, s.size ≤ 1048576) ∧ k.ls.length + m ≤ 1048576 ∧ (∀ p ∈ k.ls, p.2.size ≤ 1048576) ∧ k.us.length + m ≤ 1048576 ∧ k.gs.length + m ≤ 1048576 ∧ k.fs.length + m ≤ 1048576

theorem sm_small {k : Wk} {m : Nat} (h : k.sm m) : k.small := by
  obtain ⟨h1, h2, h3, h4, h5, h6, h7⟩ := h
  exact ⟨h1, h2, by omega, h4, by omega, by omega, by omega⟩

theorem sm_mono {k : Wk} {m m' : Nat} (h : k.sm m) (hm : m' ≤ m) : k.sm m' := by
  obtain ⟨h1, h2, h3, h4, h5, h6, h7⟩ := h
  exact ⟨h1, h2, by omega, h4, by omega, by omega, by omega⟩

theorem sm_give {k : Wk} {m : Nat} (h : k.sm (m + 1)) : (giveK k).sm m := by
  obtain ⟨h1, h2, h3, h4, h5, h6, h7⟩ := h
  cases hu : k.us with
  | cons x t =>
    rw [(give_cons hu).1]
    rw [hu] at h5
    simp at h5
    exact ⟨h1, h2, by show k.ls.length + m ≤ _; omega, h4, by show t.length + m ≤ _; omega, by show k.gs.length + m ≤ _; omega, by show (k.fs ++ [x]).length + m ≤ _; simp; omega⟩
  | nil =>
    by_cases hn : k.next < (k.ps.length : Int)
    · rw [(give_next hu hn).1]
      exact ⟨h1, h2, by show k.ls.length + m ≤ _; omega, h4, by show k.us.length + m ≤ _; omega, by show k.gs.length + m ≤ _; omega, by show (k.fs ++ [k.next]).length + m ≤ _; simp; omega⟩
    · rw [(give_none hu hn).1]
      exact ⟨h1, h2, by omega, h4, by omega, by omega, by omega⟩

theorem sm_put {k : Wk} {m : Nat} (h : k.sm (m + 1)) (lf : Bool) (ks vs : List ByteArray) (cs : List Int) : (putK k lf ks vs cs).sm m := by
  unfold putK
  split
  · obtain ⟨g1, g2, g3, g4, g5, g6, g7⟩ := sm_give h
    obtain ⟨h1, h2, h3, h4, -⟩ := h
    refine ⟨g1, g2, ?_, fun p hp => ?_, g5, g6, g7⟩
    · show (writeL k.ps k.ls (giveP k) (nodeO lf ks vs cs)).length + m ≤ _
      unfold writeL
      split
      · simp; omega
      · omega
    have hp : p ∈ writeL k.ps k.ls (giveP k) (nodeO lf ks vs cs) := hp
    unfold writeL at hp
    split at hp
    · rcases List.mem_append.1 hp with hp | hp
      · exact h4 p hp
      · obtain rfl := List.mem_singleton.1 hp
        exact Nat.le_trans (nodeO_small lf ks vs cs) (by omega)
    · exact h4 p hp
  · exact sm_mono h (by omega)

theorem put_ok {k : Wk} {lf : Bool} {ks vs : List ByteArray} {cs : List Int} (h : putP k lf ks vs cs ≠ 0) : nodeOkB lf ks vs cs = true := by
  cases hb : putB k lf ks vs cs with
  | false => exact absurd (put_no hb).2 h
  | true =>
    unfold putB at hb
    rw [Bool.and_eq_true, Bool.and_eq_true] at hb
    exact hb.1.1
end Go.Proofs.YtacmpggigdlmmaaDoor

namespace Go.Proofs.YtacmpggigdlmmaaDoor
open Go.RowKit

/-- the i-th four of a list -/
def four {α : Type} (l : List α) (i : Nat) : List α := (l.drop (4 * i)).take 4

/-- how many fours there are -/
def fours (n : Nat) : Nat := (n + 3) / 4

theorem fours_lt {n i : Nat} : 4 * i < n ↔ i < fours n := by unfold fours; omega

theorem four_len {α : Type} (l : List α) (i : Nat) : (four l i).length = min 4 (l.length - 4 * i) := by simp [four]

theorem four_map {α β : Type} (f : α → β) (l : List α) (i : Nat) : (four l i).map f = four (l.map f) i := by simp [four, List.map_take, List.map_drop]

theorem four_mem {α : Type} {l : List α} {i : Nat} {x : α} (h : x ∈ four l i) : x ∈ l := List.mem_of_mem_drop (List.mem_of_mem_take h)

theorem four_head {α : Type} (l : List α) (i : Nat) (d : α) : (four l i).getD 0 d = l.getD (4 * i) d := by
  unfold four
  simp [List.getD_eq_getElem?_getD, List.getElem?_drop]

/-- a work, keys and pages -/
abbrev Bst := Wk × List ByteArray × List Int

/-- a node that is put behind what there is: the work, the first keys and the pages -/
def oneS (st : Bst) (lf : Bool) (ks vs : List ByteArray) (cs : List Int) : Option Bst :=
  if putP st.1 lf ks vs cs = 0 then none else some (putK st.1 lf ks vs cs, st.2.1 ++ [ks.getD 0 ⟨#[]⟩], st.2.2 ++ [putP st.1 lf ks vs cs])

/-- the nodes of a level, put one by one from the i-th on, so many -/
def lvlR (N : Nat → Bool × List ByteArray × List ByteArray × List Int) : Nat → Nat → Bst → Option Bst
  | 0, _, st => some st
  | m + 1, i, st => (oneS st (N i).1 (N i).2.1 (N i).2.2.1 (N i).2.2.2).bind (lvlR N m (i + 1))

/-- the i-th leaf, the i-th node above -/
def lfN (L : List (ByteArray × ByteArray)) (i : Nat) : Bool × List ByteArray × List ByteArray × List Int := (true, (four L i).map (·.1), (four L i).map (·.2), [])
def mdN (ks : List ByteArray) (cs : List Int) (i : Nat) : Bool × List ByteArray × List ByteArray × List Int := (false, four ks i, [], four cs i)

def lvs (k : Wk) (L : List (ByteArray × ByteArray)) : Option Bst := lvlR (lfN L) (fours L.length) 0 (k, [], [])
def mds (st : Bst) : Option Bst := lvlR (mdN st.2.1 st.2.2) (fours st.2.2.length) 0 (st.1, [], [])

/-- level by level, so many -/
def its : Nat → Bst → Option Bst
  | 0, st => some st
  | j + 1, st => (mds st).bind (its j)

/-- how many levels there are above so many -/
def lup : Nat → Nat → Nat
  | 0, _ => 0
  | f + 1, c => if c ≤ 1 then 0 else lup f (fours c) + 1

/-- the keys ascend -/
def ascB (L : List (ByteArray × ByteArray)) : Bool := decide (∀ i, i < L.length → 0 < i → Op.bytesLess (L.getD (i - 1) (⟨#[]⟩, ⟨#[]⟩)).1.toList (L.getD i (⟨#[]⟩, ⟨#[]⟩)).1.toList = true)

theorem ascB_iff (L : List (ByteArray × ByteArray)) : ascB L = true ↔ ∀ i, i < L.length → 0 < i → Op.bytesLess (L.getD (i - 1) (⟨#[]⟩, ⟨#[]⟩)).1.toList (L.getD i (⟨#[]⟩, ⟨#[]⟩)).1.toList = true := by simp only [ascB, decide_eq_true_eq]

theorem asc_no {L : List (ByteArray × ByteArray)} {j : Nat} (hj : j + 1 < L.length) (h : Op.bytesLess (L.getD j (⟨#[]⟩, ⟨#[]⟩)).1.toList (L.getD (j + 1) (⟨#[]⟩, ⟨#[]⟩)).1.toList = false) : ascB L = false := by
  cases hu : ascB L with
  | false => rfl
  | true =>
    have h2 := (ascB_iff L).1 hu (j + 1) hj (by omega)
    rw [show j + 1 - 1 = j from rfl, h] at h2
    cases h2

/-- all levels above the leaves -/
def bldO (k : Wk) (L : List (ByteArray × ByteArray)) : Option Bst := (lvs k L).bind fun st => its (lup 21 st.2.2.length) st

/-- BuildTree -/
def bldS (k : Wk) (L : List (ByteArray × ByteArray)) : Wk × Int × Bool :=
  if ascB L = false then (k, 0, false) else match bldO k L with | none => (k, 0, false) | some r => (r.1, r.2.2.getD 0 0, true)

theorem bld_no {k : Wk} {L : List (ByteArray × ByteArray)} (h : ascB L = false) : bldS k L = (k, 0, false) := if_pos h
theorem bld_none {k : Wk} {L : List (ByteArray × ByteArray)} (h : ascB L = true) (h2 : bldO k L = none) : bldS k L = (k, 0, false) := by
  unfold bldS
  rw [if_neg (by rw [h]; decide), h2]
theorem bld_some {k : Wk} {L : List (ByteArray × ByteArray)} {r : Bst} (h : ascB L = true) (h2 : bldO k L = some r) : bldS k L = (r.1, r.2.2.getD 0 0, true) := by
  unfold bldS
  rw [if_neg (by rw [h]; decide), h2]

theorem lvs_nil (k : Wk) : lvs k [] = some (k, [], []) := rfl
theorem bldO_nil (k : Wk) : bldO k [] = some (k, [], []) := rfl

theorem one_some {st st' : Bst} {lf : Bool} {ks vs : List ByteArray} {cs : List Int} (h : oneS st lf ks vs cs = some st') : putP st.1 lf ks vs cs ≠ 0 ∧ st' = (putK st.1 lf ks vs cs, st.2.1 ++ [ks.getD 0 ⟨#[]⟩], st.2.2 ++ [putP st.1 lf ks vs cs]) := by
  unfold oneS at h
  split at h
  · cases h
  · next h0 => exact ⟨h0, by injection h with h; exact h.symm⟩

/-- room for m more pages that are fresh -/
def Wk.rm (k : Wk) (m : Nat) : Prop := k.ps.length ≤ 1048576 ∧ (∀ s ∈ k.ps, s.size ≤ 1048576) ∧ k.ls.length ≤ 1048576 ∧ (∀ p ∈ k.ls, p.2.size ≤ 1048576) ∧ k.us.length ≤ 1048576 ∧ k.gs.length ≤ 1048576 ∧ k.fs.length + m ≤ 2000000

theorem rm_small {k : Wk} {m : Nat} (h : k.rm m) : k.small := by
  obtain ⟨h1, h2, h3, h4, h5, h6, h7⟩ := h
  exact ⟨h1, h2, h3, h4, by omega, by omega, by omega⟩

theorem rm_mono {k : Wk} {m m' : Nat} (h : k.rm m) (hm : m' ≤ m) : k.rm m' := by
  obtain ⟨h1, h2, h3, h4, h5, h6, h7⟩ := h
  exact ⟨h1, h2, h3, h4, h5, h6, by omega⟩

theorem rm_bulk {k : Wk} (h : k.bulk ≤ 1048576) : k.rm 951424 := by
  obtain ⟨h1, h2, h3, h4, -⟩ := bulkW_in h
  unfold Wk.bulk at h
  exact ⟨h1, h2, h3, h4, by omega, by omega, by omega⟩

theorem rm_put {k : Wk} {m : Nat} (h : k.rm (m + 1)) (lf : Bool) (ks vs : List ByteArray) (cs : List Int) : (putK k lf ks vs cs).rm m := by
  have hg : (giveK k).ps = k.ps ∧ (giveK k).us.length ≤ k.us.length ∧ (giveK k).gs = k.gs ∧ (giveK k).fs.length ≤ k.fs.length + 1 := by
    cases hu : k.us with
    | cons x t =>
      rw [(give_cons hu).1]
      exact ⟨rfl, by simp, rfl, by simp⟩
    | nil =>
      by_cases hn : k.next < (k.ps.length : Int)
      · rw [(give_next hu hn).1]
        exact ⟨rfl, by rw [hu]; exact Nat.le_refl _, rfl, by simp⟩
      · rw [(give_none hu hn).1]
        exact ⟨rfl, by rw [hu]; exact Nat.le_refl _, rfl, by omega⟩
  obtain ⟨h1, h2, h3, h4, h5, h6, h7⟩ := h
  unfold putK
  split
  · obtain ⟨g1, g2, g3, g4⟩ := hg
    refine ⟨by show (giveK k).ps.length ≤ _; rw [g1]; exact h1, by show ∀ s ∈ (giveK k).ps, _; rw [g1]; exact h2, writeL_le h3, fun p hp => ?_, by show (giveK k).us.length ≤ _; omega, by show (giveK k).gs.length ≤ _; rw [g3]; exact h6, by show (giveK k).fs.length + m ≤ _; omega⟩
    have hp : p ∈ writeL k.ps k.ls (giveP k) (nodeO lf ks vs cs) := hp
    unfold writeL at hp
    split at hp
    · rcases List.mem_append.1 hp with hp | hp
      · exact h4 p hp
      · obtain rfl := List.mem_singleton.1 hp
        exact Nat.le_trans (nodeO_small lf ks vs cs) (by omega)
    · exact h4 p hp
  · exact ⟨h1, h2, h3, h4, h5, h6, by omega⟩

/-- short keys, as many as pages, and room -/
def Bst.ok (st : Bst) (i m : Nat) : Prop := st.2.1.length = i ∧ st.2.2.length = i ∧ (∀ s ∈ st.2.1, s.size ≤ 1048576) ∧ st.1.rm m

theorem one_ok {st st' : Bst} {lf : Bool} {ks vs : List ByteArray} {cs : List Int} {i m : Nat} (hs : st.ok i (m + 1)) (hk : ∀ s ∈ ks, s.size ≤ 1048576) (h : oneS st lf ks vs cs = some st') : st'.ok (i + 1) m := by
  obtain ⟨h1, h2, h3, h4⟩ := hs
  obtain ⟨-, rfl⟩ := one_some h
  refine ⟨by simp [h1], by simp [h2], fun s hm => ?_, rm_put h4 _ _ _ _⟩
  rcases List.mem_append.1 hm with hm | hm
  · exact h3 s hm
  · obtain rfl := List.mem_singleton.1 hm
    cases ks with
    | nil => exact Nat.zero_le _
    | cons x t => exact hk x List.mem_cons_self

theorem lvl_ok (N : Nat → Bool × List ByteArray × List ByteArray × List Int) (hN : ∀ i, ∀ s ∈ (N i).2.1, s.size ≤ 1048576) : ∀ (m i r : Nat) {st st' : Bst}, st.ok i (r + m) → lvlR N m i st = some st' → st'.ok (i + m) r
  | 0, i, r, st, st', hs, h => by
    injection h with h
    subst h
    exact hs
  | m + 1, i, r, st, st', hs, h => by
    rw [lvlR] at h
    cases e : oneS st (N i).1 (N i).2.1 (N i).2.2.1 (N i).2.2.2 with
    | none => rw [e] at h; cases h
    | some q =>
      rw [e] at h
      have h2 := lvl_ok N hN m (i + 1) r (one_ok (m := r + m) (by rw [Nat.add_assoc]; exact hs) (hN i) e) h
      rw [show i + (m + 1) = i + 1 + m from by omega]
      exact h2

theorem start_ok {k : Wk} {m : Nat} (h : k.rm m) : Bst.ok (k, [], []) 0 m := ⟨rfl, rfl, fun s hs => (by cases hs), h⟩

theorem lvs_ok {k : Wk} {L : List (ByteArray × ByteArray)} (hL : ∀ p ∈ L, p.1.size ≤ 1048576) {r : Nat} {st : Bst} (hk : k.rm (r + fours L.length)) (h : lvs k L = some st) : st.ok (fours L.length) r := by
  have := lvl_ok (lfN L) (fun i s hs => by
    obtain ⟨p, hp, rfl⟩ := List.mem_map.1 hs
    exact hL p (four_mem hp)) _ 0 r (start_ok hk) h
  rwa [Nat.zero_add] at this

theorem mds_ok {st st' : Bst} {i r : Nat} (hs : st.ok i (r + fours i)) (h : mds st = some st') : st'.ok (fours i) r := by
  obtain ⟨h1, h2, h3, h4⟩ := hs
  unfold mds at h
  rw [h2] at h
  have := lvl_ok (mdN st.2.1 st.2.2) (fun i s hs => h3 s (four_mem hs)) _ 0 r (start_ok h4) h
  rwa [Nat.zero_add] at this

/-- two levels are less than one -/
theorem fours_two {c : Nat} (h : 1 < c) : fours c + fours c ≤ c := by unfold fours; omega

/-- room for all levels above -/
def Bst.fit (st : Bst) : Prop := st.ok st.2.2.length st.2.2.length

theorem fit_up {st st' : Bst} (hs : st.fit) (h1 : 1 < st.2.2.length) (h : mds st = some st') : st'.fit ∧ st'.2.2.length = fours st.2.2.length := by
  have h2 := fours_two h1
  obtain ⟨a1, a2, a3, a4⟩ := hs
  have h3 := mds_ok (r := fours st.2.2.length) ⟨a1, rfl, a3, rm_mono a4 h2⟩ h
  refine ⟨?_, h3.2.1⟩
  unfold Bst.fit
  rw [h3.2.1]
  exact h3

theorem lvs_fit {k : Wk} {L : List (ByteArray × ByteArray)} (hL : ∀ p ∈ L, p.1.size ≤ 1048576) (hl : L.length ≤ 1048576) (hk : k.rm 951424) {st : Bst} (h : lvs k L = some st) : st.fit ∧ st.2.2.length = fours L.length := by
  have hf : fours L.length ≤ 262144 := by unfold fours; omega
  have h3 := lvs_ok (r := fours L.length) hL (rm_mono hk (by omega)) h
  refine ⟨?_, h3.2.1⟩
  unfold Bst.fit
  rw [h3.2.1]
  exact h3

theorem lup_one {f c : Nat} (h : c ≤ 1) : lup f c = 0 := by
  cases f with
  | zero => rfl
  | succ f => rw [lup, if_pos h]

/-- more fuel than is needed tells the same -/
theorem lup_more : ∀ (f c : Nat), c ≤ 2 ^ f → lup (f + 1) c = lup f c
  | 0, c, h => by rw [lup_one (by simpa using h), lup_one (by simpa using h)]
  | f + 1, c, h => by
    rw [lup]
    conv => rhs; rw [lup]
    split
    · rfl
    · rw [lup_more f (fours c) (by rw [Nat.pow_succ] at h; unfold fours; omega)]

theorem lup_up {c : Nat} (h1 : 1 < c) (h : c ≤ 1048576) : lup 21 c = lup 21 (fours c) + 1 := by
  have : lup 21 (fours c) = lup 20 (fours c) := lup_more 20 _ (by have := fours_two h1; omega)
  rw [this, lup, if_neg (by omega)]

theorem lup_le : ∀ (f c : Nat), lup f c ≤ f
  | 0, _ => Nat.le_refl _
  | f + 1, c => by
    rw [lup]
    split
    · omega
    · have := lup_le f (fours c); omega

end Go.Proofs.YtacmpggigdlmmaaDoor

namespace Go.Proofs.YtacmpggigdlmmaaDoor

open Classical in
/-- the right node whose bytes these are, and whether there is one -/
noncomputable def rdN (t : ByteArray) : Nd × Bool := if h : ∃ n, IsNd t n then (Classical.choose h, true) else (Nd.none, false)

theorem rdN_of {t : ByteArray} {n : Nd} {ok : Bool} (h : ReadN t n ok) : rdN t = (n, ok) := by
  unfold rdN
  rcases h with ⟨rfl, h1, h2⟩ | ⟨rfl, rfl, h2⟩
  · have hx : ∃ n, IsNd t n := ⟨n, h1⟩
    rw [dif_pos hx, h2 _ (Classical.choose_spec hx)]
  · rw [dif_neg (fun ⟨m, hm⟩ => h2 m hm)]

theorem rdN_ok {t : ByteArray} {n : Nd} (h : rdN t = (n, true)) : n.ok = true := by
  unfold rdN at h
  split at h
  · rename_i hx
    injection h with h1 h2
    rw [← h1]
    exact (Classical.choose_spec hx).1
  · injection h with h1 h2
    cases h2

theorem placeK_range (ks : List ByteArray) (key : ByteArray) : ∀ k : Nat, -1 ≤ placeK ks key k ∧ placeK ks key k < (k : Int)
  | 0 => by simp [placeK]
  | k + 1 => by
    have := placeK_range ks key k
    rw [placeK]
    split <;> omega

/-- GetKey, k levels from page p on -/
noncomputable def getL (D : Int → ByteArray) (key : ByteArray) : Nat → Int → Option ByteArray
  | 0, _ => none
  | k + 1, p =>
    if (rdN (D p)).2 = false ∨ placeK (rdN (D p)).1.ks key (rdN (D p)).1.ks.length < 0 then none
    else if (rdN (D p)).1.lf = true then
      (if (rdN (D p)).1.ks.getD (placeK (rdN (D p)).1.ks key (rdN (D p)).1.ks.length).toNat ⟨#[]⟩ = key then some ((rdN (D p)).1.vs.getD (placeK (rdN (D p)).1.ks key (rdN (D p)).1.ks.length).toNat ⟨#[]⟩) else none)
    else getL D key k ((rdN (D p)).1.cs.getD (placeK (rdN (D p)).1.ks key (rdN (D p)).1.ks.length).toNat 0)

/-- what the two results are -/
def getO : Option ByteArray → Value
  | none => .tuple #[.string ⟨#[]⟩, .bool false]
  | some v => .tuple #[.string v, .bool true]

noncomputable def getK (D : Int → ByteArray) (root : Int) (key : ByteArray) : Option ByteArray := if root = 0 then none else getL D key 8 root
end Go.Proofs.YtacmpggigdlmmaaDoor

namespace Go.Proofs.YtacmpggigdlmmaaDoor

/-- a page that was come to, what it tells, and the way down to it -/
structure Vis where
  page : Int
  nd : Nd
  way : List (Nd × Nat)

/-- behind the first i kids -/
def kidsL (f : Int → List (Nd × Nat) → List Int → List Vis × Option (List Int)) (n : Nd) (way : List (Nd × Nat)) (seen : List Int) : Nat → List Vis × Option (List Int)
  | 0 => ([], some seen)
  | i + 1 =>
    match kidsL f n way seen i with
    | (vs, none) => (vs, none)
    | (vs, some s) => (vs ++ (f (n.cs.getD i 0) (way ++ [(n, i)]) s).1, (f (n.cs.getD i 0) (way ++ [(n, i)]) s).2)

/-- k levels from page p on -/
def downL (R : Int → Nd × Bool) : Nat → Int → List (Nd × Nat) → List Int → List Vis × Option (List Int)
  | 0, _, _, _ => ([], none)
  | k + 1, p, way, seen =>
    if (R p).2 = false ∨ p ∈ seen then ([], none)
    else (⟨p, (R p).1, way⟩ :: (kidsL (downL R k) (R p).1 way (seen ++ [p]) (R p).1.cs.length).1, (kidsL (downL R k) (R p).1 way (seen ++ [p]) (R p).1.cs.length).2)

theorem kidsL_succ_some {f : Int → List (Nd × Nat) → List Int → List Vis × Option (List Int)} {n : Nd} {way : List (Nd × Nat)} {seen s : List Int} {i : Nat} (h : (kidsL f n way seen i).2 = some s) :
    kidsL f n way seen (i + 1) = ((kidsL f n way seen i).1 ++ (f (n.cs.getD i 0) (way ++ [(n, i)]) s).1, (f (n.cs.getD i 0) (way ++ [(n, i)]) s).2) := by
  rw [kidsL]
  generalize kidsL f n way seen i = r at h ⊢
  obtain ⟨vs, o⟩ := r
  simp only at h
  subst h
  rfl

theorem kidsL_succ_none {f : Int → List (Nd × Nat) → List Int → List Vis × Option (List Int)} {n : Nd} {way : List (Nd × Nat)} {seen : List Int} {i : Nat} (h : (kidsL f n way seen i).2 = none) :
    kidsL f n way seen (i + 1) = kidsL f n way seen i := by
  rw [kidsL]
  generalize kidsL f n way seen i = r at h ⊢
  obtain ⟨vs, o⟩ := r
  simp only at h
  subst h
  rfl

theorem kidsL_none {f : Int → List (Nd × Nat) → List Int → List Vis × Option (List Int)} {n : Nd} {way : List (Nd × Nat)} {seen : List Int} {i : Nat} (h : (kidsL f n way seen i).2 = none) : ∀ d, kidsL f n way seen (i + d) = kidsL f n way seen i
  | 0 => rfl
  | d + 1 => by
    have h2 := kidsL_none h d
    rw [Nat.add_succ, kidsL_succ_none (by rw [h2]; exact h), h2]

/-- what is met in a tree -/
structure Al where
  pairs : List (ByteArray × ByteArray)
  pages : List Int
  depths : List Int
  bad : Bool
  loose : Bool

def Al.none : Al := ⟨[], [], [], false, false⟩

def lessB (x y : ByteArray) : Bool := Op.bytesLess x.toList y.toList

/-- the bounds for the i-th kid -/
def leastB (n : Nd) (i : Nat) (low : ByteArray) : ByteArray := if lessB low (n.ks.getD i ⟨#[]⟩) = true then n.ks.getD i ⟨#[]⟩ else low
def nearB (n : Nd) (i : Nat) (high : ByteArray) (has : Bool) : Bool := decide (i + 1 < n.ks.length) && (!has || lessB (n.ks.getD (i + 1) ⟨#[]⟩) high)
def nextB (n : Nd) (i : Nat) (high : ByteArray) (has : Bool) : ByteArray := if nearB n i high has = true then n.ks.getD (i + 1) ⟨#[]⟩ else high
def moreB (n : Nd) (i : Nat) (high : ByteArray) (has : Bool) : Bool := if nearB n i high has = true then true else has

/-- is a key of a leaf outside -/
def outB (k low high : ByteArray) (has : Bool) : Bool := lessB k low || (has && !lessB k high)

/-- one key -/
def stepS (f : Int → Nat → ByteArray → ByteArray → Bool → Al → Al) (n : Nd) (deep : Nat) (low high : ByteArray) (has : Bool) (i : Nat) (a : Al) : Al :=
  if n.lf = true then { a with loose := a.loose || outB (n.ks.getD i ⟨#[]⟩) low high has, pairs := a.pairs ++ [(n.ks.getD i ⟨#[]⟩, n.vs.getD i ⟨#[]⟩)] }
  else f (n.cs.getD i 0) (deep + 1) (leastB n i low) (nextB n i high has) (moreB n i high has) a

/-- behind the first i keys -/
def loopS (f : Int → Nat → ByteArray → ByteArray → Bool → Al → Al) (n : Nd) (deep : Nat) (low high : ByteArray) (has : Bool) (a : Al) : Nat → Al
  | 0 => a
  | i + 1 => stepS f n deep low high has i (loopS f n deep low high has a i)

def walkS (R : Int → Nd × Bool) : Nat → Int → Nat → ByteArray → ByteArray → Bool → Al → Al
  | 0, _, _, _, _, _, a => { a with bad := true }
  | k + 1, p, deep, low, high, has, a =>
    if (R p).2 = false ∨ p ∈ a.pages ∨ a.bad = true then { a with bad := true }
    else if (R p).1.lf = true then { (loopS (walkS R k) (R p).1 deep low high has { a with pages := a.pages ++ [p] } (R p).1.ks.length) with depths := (loopS (walkS R k) (R p).1 deep low high has { a with pages := a.pages ++ [p] } (R p).1.ks.length).depths ++ [(deep : Int)] }
    else loopS (walkS R k) (R p).1 deep low high has { a with pages := a.pages ++ [p] } (R p).1.ks.length

theorem walkS_bad (R : Int → Nd × Bool) (k : Nat) (p : Int) (deep : Nat) (low high : ByteArray) (has : Bool) (a : Al) (h : a.bad = true) : walkS R k p deep low high has a = a := by
  cases a
  simp only at h
  subst h
  cases k with
  | zero => rfl
  | succ k => rw [walkS, if_pos (Or.inr (Or.inr rfl))]

/-- the pairs of one node -/
def pairsN (n : Nd) : List (ByteArray × ByteArray) := (List.range n.vs.length).map fun i => (n.ks.getD i ⟨#[]⟩, n.vs.getD i ⟨#[]⟩)
def pairsV (l : List Vis) : List (ByteArray × ByteArray) := l.flatMap fun v => pairsN v.nd
def pagesV (l : List Vis) : List Int := l.map Vis.page

/-- the nodes that are read are right -/
def Right (R : Int → Nd × Bool) : Prop := ∀ p, (R p).2 = true → (R p).1.ok = true

theorem loopS_leaf (f : Int → Nat → ByteArray → ByteArray → Bool → Al → Al) (n : Nd) (hl : n.lf = true) (deep : Nat) (low high : ByteArray) (has : Bool) (a : Al) : ∀ i,
    (loopS f n deep low high has a i).bad = a.bad ∧ (loopS f n deep low high has a i).pages = a.pages ∧ (loopS f n deep low high has a i).depths = a.depths ∧
    (loopS f n deep low high has a i).pairs = a.pairs ++ (List.range i).map (fun i => (n.ks.getD i ⟨#[]⟩, n.vs.getD i ⟨#[]⟩))
  | 0 => by simp [loopS]
  | i + 1 => by
    obtain ⟨h1, h2, h3, h4⟩ := loopS_leaf f n hl deep low high has a i
    rw [loopS, stepS, if_pos hl]
    refine ⟨h1, h2, h3, ?_⟩
    simp only
    rw [h4, List.range_succ, List.map_append, List.append_assoc]
    rfl

theorem both_walk (R : Int → Nd × Bool) (hR : Right R) : ∀ (k : Nat) (p : Int) (way : List (Nd × Nat)) (deep : Nat) (low high : ByteArray) (has : Bool) (a : Al), a.bad = false →
    ((downL R k p way a.pages).2 = none → (walkS R k p deep low high has a).bad = true) ∧
    (∀ s, (downL R k p way a.pages).2 = some s → (walkS R k p deep low high has a).bad = false ∧ (walkS R k p deep low high has a).pages = s ∧ s = a.pages ++ pagesV (downL R k p way a.pages).1 ∧ (walkS R k p deep low high has a).pairs = a.pairs ++ pairsV (downL R k p way a.pages).1)
  | 0, p, way, deep, low, high, has, a, h => by
    refine ⟨fun _ => rfl, fun s hs => ?_⟩
    rw [downL] at hs
    cases hs
  | k + 1, p, way, deep, low, high, has, a, h => by
    by_cases hb : (R p).2 = false ∨ p ∈ a.pages
    · rw [downL, if_pos hb, walkS, if_pos (by rcases hb with hb | hb; exact Or.inl hb; exact Or.inr (Or.inl hb))]
      exact ⟨fun _ => rfl, fun s hs => by cases hs⟩
    · rw [downL, if_neg hb, walkS, if_neg (fun hh => by rcases hh with hh | hh | hh; exact hb (Or.inl hh); exact hb (Or.inr hh); rw [h] at hh; cases hh)]
      have hok : (R p).1.ok = true := hR p (by cases hc : (R p).2; exact absurd (Or.inl hc) hb; rfl)
      obtain ⟨n, hn⟩ : ∃ n, n = (R p).1 := ⟨_, rfl⟩
      rw [← hn] at hok ⊢
      obtain ⟨he1, he2⟩ := even_ok hok
      cases hlf : n.lf with
      | true =>
        obtain ⟨e1, e2⟩ := he1 hlf
        rw [if_pos rfl, e2, List.length_nil, kidsL]
        obtain ⟨h1, h2, h3, h4⟩ := loopS_leaf (walkS R k) n hlf deep low high has { a with pages := a.pages ++ [p] } n.ks.length
        refine ⟨fun hh => (by cases hh), fun s hs => ?_⟩
        injection hs with hs
        refine ⟨h1.trans h, h2.trans hs, ?_, ?_⟩
        · rw [← hs]
          rfl
        · simp only
          rw [h4, pairsV]
          simp only [List.flatMap_cons, List.flatMap_nil, List.append_nil, pairsN, e1]
      | false =>
        obtain ⟨e1, e2⟩ := he2 hlf
        rw [if_neg (by decide)]
        obtain ⟨b, hbb⟩ : ∃ b : Al, b = { a with pages := a.pages ++ [p] } := ⟨_, rfl⟩
        have hb1 : b.bad = false := by rw [hbb]; exact h
        have hb2 : b.pages = a.pages ++ [p] := by rw [hbb]
        have hb3 : b.pairs = a.pairs := by rw [hbb]
        rw [← hbb, ← hb2]
        have key : ∀ i, ((kidsL (downL R k) n way b.pages i).2 = none → (loopS (walkS R k) n deep low high has b i).bad = true) ∧
            (∀ s, (kidsL (downL R k) n way b.pages i).2 = some s → (loopS (walkS R k) n deep low high has b i).bad = false ∧ (loopS (walkS R k) n deep low high has b i).pages = s ∧ s = b.pages ++ pagesV (kidsL (downL R k) n way b.pages i).1 ∧ (loopS (walkS R k) n deep low high has b i).pairs = b.pairs ++ pairsV (kidsL (downL R k) n way b.pages i).1) := by
          intro i
          induction i with
          | zero =>
            refine ⟨fun hh => (by cases hh), fun s hs => ?_⟩
            injection hs with hs
            refine ⟨hb1, hs, ?_, ?_⟩
            · rw [← hs]; simp [kidsL, pagesV]
            · simp [kidsL, pairsV, loopS]
          | succ i ih =>
            rw [loopS, stepS, if_neg (by rw [hlf]; decide)]
            cases hk : (kidsL (downL R k) n way b.pages i).2 with
            | none =>
              rw [kidsL_succ_none hk]
              have hbad := ih.1 hk
              rw [walkS_bad _ _ _ _ _ _ _ _ hbad]
              exact ⟨fun _ => hbad, fun s hs => by rw [hk] at hs; cases hs⟩
            | some s0 =>
              obtain ⟨i1, i2, i3, i4⟩ := ih.2 s0 hk
              rw [kidsL_succ_some hk]
              have hrec := both_walk R hR k (n.cs.getD i 0) (way ++ [(n, i)]) (deep + 1) (leastB n i low) (nextB n i high has) (moreB n i high has) (loopS (walkS R k) n deep low high has b i) i1
              rw [i2] at hrec
              refine ⟨hrec.1, fun s hs => ?_⟩
              obtain ⟨r1, r2, r3, r4⟩ := hrec.2 s hs
              refine ⟨r1, r2, ?_, ?_⟩
              · refine r3.trans ((congrArg (fun l => l ++ pagesV _) i3).trans ?_)
                simp only [pagesV, List.map_append, List.append_assoc]
              · rw [r4, i4]
                simp only [pairsV, List.flatMap_append, List.append_assoc]
        obtain ⟨k1, k2⟩ := key n.ks.length
        rw [e1]
        refine ⟨k1, fun s hs => ?_⟩
        obtain ⟨r1, r2, r3, r4⟩ := k2 s hs
        refine ⟨r1, r2, ?_, ?_⟩
        · rw [r3, hb2]
          simp only [pagesV, List.map_cons, List.append_assoc, List.singleton_append]
        · rw [r4, hb3]
          simp only [pairsV, List.flatMap_cons, pairsN, e2, List.length_nil, List.range_zero, List.map_nil, List.nil_append]

/-- what the program meets -/
def seenI (R : Int → Nd × Bool) (root : Int) : List Vis × Bool := if root = 0 then ([], true) else ((downL R 8 root [] []).1, (downL R 8 root [] []).2.isSome)

/-- what the model meets -/
def seenS (R : Int → Nd × Bool) (root : Int) : Al := if root = 0 then Al.none else walkS R 8 root 0 ⟨#[]⟩ ⟨#[]⟩ false Al.none

def allI (R : Int → Nd × Bool) (root : Int) : List (ByteArray × ByteArray) × Bool := if (seenI R root).2 = true then (pairsV (seenI R root).1, true) else ([], false)
def allS (R : Int → Nd × Bool) (root : Int) : List (ByteArray × ByteArray) × Bool := if (seenS R root).bad = true then ([], false) else ((seenS R root).pairs, true)

theorem both_seen (R : Int → Nd × Bool) (hR : Right R) (root : Int) : (seenS R root).bad = !(seenI R root).2 ∧ ((seenI R root).2 = true → (seenS R root).pages = pagesV (seenI R root).1 ∧ (seenS R root).pairs = pairsV (seenI R root).1) := by
  unfold seenS seenI
  by_cases h : root = 0
  · rw [if_pos h, if_pos h]
    exact ⟨rfl, fun _ => ⟨rfl, rfl⟩⟩
  · rw [if_neg h, if_neg h]
    obtain ⟨h1, h2⟩ := both_walk R hR 8 root [] 0 ⟨#[]⟩ ⟨#[]⟩ false Al.none rfl
    simp only [Al.none] at h1 h2 ⊢
    cases hd : (downL R 8 root [] []).2 with
    | none => exact ⟨h1 hd, fun hh => by cases hh⟩
    | some s =>
      obtain ⟨r1, r2, r3, r4⟩ := h2 s hd
      refine ⟨r1, fun _ => ⟨?_, ?_⟩⟩
      · rw [r2, r3]; rfl
      · rw [r4]; rfl

theorem both_all (R : Int → Nd × Bool) (hR : Right R) (root : Int) : allI R root = allS R root := by
  obtain ⟨h1, h2⟩ := both_seen R hR root
  unfold allI allS
  cases hi : (seenI R root).2 with
  | true => rw [hi] at h1 h2; rw [if_pos rfl, if_neg (by rw [h1]; decide), (h2 rfl).2]
  | false => rw [hi] at h1; rw [if_neg (by decide), if_pos (by rw [h1]; rfl)]
end Go.Proofs.YtacmpggigdlmmaaDoor

namespace Go.Proofs.YtacmpggigdlmmaaDoor
open Go Go.RowKit

/-- of what lay nothing but C's blocks has turned -/
def KeptC (C : Nat → Prop) (W W' : World) : Prop := W'.os = W.os ∧ W'.tape = W.tape ∧ W'.output = W.output ∧ W.heap.size ≤ W'.heap.size ∧ ∀ k, k < W.heap.size → ¬ C k → W'.heap[k]? = W.heap[k]?

theorem keptC_refl (C : Nat → Prop) (W : World) : KeptC C W W := ⟨rfl, rfl, rfl, Nat.le_refl _, fun _ _ _ => rfl⟩

theorem keptC_trans {C C' : Nat → Prop} {A B D : World} (h : KeptC C A B) (k : KeptC C' B D) (hC : ∀ j, C' j → C j ∨ A.heap.size ≤ j) : KeptC C A D :=
  ⟨k.1.trans h.1, k.2.1.trans h.2.1, k.2.2.1.trans h.2.2.1, Nat.le_trans h.2.2.2.1 k.2.2.2.1, fun j hj hn => (k.2.2.2.2 j (Nat.lt_of_lt_of_le hj h.2.2.2.1) (fun hc => by rcases hC j hc with h1 | h1; exact hn h1; omega)).trans (h.2.2.2.2 j hj hn)⟩

theorem keptC_mono {C C' : Nat → Prop} {A B : World} (h : KeptC C A B) (hC : ∀ j, j < A.heap.size → C j → C' j) : KeptC C' A B :=
  ⟨h.1, h.2.1, h.2.2.1, h.2.2.2.1, fun j hj hn => h.2.2.2.2 j hj (fun hc => hn (hC j hj hc))⟩

theorem keptC_below {C : Nat → Prop} {A B : World} {n0 : Nat} (h : KeptC C A B) (hC : ∀ k, C k → n0 ≤ k) (hn : n0 ≤ A.heap.size) : Below n0 A B :=
  ⟨h.1, h.2.1, h.2.2.1, h.2.2.2.1, fun k hk => h.2.2.2.2 k (by omega) (fun hc => by have := hC k hc; omega)⟩

theorem keptC_of_below {C : Nat → Prop} {A B : World} (h : Below A.heap.size A B) : KeptC C A B :=
  ⟨h.os, h.tape, h.output, h.size, fun k hk _ => h.block k hk⟩

theorem keptC_alloc (C : Nat → Prop) (W : World) (o : Obj) : KeptC C W (W.alloc o) := keptC_of_below ((Below.refl _ W).alloc (Nat.le_refl _) _)

theorem keptC_putObj {C : Nat → Prop} (W : World) {l : Nat} (o : Obj) (hl : C l) : KeptC C W (W.putObj l o) :=
  ⟨rfl, rfl, rfl, by simp, fun k _ hn => World.putObj_heap_other (fun e => hn (e ▸ hl))⟩

theorem keptC_setCell {C : Nat → Prop} (W : World) {b : Nat} (j : Nat) (v : Value) (hl : C b) : KeptC C W (W.setCell ⟨b, j, none⟩ v) :=
  ⟨rfl, rfl, rfl, (KeepsWalks.setCell W _ v).size, fun k _ hn => Below.heap_setCell _ _ _ k (fun e => hn (by rw [e]; exact hl))⟩

theorem room_none {F : Fence} (hd : F.depth = none) (k : Nat) : F.room k := fun d h => by rw [hd] at h; cases h

/-- the contract of an iterator that keeps its own state: J: between two rounds; Jx: where a round has said that it is enough; M: what the iterator's value has captured -/
def SeqSep {α : Type} (F : Fence) (n : Nat) (P : Program) (g : Nat) (lb : Array Value) (encs : α → Array Value) (Lies : α → (Nat → Prop) → World → Prop) (M : Nat → Prop) (n0 : Nat) (S Sp : List α → Prop) (w : World) : Prop :=
  ∀ (l : Nat) (J Jx : List α → (Nat → Prop) → World → Prop) (C0 : Nat → Prop) (W : World), Below w.heap.size w W → (∀ k, C0 k → ¬ M k) →
    (∀ pre C A B, J pre C A → KeptC (fun k => ¬ C k) A B → J pre C B) →
    (∀ pre C A, J pre C A → ∀ k, C k → n0 ≤ k ∧ k < A.heap.size) →
    (∀ pre x C W1 m, J pre C W1 → Lies x C W1 → YieldAt F m P l (encs x) W1 fun e W' => ∃ C', KeptC C W1 W' ∧ (∀ k, C' k → C k ∨ W1.heap.size ≤ k) ∧
      ((e = .returned (.bool true) ∧ J (pre ++ [x]) C' W') ∨ (e = .returned (.bool false) ∧ Jx (pre ++ [x]) C' W'))) →
    J [] C0 W →
    CallsIn F n P g (#[.func (.yield l) #[] #[]] ++ lb) W fun e W' => (∃ v, e = .returned v) ∧ Below n0 W W' ∧ ((∃ xs C, S xs ∧ J xs C W') ∨ (∃ pre C, Sp pre ∧ Jx pre C W'))

/-- how the body of a round may be left -/
def sepPost {α : Type} (I : List α → (Nat → Prop) → World → Prop) (Ix : Code → List α → (Nat → Prop) → World → Prop) (xs : List α) (C : Nat → Prop) (W : World) : Exit → Act → World → Prop
  | .normal, _, W' => ∃ C', KeptC C W W' ∧ (∀ k, C' k → C k ∨ W.heap.size ≤ k) ∧ I xs C' W'
  | .ret, _, W' => ∃ C', KeptC C W W' ∧ (∀ k, C' k → C k ∨ W.heap.size ≤ k) ∧ Ix .ret xs C' W'
  | .exit _, _, _ => False
  | .goto _, _, _ => False
  | .panic _, _, _ => False
  | .outgrown, _, _ => False

theorem wpIn_rangeFunc_sep {F : Fence} {n : Nat} {P : Program} {α : Type} {g : Operand} {ps : Array Tmp} {assign body : Code} {Q : Exit → Act → World → Prop} {a : Act} {w : World}
    (hro : F.round = none) (hdep : F.depth = none) {gf : Nat} {lb : Array Value} (hg : a.eval g = .func (.func gf) #[] lb) (hFg : F.fn gf) (eg : ∀ args w, (callFunc gf args).run P w = .ok (.enter gf args) w)
    {encs : α → Array Value} {Lies : α → (Nat → Prop) → World → Prop} {M : Nat → Prop} {n0 : Nat} {S Sp : List α → Prop} (hseq : SeqSep F (n - 1) P gf lb encs Lies M n0 S Sp w) (hn0 : n0 ≤ w.heap.size) (hM : ∀ k, M k → k < w.heap.size)
    (hL : ∀ x C C' A B, Lies x C A → KeptC C A B → (∀ k, C' k → C k ∨ A.heap.size ≤ k) → Lies x C' B)
    (hps : ∀ x, (encs x).size = ps.size)
    (I : List α → (Nat → Prop) → World → Prop) (Ix : Code → List α → (Nat → Prop) → World → Prop)
    (hI : ∀ pre C A B, I pre C A → KeptC (fun k => ¬ C k) A B → I pre C B) (hIx : ∀ c pre C A B, Ix c pre C A → KeptC (fun k => ¬ C k) A B → Ix c pre C B)
    (hIn : ∀ pre C A, I pre C A → ∀ k, C k → n0 ≤ k ∧ k < A.heap.size)
    (C0 : Nat → Prop) (h0 : I [] C0 w) (hC0 : ∀ k, C0 k → ¬ M k)
    (Ax : α → Act → (Nat → Prop) → World → Prop) (hAx : ∀ x a' C A B, Ax x a' C A → KeptC (fun k => ¬ C k) A B → Ax x a' C B)
    (hassign : ∀ (l : Nat) (m : Nat) (pre : List α) (x : α) (C : Nat → Prop) (W : World) (K : Act → World → Prop), I pre C W → Lies x C W → (∀ a' C' W', KeptC C W W' → (∀ k, C' k → C k ∨ W.heap.size ≤ k) → I pre C' W' → Ax x a' C' W' → K a' W') →
      assign.wpIn (F.inRound l) m P (Exit.then K (fun _ _ _ => False)) { tmps := (ps.zip (encs x)).foldl (fun t (p, v) => t.setIfInBounds p v) a.tmps, defers := [] } W)
    (hbody : ∀ (l : Nat) (m : Nat) (pre : List α) (x : α) (a' : Act) (C : Nat → Prop) (W : World), I pre C W → Ax x a' C W → Lies x C W → body.wpIn (F.inRound l) m P (sepPost I Ix (pre ++ [x]) C W) a' W)
    (hdone : ∀ (D : Nat) (xs : List α) (C : Nat → Prop) (W : World), w.heap.size ≤ D → ¬ C D → S xs → I xs C W → Below n0 w W → W.heap[D]? = some (.deferred (some [])) → Q .normal { a with defers := { target := .collected D, args := #[] } :: a.defers } W)
    (hstop : ∀ (D : Nat) (c : Code) (pre : List α) (C : Nat → Prop) (W : World), w.heap.size ≤ D → ¬ C D → Sp pre → Ix c pre C W → Below n0 w W → W.heap[D]? = some (.deferred (some [])) → c.wpIn F n P Q { a with defers := { target := .collected D, args := #[] } :: a.defers } W) :
    (Code.rangeFunc g ps assign body).wpIn F n P Q a w := by
  refine wpIn_rangeFunc ?_
  intro fn hfn
  rw [hro]
  obtain ⟨rec, hrec⟩ : ∃ rec : LoopState → Option Code → Loop, rec = fun st pe => { state := st, pending := pe, fn, tmps := a.tmps, params := ps, assign, body, defers := w.heap.size } := ⟨_, rfl⟩
  obtain ⟨W1, hW1⟩ : ∃ W1, (w.alloc (.deferred (some []))).alloc (.loop (rec .ready none)) = W1 := ⟨_, rfl⟩
  have hL1 : W1.heap[w.heap.size + 1]? = some (.loop (rec .ready none)) := by
    rw [← hW1]; have := World.alloc_heap_new (w.alloc (.deferred (some []))) (.loop (rec .ready none)); rwa [World.size_alloc] at this
  have hK1 : W1.heap[w.heap.size]? = some (.deferred (some [])) := by
    rw [← hW1]; exact (Below.heap_alloc _ _ _ (by simp)).trans (World.alloc_heap_new w _)
  have hB1 : Below w.heap.size w W1 := by
    rw [← hW1]; exact ((Below.refl _ w).alloc (Nat.le_refl _) _).alloc (by simp) _
  have hI1 : I [] C0 W1 := hI _ _ _ _ h0 (keptC_of_below hB1)
  have hlw : ∀ k, C0 k → k < w.heap.size := fun k hk => (hIn _ _ _ h0 k hk).2
  refine ⟨w.heap.size + 1, [{ target := .collected w.heap.size, args := #[] }], W1, { target := .fn (.func gf) lb, args := #[.func (.yield (w.heap.size + 1)) #[] #[]] }, W1, gf,
    #[.func (.yield (w.heap.size + 1)) #[] #[]] ++ lb, W1, ?_, ?_, ?_, ?_, (fun h => by rw [hdep] at h; cases h), ?_⟩
  · rw [← hW1, hrec]; exact run_enterLoop_outer _ _ _ _ _
  · simp only [resolve, hg]
    simp [go_sem]
  · intro f' hf'; simp [Target.leads] at hf'; subst hf'; exact hFg
  · simp [invoke, go_sem, eg]
  · obtain ⟨X, hX⟩ : ∃ X : Nat → Prop, X = fun k => k = w.heap.size + 1 ∨ k = w.heap.size := ⟨_, rfl⟩
    have hXl : X (w.heap.size + 1) := by rw [hX]; exact Or.inl rfl
    have hXd : X w.heap.size := by rw [hX]; exact Or.inr rfl
    have hXc : ∀ k, X k → k = w.heap.size + 1 ∨ k = w.heap.size := fun k h => by rw [hX] at h; exact h
    refine (hseq (w.heap.size + 1)
      (fun pre C W => ∃ C1, C = (fun k => C1 k ∨ X k) ∧ (∀ k, C1 k → ¬ X k) ∧ I pre C1 W ∧ W.heap[w.heap.size + 1]? = some (.loop (rec .ready none)) ∧ W.heap[w.heap.size]? = some (.deferred (some [])))
      (fun pre C W => ∃ c C1, C = (fun k => C1 k ∨ X k) ∧ (∀ k, C1 k → ¬ X k) ∧ Ix c pre C1 W ∧ W.heap[w.heap.size + 1]? = some (.loop (rec .done (some c))) ∧ W.heap[w.heap.size]? = some (.deferred (some [])))
      (fun k => C0 k ∨ X k) W1 hB1 ?_ ?_ ?_ ?_ ⟨C0, rfl, fun k hk hx => by have := hlw k hk; rcases hXc k hx with h | h <;> omega, hI1, hL1, hK1⟩).mono ?_
    · rintro k (hk | hk) hm
      · exact hC0 k hk hm
      · have := hM k hm
        rcases hXc k hk with h | h <;> omega
    · rintro pre C A B ⟨C1, rfl, hd, hi, hl, hk⟩ hAB
      have hs : ∀ j, (C1 j ∨ X j) → j < A.heap.size → B.heap[j]? = A.heap[j]? := fun j hj hlt => hAB.2.2.2.2 j hlt (fun h => h hj)
      exact ⟨C1, rfl, hd, hI _ _ _ _ hi (keptC_mono hAB (fun j _ hn hc => hn (Or.inl hc))), (hs _ (Or.inr hXl) (Array.getElem?_eq_some_iff.1 hl).1).trans hl, (hs _ (Or.inr hXd) (Array.getElem?_eq_some_iff.1 hk).1).trans hk⟩
    · rintro pre C A ⟨C1, rfl, hd, hi, hl, hk⟩ k (hc | hc)
      · exact hIn _ _ _ hi k hc
      · have h1 := (Array.getElem?_eq_some_iff.1 hl).1
        rcases hXc k hc with h | h <;> constructor <;> omega
    · -- one round
      rintro pre x C W m ⟨C1, rfl, hd, hi, hl, hk⟩ hlies
      have hlt : w.heap.size + 1 < W.heap.size := (Array.getElem?_eq_some_iff.1 hl).1
      have hy := run_yield (P := P) (args := encs x) hl (by rw [hrec]; exact hps x)
      rw [hrec] at hy
      have hlies1 : Lies x C1 W := hL x _ C1 W W hlies (keptC_refl _ _) (fun k h => Or.inl (Or.inl h))
      refine ⟨fn, _, assign, body, hy, roundIn_of_wpIn hfn (hassign _ m pre x C1 W _ hi hlies1 ?_)⟩
      clear hy
      intro a' C2 Wa hka hca hia hax
      have hnl : ¬ C1 (w.heap.size + 1) := fun h => hd _ h hXl
      have hnd : ¬ C1 w.heap.size := fun h => hd _ h hXd
      have hla := (hka.2.2.2.2 _ hlt hnl).trans hl
      have hkaa := (hka.2.2.2.2 _ (by omega) hnd).trans hk
      have hnl2 : ¬ C2 (w.heap.size + 1) := fun h => by rcases hca _ h with h | h; exact hnl h; omega
      have hnd2 : ¬ C2 w.heap.size := fun h => by rcases hca _ h with h | h; exact hnd h; omega
      have hlta : w.heap.size + 1 < Wa.heap.size := (Array.getElem?_eq_some_iff.1 hla).1
      refine ⟨_, run_beginRound hla (by rw [hrec]), ?_⟩
      obtain ⟨Wb, hWb⟩ : ∃ Wb, Wb = Wa.putObj (w.heap.size + 1) (.loop { rec .ready none with state := .busy }) := ⟨_, rfl⟩
      rw [← hWb]
      have hlb : Wb.heap[w.heap.size + 1]? = some (.loop { rec .ready none with state := .busy }) := by rw [hWb]; exact World.putObj_heap_same hlta
      have hkb : Wb.heap[w.heap.size]? = some (.deferred (some [])) := by rw [hWb]; exact (World.putObj_heap_other (by omega)).trans hkaa
      have hab : KeptC (fun k => ¬ C2 k) Wa Wb := by rw [hWb]; exact keptC_putObj Wa _ hnl2
      have habX : KeptC X Wa Wb := by rw [hWb]; exact keptC_putObj Wa _ hXl
      have hszb : Wb.heap.size = Wa.heap.size := by rw [hWb]; simp
      have hlies2 : Lies x C2 Wb := hL x (fun k => C2 k ∨ X k) C2 Wa Wb (hL x _ _ W Wa hlies (keptC_mono hka (fun j _ h => Or.inl h)) (fun k h => by
        rcases h with h | h
        · rcases hca k h with h | h
          · exact Or.inl (Or.inl h)
          · exact Or.inr h
        · exact Or.inl (Or.inr h))) (keptC_mono habX (fun j _ h => Or.inr h)) (fun k h => Or.inl (Or.inl h))
      refine wpIn_mono (hbody _ m pre x a' C2 Wb (hI _ _ _ _ hia hab) (hAx _ _ _ _ _ hax hab) hlies2) ?_
      have hWX : KeptC (fun k => C1 k ∨ X k) W Wb := keptC_trans (keptC_mono hka (fun j _ h => Or.inl h)) habX (fun j h => Or.inl (Or.inr h))
      have hszW : W.heap.size ≤ Wb.heap.size := hWX.2.2.2.1
      have fin : ∀ (jump : Option Code) (C3 : Nat → Prop) (W3 : World), KeptC C2 Wb W3 → (∀ k, C3 k → C2 k ∨ Wb.heap.size ≤ k) →
          (Instr.endRound (w.heap.size + 1) jump).run P W3 = .ok (.bool jump.isNone) (W3.putObj (w.heap.size + 1) (.loop (rec (if jump.isNone then .ready else .done) jump))) ∧
          (W3.putObj (w.heap.size + 1) (.loop (rec (if jump.isNone then .ready else .done) jump))).heap[w.heap.size + 1]? = some (.loop (rec (if jump.isNone then .ready else .done) jump)) ∧
          (W3.putObj (w.heap.size + 1) (.loop (rec (if jump.isNone then .ready else .done) jump))).heap[w.heap.size]? = some (.deferred (some [])) ∧
          (∀ k, C3 k → ¬ X k) ∧ KeptC (fun k => ¬ C3 k) W3 (W3.putObj (w.heap.size + 1) (.loop (rec (if jump.isNone then .ready else .done) jump))) ∧
          KeptC (fun k => C1 k ∨ X k) W (W3.putObj (w.heap.size + 1) (.loop (rec (if jump.isNone then .ready else .done) jump))) ∧ (∀ k, (C3 k ∨ X k) → (C1 k ∨ X k) ∨ W.heap.size ≤ k) := fun jump C3 W3 hk3 hc3 => by
        have hl3 := (hk3.2.2.2.2 _ (Array.getElem?_eq_some_iff.1 hlb).1 hnl2).trans hlb
        have hd3 := (hk3.2.2.2.2 _ (Array.getElem?_eq_some_iff.1 hkb).1 hnd2).trans hkb
        have := run_endRound (P := P) jump hl3
        have hx3 : ∀ k, C3 k → ¬ X k := fun k h hx => by
          rcases hc3 k h with h | h
          · rcases hXc k hx with e | e <;> subst e
            · exact hnl2 h
            · exact hnd2 h
          · rcases hXc k hx with e | e <;> omega
        rw [hrec] at this ⊢
        refine ⟨this, World.putObj_heap_same (Array.getElem?_eq_some_iff.1 hl3).1, (World.putObj_heap_other (by omega)).trans hd3, hx3, keptC_putObj W3 _ (fun h => hx3 _ h hXl), ?_, ?_⟩
        · refine keptC_trans (keptC_trans hWX hk3 (fun j h => ?_)) (keptC_putObj (C := X) W3 _ hXl) (fun j h => Or.inl (Or.inr h))
          rcases hca j h with h | h
          · exact Or.inl (Or.inl h)
          · exact Or.inr h
        · rintro k (h | h)
          · rcases hc3 k h with h | h
            · rcases hca k h with h | h
              · exact Or.inl (Or.inl h)
              · exact Or.inr h
            · exact Or.inr (by omega)
          · exact Or.inl (Or.inr h)
      rintro e a3 W3 hp
      cases e with
      | normal =>
        obtain ⟨C3, hk3, hc3, hi3⟩ := hp
        obtain ⟨hr, hl4, hk4, hx4, hs4, hw4, hn4⟩ := fin none C3 W3 hk3 hc3
        exact ⟨_, _, hr, _, hw4, hn4, .inl ⟨rfl, C3, rfl, hx4, hI _ _ _ _ hi3 hs4, hl4, hk4⟩⟩
      | ret =>
        obtain ⟨C3, hk3, hc3, hi3⟩ := hp
        obtain ⟨hr, hl4, hk4, hx4, hs4, hw4, hn4⟩ := fin (some .ret) C3 W3 hk3 hc3
        exact ⟨_, _, hr, _, hw4, hn4, .inr ⟨rfl, .ret, C3, rfl, hx4, hIx _ _ _ _ _ hi3 hs4, hl4, hk4⟩⟩
      | exit id => exact hp.elim
      | goto t => exact hp.elim
      | panic ch => exact hp.elim
      | outgrown => exact hp.elim
    · -- behind the iterator
      rintro e W2 ⟨⟨v, rfl⟩, hb2, (⟨xs, C, hS, C1, rfl, hd, hi, hl, hk⟩ | ⟨pre, C, hSp, c, C1, rfl, hd, hi, hl, hk⟩)⟩
      · have hnl : ¬ C1 (w.heap.size + 1) := fun h => hd _ h hXl
        refine ⟨none, _, by have := run_endLoop (P := P) hl (by rw [hrec]; simp); rw [hrec] at this; exact this, hdone _ xs C1 _ (Nat.le_refl _) (fun h => hd _ h hXd) hS (hI _ _ _ _ hi (keptC_putObj W2 _ hnl)) ?_ ((World.putObj_heap_other (by omega)).trans hk)⟩
        exact ((hB1.mono hn0).trans hb2).trans (keptC_below (keptC_putObj (C := X) W2 _ hXl) (fun k h => by rcases hXc k h with e | e <;> omega) (by have := hb2.size; have := hB1.size; omega))
      · have hnl : ¬ C1 (w.heap.size + 1) := fun h => hd _ h hXl
        refine ⟨some c, _, by have := run_endLoop (P := P) hl (by rw [hrec]; simp); rw [hrec] at this; exact this, hstop _ c pre C1 _ (Nat.le_refl _) (fun h => hd _ h hXd) hSp (hIx _ _ _ _ _ hi (keptC_putObj W2 _ hnl)) ?_ ((World.putObj_heap_other (by omega)).trans hk)⟩
        exact ((hB1.mono hn0).trans hb2).trans (keptC_below (keptC_putObj (C := X) W2 _ hXl) (fun k h => by rcases hXc k h with e | e <;> omega) (by have := hb2.size; have := hB1.size; omega))
end Go.Proofs.YtacmpggigdlmmaaDoor

namespace Go.Proofs.YtacmpggigdlmmaaDoor
open Go.RowKit

/-- a row of pairs -/
def prs (l : List (ByteArray × ByteArray)) : List Value := l.flatMap fun p => [.string p.1, .string p.2]

theorem prs_snoc (l : List (ByteArray × ByteArray)) (k v : ByteArray) : prs l ++ [.string k, .string v] = prs (l ++ [(k, v)]) := by simp [prs]

theorem prs_length (l : List (ByteArray × ByteArray)) : (prs l).length = l.length * 2 := by
  induction l with
  | nil => rfl
  | cons p l ih => simp only [prs, List.flatMap_cons, List.length_append, List.length_cons, List.length_nil] at ih ⊢; omega

theorem ints_snoc (l : List Int) (x : Int) : ints l ++ [.int .i64 x] = ints (l ++ [x]) := by simp [ints]

/-- its blocks -/
def AlF (ga : Nat) (vp vg vd : Value) (k : Nat) : Prop := k = ga ∨ vp.ownBlock = some k ∨ vg.ownBlock = some k ∨ vd.ownBlock = some k

theorem Tryd.pair_int : (53 : Nat) ≠ 3 := by decide

theorem kept_app {W w' : World} {o : Obj} {v : Value} (hg : (W.alloc o).grownBy w' v.ownBlock) : Kept W w' (fun k => v.ownBlock = some k) :=
  ⟨hg.os, hg.tape, hg.output, Nat.le_trans (by simp) hg.size, fun k hk hn => (hg.block k (by simp; omega) (fun e => hn e.symm)).trans (heap_alloc_old W o hk)⟩

end Go.Proofs.YtacmpggigdlmmaaDoor

namespace Go.Proofs.YtacmpggigdlmmaaDoor
open Go.RowKit

theorem prs_cons (p : ByteArray × ByteArray) (l : List (ByteArray × ByteArray)) : prs (p :: l) = Value.string p.1 :: .string p.2 :: prs l := rfl

theorem prs_at (l : List (ByteArray × ByteArray)) : ∀ k (h : k < l.length), (prs l)[k * 2]? = some (.string l[k].1) ∧ (prs l)[k * 2 + 1]? = some (.string l[k].2) := by
  induction l with
  | nil => intro k h; simp at h
  | cons p l ih =>
    intro k h
    cases k with
    | zero => exact ⟨rfl, rfl⟩
    | succ k =>
      rw [prs_cons, show (k + 1) * 2 = k * 2 + 1 + 1 from by omega]
      exact ih k (by simpa using h)

theorem prs_set (l : List (ByteArray × ByteArray)) : ∀ (k : Nat) (p : ByteArray) (x : ByteArray), k < l.length → ((prs l).set (k * 2) (.string p)).set (k * 2 + 1) (.string x) = prs (l.set k (p, x)) := by
  induction l with
  | nil => intro k p x h; simp at h
  | cons q l ih =>
    intro k p x h
    cases k with
    | zero => rfl
    | succ k =>
      rw [prs_cons, show (k + 1) * 2 = k * 2 + 1 + 1 from by omega, List.set_cons_succ, List.set_cons_succ, List.set_cons_succ, List.set_cons_succ, ih k p x (by simpa using h), List.set_cons_succ, prs_cons]

set_option maxHeartbeats 2000000 in
set_option maxRecDepth 100000 in
theorem eqPair_any (p q t u : ByteArray) (w : World) :
    Calls Tryd.prog 27 #[.agg #[.string p, .string t], .agg #[.string q, .string u]] w fun e w' => e = .returned (.bool (decide ((p, t) = (q, u)))) ∧ Below w.heap.size w w' := by
  have hbB : ∀ o o' : Obj, Below w.heap.size w ((w.alloc o).alloc o') := fun o o' => ((Below.refl w.heap.size w).alloc (Nat.le_refl _) _).alloc (by simp) _
  have HB := hide hbB
  clear hbB
  have hbp := ba_beq p q
  have hbq := ba_beq t u
  by_cases hp : p = q
  · rw [decide_eq_true hp] at hbp
    by_cases ht : t = u
    · have HD : Hid (decide ((p, t) = (q, u)) = true) := hide (by subst ht hp; simp)
      rw [decide_eq_true ht] at hbq
      clear ht hp
      go_enter Tryd.func27, Tryd.ntmps27
      go_wp2
      go_ret
      rw [HD.out]
      exact ⟨rfl, HB.out _ _⟩
    · have HD : Hid (decide ((p, t) = (q, u)) = false) := hide (by simp [ht])
      rw [decide_eq_false ht] at hbq
      clear ht hp
      go_enter Tryd.func27, Tryd.ntmps27
      go_wp2
      go_ret
      rw [HD.out]
      exact ⟨rfl, HB.out _ _⟩
  · have HD : Hid (decide ((p, t) = (q, u)) = false) := hide (by simp [hp])
    rw [decide_eq_false hp] at hbp
    clear hp
    go_enter Tryd.func27, Tryd.ntmps27
    go_wp2
    go_ret
    rw [HD.out]
    exact ⟨rfl, HB.out _ _⟩

set_option maxHeartbeats 2000000 in
set_option maxRecDepth 100000 in
theorem eqPairS_row (l m : List (ByteArray × ByteArray)) (hl : l.length ≤ 9223372036854775807) (_hm : m.length ≤ 9223372036854775807) (v u : Value) (w : World) (hr : RowAt w 2 v l.length (prs l)) (hq : RowAt w 2 u m.length (prs m)) :
    Calls Tryd.prog 11 #[v, u] w fun e w' => e = .returned (.bool (decide (l = m))) ∧ Below w.heap.size w w' := by
  obtain ⟨-, a, cap, rfl, h2⟩ := hr
  obtain ⟨-, a', cap', rfl, h3⟩ := hq
  have HR := hide h2
  have HQ := hide h3
  clear h2 h3
  by_cases hne : l.length = m.length
  · have HN := hide hne
    rw [← hne]
    clear hne
    go_enter Tryd.func11, Tryd.ntmps11
    go_wp2
    go_loopg [5] l.length (fun q iv wr => ∃ k : Nat, k ≤ l.length ∧ iv = .int .i64 (k : Int) ∧ q + k = l.length ∧ Hid (l.take k = m.take k) ∧ Below w.heap.size w wr)
    case atStart => exact ⟨0, Nat.zero_le _, rfl, rfl, hide (by simp), Below.refl _ _⟩
    case round =>
      obtain ⟨k, hk, rfl, hg, HT, hb⟩ := hrel
      have HG := hide hg
      clear hg
      by_cases hlt : k < l.length
      · rcases HR.out with hn0 | ⟨b, off, rfl, hbl, hc⟩
        · omega
        · rcases HQ.out with hn0 | ⟨b', off', rfl, hbl', hc'⟩
          · have := HN.out; omega
          · have hltm : k < m.length := by have := HN.out; omega
            obtain ⟨p, x, hx⟩ : ∃ p x, (p, x) = l[k] := ⟨_, _, rfl⟩
            obtain ⟨q, y, hy⟩ : ∃ q y, (q, y) = m[k] := ⟨_, _, rfl⟩
            have hc0 : wr.cell? ⟨b, off + k * 2, none⟩ = some (.string p) := by rw [hb.cell (by exact hbl), hc (k * 2) (by omega), (prs_at l k hlt).1, ← hx]
            have hc1 : wr.cell? ⟨b, off + k * 2 + 1, none⟩ = some (.string x) := by rw [hb.cell (by exact hbl), Nat.add_assoc, hc (k * 2 + 1) (by omega), (prs_at l k hlt).2, ← hx]
            have hd0 : wr.cell? ⟨b', off' + k * 2, none⟩ = some (.string q) := by rw [hb.cell (by exact hbl'), hc' (k * 2) (by omega), (prs_at m k hltm).1, ← hy]
            have hd1 : wr.cell? ⟨b', off' + k * 2 + 1, none⟩ = some (.string y) := by rw [hb.cell (by exact hbl'), Nat.add_assoc, hc' (k * 2 + 1) (by omega), (prs_at m k hltm).2, ← hy]
            have HX := hide hx
            have HY := hide hy
            have hk0 : (0 : Int) ≤ (k : Int) := by omega
            have hk1 : (k : Int) < (l.length : Int) := by omega
            have hbw : b < wr.heap.size := Nat.lt_of_lt_of_le hbl hb.size
            have hbw' : b' < wr.heap.size := Nat.lt_of_lt_of_le hbl' hb.size
            clear hc hc' hx hy
            by_cases hxy : (p, x) = (q, y)
            · have HT2 : Hid (l.take (k + 1) = m.take (k + 1)) := hide (by rw [List.take_succ_eq_append_getElem hlt, List.take_succ_eq_append_getElem hltm, HT.out, ← HX.out, ← HY.out, hxy])
              have HC := hide (eqPair_any p q x y)
              rw [decide_eq_true hxy] at HC
              clear hxy
              go_wp2_with fail
              go_region_held3 (fun wx => wx.cell? ⟨b, off + k * 2, none⟩ = some (.string p) ∧ wx.cell? ⟨b, off + k * 2 + 1, none⟩ = some (.string x) ∧ wx.cell? ⟨b', off' + k * 2, none⟩ = some (.string q) ∧ wx.cell? ⟨b', off' + k * 2 + 1, none⟩ = some (.string y)) (first | exact ⟨hc0, hc1, hd0, hd1⟩ | exact hS2) ((go_at_call 27; refine (HC.out _).mono ?_; rintro e w2 ⟨rfl, hb2⟩; have hS2 : w2.cell? ⟨b, off + k * 2, none⟩ = some (.string p) ∧ w2.cell? ⟨b, off + k * 2 + 1, none⟩ = some (.string x) ∧ w2.cell? ⟨b', off' + k * 2, none⟩ = some (.string q) ∧ w2.cell? ⟨b', off' + k * 2 + 1, none⟩ = some (.string y) := ⟨(hb2.cell (by exact hbw)).trans hc0, (hb2.cell (by exact hbw)).trans hc1, (hb2.cell (by exact hbw')).trans hd0, (hb2.cell (by exact hbw')).trans hd1⟩))
              all_goals
                have hb3 : Below w.heap.size w w2 := hb.trans ((Below.refl _ _).drew.trans (hb2.mono hb.size))
                clear hb2
                go_wp2_with fail
                go_roundg (gk - 1)
                case measure => have := HG.out; omega
                case rel => exact ⟨k + 1, by omega, by go_num, by have := HG.out; omega, HT2, hb3⟩
            · have HD := hide (list_ne hlt hltm (by rw [← HX.out, ← HY.out]; exact hxy))
              have HC := hide (eqPair_any p q x y)
              rw [decide_eq_false hxy] at HC
              clear hxy
              go_wp2_with fail
              go_region_held3 (fun wx => wx.cell? ⟨b, off + k * 2, none⟩ = some (.string p) ∧ wx.cell? ⟨b, off + k * 2 + 1, none⟩ = some (.string x) ∧ wx.cell? ⟨b', off' + k * 2, none⟩ = some (.string q) ∧ wx.cell? ⟨b', off' + k * 2 + 1, none⟩ = some (.string y)) (first | exact ⟨hc0, hc1, hd0, hd1⟩ | exact hS2) ((go_at_call 27; refine (HC.out _).mono ?_; rintro e w2 ⟨rfl, hb2⟩; have hS2 : w2.cell? ⟨b, off + k * 2, none⟩ = some (.string p) ∧ w2.cell? ⟨b, off + k * 2 + 1, none⟩ = some (.string x) ∧ w2.cell? ⟨b', off' + k * 2, none⟩ = some (.string q) ∧ w2.cell? ⟨b', off' + k * 2 + 1, none⟩ = some (.string y) := ⟨(hb2.cell (by exact hbw)).trans hc0, (hb2.cell (by exact hbw)).trans hc1, (hb2.cell (by exact hbw')).trans hd0, (hb2.cell (by exact hbw')).trans hd1⟩))
              all_goals
                have hb3 : Below w.heap.size w w2 := hb.trans ((Below.refl _ _).drew.trans (hb2.mono hb.size))
                clear hb2
                go_wp2_with fail
                go_ret
                rw [HD.out]
                exact ⟨rfl, hb3⟩
      · have HD : Hid (decide (l = m) = true) := hide (decide_eq_true (by
          have h1 := HT.out
          rw [List.take_of_length_le (by omega), List.take_of_length_le (by have := HN.out; omega)] at h1
          exact h1))
        go_wp2
        go_ret
        rw [HD.out]
        exact ⟨rfl, hb⟩
  · have HD : Hid (decide (l = m) = false) := hide (decide_eq_false (fun e => hne (by rw [e])))
    have hq1 : ¬ ((l.length : Int) = (m.length : Int)) := by omega
    clear hne
    go_enter Tryd.func11, Tryd.ntmps11
    go_wp2
    go_ret
    rw [HD.out]
    exact ⟨rfl, Below.refl _ _⟩

/-- the marks of pairs from k on, n of them -/
def marksQ (k n : Nat) : List (ByteArray × ByteArray) := (List.range n).map fun i => (markB (k + i * 2), markB (k + i * 2 + 1))

theorem marksQ_length (k n : Nat) : (marksQ k n).length = n := by simp [marksQ]

theorem marksQ_at (k n i : Nat) (h : i < n) : (prs (marksQ k n))[i * 2]? = some (.string (markB (k + i * 2))) ∧ (prs (marksQ k n))[i * 2 + 1]? = some (.string (markB (k + i * 2 + 1))) := by
  have := prs_at (marksQ k n) i (by rw [marksQ_length]; exact h)
  simpa [marksQ] using this

theorem marksQ_of (k n : Nat) (m : List (ByteArray × ByteArray)) (hl : m.length = n) (h : ∀ i, i < n → m[i]? = some (markB (k + i * 2), markB (k + i * 2 + 1))) : m = marksQ k n := by
  apply List.ext_getElem?
  intro i
  by_cases hi : i < n
  · rw [h i hi]; simp [marksQ, hi]
  · rw [List.getElem?_eq_none (by omega), List.getElem?_eq_none (by rw [marksQ_length]; omega)]

set_option maxHeartbeats 2000000 in
set_option maxRecDepth 100000 in
theorem markPairS_row (l : List (ByteArray × ByteArray)) (hl : l.length ≤ 1048576) (v : Value) (B k0 : Nat) (hk0 : 0 < k0) (hk1 : k0 ≤ 1048576000) (w : World) (ha : w.ownsRow B 53 2 v l.length (prs l)) :
    Calls Tryd.prog 13 #[v, .int .i64 (k0 : Int)] w fun e w' => e = .returned (.int .i64 ((k0 + l.length * 2 : Nat) : Int)) ∧ w'.ownsRow B 53 2 v l.length (prs (marksQ k0 l.length)) ∧ Kept w w' (fun k => v.ownBlock = some k) := by
  obtain ⟨a, cap, rfl⟩ : ∃ a cap, v = .slice a l.length cap := by obtain ⟨-, a, cap, e, -⟩ := row_of_own ha; exact ⟨a, cap, e⟩
  have HA := hide ha
  clear ha
  go_enter Tryd.func13, Tryd.ntmps13
  go_wp2
  go_loopg [1, 5] l.length (fun q kv iv wr => ∃ (k : Nat) (m : List (ByteArray × ByteArray)), k ≤ l.length ∧ kv = .int .i64 ((k0 + k * 2 : Nat) : Int) ∧ iv = .int .i64 (k : Int) ∧ q + k = l.length ∧ Hid (wr.ownsRow B 53 2 (.slice a l.length cap) l.length (prs m)) ∧ Hid (m.length = l.length ∧ ∀ i, i < k → m[i]? = some (markB (k0 + i * 2), markB (k0 + i * 2 + 1))) ∧ Hid (Kept w wr (fun k => (Value.slice a l.length cap).ownBlock = some k)))
  case atStart => exact ⟨0, l, Nat.zero_le _, rfl, rfl, rfl, HA, hide ⟨rfl, fun i h => by omega⟩, hide (kept_refl _ _)⟩
  case round =>
    obtain ⟨k, m, hk, rfl, rfl, hg, HOwn, HM, HK⟩ := hrel
    have HG := hide hg
    clear hg
    by_cases hlt : k < l.length
    · obtain ⟨g, rfl⟩ : ∃ g, a = some ⟨g, 0, none⟩ := by
        rcases HOwn.out.2 with ⟨e, h0⟩ | ⟨g, c, cur, e, _⟩
        · omega
        · injection e with e1; exact ⟨g, e1⟩
      have hkm : k < m.length := by rw [HM.out.1]; exact hlt
      obtain ⟨u0, u1, hu⟩ : ∃ (u0 : ByteArray) (u1 : ByteArray), (prs m)[k * 2]? = some (.string u0) ∧ (prs m)[k * 2 + 1]? = some (.string u1) := ⟨_, _, prs_at m k hkm⟩
      obtain ⟨p, hp⟩ : ∃ p, p = k0 + k * 2 := ⟨_, rfl⟩
      have hp1 : ((k0 + k * 2 : Nat) : Int) = (p : Int) := by rw [hp]
      have hpl : p ≤ 1048576000 + 2097152 := by omega
      have HC0 := hide (markText_row p (by omega) (by omega))
      have HC := hide (markText_row (p + 1) (by omega) (by omega))
      rw [show ((p + 1 : Nat) : Int) = (p : Int) + 1 from by omega] at HC
      have HKm := hide hkm
      have HU := hide hu
      have HP := hide hp
      have hi0 : (0 : Int) ≤ (k : Int) := by omega
      have hi1 : (k : Int) < (l.length : Int) := by omega
      rw [hp1]
      clear hkm hu hp hp1
      go_wp2_with fail
      refine (HC0.out _).mono ?_
      rintro e w1 ⟨rfl, hb1⟩
      have hown1 := own_stays HOwn.out hb1
      have hf0 : w1.frozen? ⟨g, k * 2, none⟩ = false := hown1.frozenAt _
      have hc0 : w1.cell? ⟨g, k * 2, none⟩ = some (.string u0) := by rw [hown1.cellAt (k * 2) (by omega), HU.out.1]
      have HOw1 := hide ((hown1.stored (k * 2) (.string (markB p))).1)
      have HB1 := hide hb1
      clear hown1 hb1
      go_wp2_with fail
      refine (HC.out _).mono ?_
      rintro e w2 ⟨rfl, hb2⟩
      have hown2 := own_stays HOw1.out hb2
      have hf1 : w2.frozen? ⟨g, k * 2 + 1, none⟩ = false := hown2.frozenAt _
      have hc1 : w2.cell? ⟨g, k * 2 + 1, none⟩ = some (.string u1) := by rw [hown2.cellAt (k * 2 + 1) (by omega), List.getElem?_set_ne (by omega), HU.out.2]
      have HO := hide ((hown2.stored (k * 2 + 1) (.string (markB (p + 1)))).1)
      rw [prs_set m k _ _ HKm.out] at HO
      have HM2 : Hid ((m.set k (markB p, markB (p + 1))).length = l.length ∧ ∀ i, i < k + 1 → (m.set k (markB p, markB (p + 1)))[i]? = some (markB (k0 + i * 2), markB (k0 + i * 2 + 1))) := hide ⟨by rw [List.length_set]; exact HM.out.1, fun i hi => by
        by_cases e : k = i
        · subst e; rw [List.getElem?_set_self HKm.out, HP.out]
        · rw [List.getElem?_set_ne e]; exact HM.out.2 i (by omega)⟩
      have HK2 : Hid (Kept w (w2.setCell ⟨g, k * 2 + 1, none⟩ (.string (markB (p + 1)))) (fun k => (Value.slice (some ⟨g, 0, none⟩) l.length cap).ownBlock = some k)) := hide (kept_trans (kept_trans (kept_trans (kept_trans HK.out (kept_of_all HB1.out (fun _ => False)) (fun j _ h => h.elim)) (kept_setCell w1 g (k * 2) _) (fun j _ h => by rw [h]; rfl)) (kept_of_all hb2 (fun _ => False)) (fun j _ h => h.elim)) (kept_setCell w2 g _ _) (fun j _ h => by rw [h]; rfl))
      clear hc0 hf0
      clear hb2 hown2
      go_wp2_with fail
      go_roundg (gk - 1)
      case measure => have := HG.out; omega
      case rel => exact ⟨k + 1, _, by omega, by have := HP.out; go_num, by go_num, by have := HG.out; omega, HO, HM2, HK2⟩
    · have hkn : k = l.length := by omega
      have HO : Hid (wr.ownsRow B 53 2 (.slice a l.length cap) l.length (prs (marksQ k0 l.length))) := hide (by
        have e : m = marksQ k0 l.length := marksQ_of k0 l.length m HM.out.1 (fun i hi => HM.out.2 i (by omega))
        rw [← e]; exact HOwn.out)
      have HKn := hide hkn
      clear hkn
      go_wp2_with fail
      go_ret
      exact ⟨by rw [HKn.out]; rfl, HO.out, HK.out⟩

end Go.Proofs.YtacmpggigdlmmaaDoor

namespace Go.Proofs.YtacmpggigdlmmaaDoor
open Go.RowKit

/-- what is said of some blocks alone -/
structure Ast where
  F : Nat → Prop
  P : World → Prop
  loc : ∀ W W', P W → (∀ k, F k → W'.heap[k]? = W.heap[k]?) → P W'

/-- a block -/
def cellA (g : Nat) (o : Obj) : Ast := ⟨fun k => k = g, fun W => W.heap[g]? = some o, fun _ _ h hk => (hk g rfl).trans h⟩

/-- a row of our own -/
def rowA (B e sz : Nat) (v : Value) (n : Nat) (xs : List Value) : Ast := ⟨fun k => v.ownBlock = some k, fun W => W.ownsRow B e sz v n xs, fun W W' h hk => by
  refine ⟨h.1, ?_⟩
  rcases h.2 with ⟨rfl, hn⟩ | ⟨g, cap, cur, rfl, hg, hh, rest⟩
  · exact Or.inl ⟨rfl, hn⟩
  · exact Or.inr ⟨g, cap, cur, rfl, hg, (hk g rfl).trans hh, rest⟩⟩

/-- they lie side by side, in blocks from B on -/
def Sep (B : Nat) (W : World) (l : List Ast) : Prop := (∀ A ∈ l, A.P W ∧ ∀ k, A.F k → B ≤ k ∧ k < W.heap.size) ∧ l.Pairwise (fun A A' => ∀ k, A.F k → ¬ A'.F k)

theorem sep_nil (B : Nat) (W : World) : Sep B W [] := ⟨fun _ h => (by cases h), List.Pairwise.nil⟩

theorem sep_get {B : Nat} {W : World} {l : List Ast} (h : Sep B W l) (i : Nat) {A : Ast} (hi : l[i]? = some A) : A.P W := (h.1 A (List.mem_of_getElem? hi)).1

theorem sep_lt {B : Nat} {W : World} {l : List Ast} (h : Sep B W l) (i : Nat) {A : Ast} (hi : l[i]? = some A) : ∀ k, A.F k → B ≤ k ∧ k < W.heap.size := (h.1 A (List.mem_of_getElem? hi)).2

theorem sep_apart {B : Nat} {W : World} {l : List Ast} (h : Sep B W l) (i j : Nat) {A A' : Ast} (hi : l[i]? = some A) (hj : l[j]? = some A') (hne : i ≠ j) : ∀ k, A.F k → ¬ A'.F k := by
  obtain ⟨hi1, rfl⟩ := List.getElem?_eq_some_iff.1 hi
  obtain ⟨hj1, rfl⟩ := List.getElem?_eq_some_iff.1 hj
  rcases Nat.lt_or_gt_of_ne hne with h1 | h1
  · exact List.pairwise_iff_getElem.1 h.2 i j hi1 hj1 h1
  · exact fun k ha hb => List.pairwise_iff_getElem.1 h.2 j i hj1 hi1 h1 k hb ha

theorem sep_agree {B : Nat} {W W' : World} {l : List Ast} (h : Sep B W l) (hs : W.heap.size ≤ W'.heap.size) (hk : ∀ A ∈ l, ∀ k, A.F k → W'.heap[k]? = W.heap[k]?) : Sep B W' l :=
  ⟨fun A hA => ⟨A.loc W W' (h.1 A hA).1 (hk A hA), fun k hF => ⟨((h.1 A hA).2 k hF).1, Nat.lt_of_lt_of_le ((h.1 A hA).2 k hF).2 hs⟩⟩, h.2⟩

theorem sep_below {B : Nat} {W W' : World} {l : List Ast} (h : Sep B W l) (hb : Below W.heap.size W W') : Sep B W' l :=
  sep_agree h hb.size (fun A hA k hF => hb.block k ((h.1 A hA).2 k hF).2)

theorem sep_drew {B : Nat} {W : World} {l : List Ast} (h : Sep B W l) : Sep B W.drew l := sep_below h (Below.refl _ _).drew

theorem sep_alloc {B : Nat} {W : World} {l : List Ast} (h : Sep B W l) (o : Obj) : Sep B (W.alloc o) l := sep_below h ((Below.refl _ _).alloc (Nat.le_refl _) o)

/-- all changes lie in S, which none of them stands in -/
theorem sep_kept {B : Nat} {W W' : World} {l : List Ast} {S : Nat → Prop} (h : Sep B W l) (hk : Kept W W' S) (hS : ∀ A ∈ l, ∀ k, A.F k → ¬ S k) : Sep B W' l :=
  sep_agree h hk.2.2.2.1 (fun A hA k hF => hk.2.2.2.2 k ((h.1 A hA).2 k hF).2 (hS A hA k hF))

theorem sep_cons {B : Nat} {W : World} {A : Ast} {l : List Ast} : Sep B W (A :: l) ↔ (A.P W ∧ ∀ k, A.F k → B ≤ k ∧ k < W.heap.size) ∧ (∀ A' ∈ l, ∀ k, A.F k → ¬ A'.F k) ∧ Sep B W l := by
  constructor
  · rintro ⟨h1, h2⟩
    obtain ⟨h3, h4⟩ := List.pairwise_cons.1 h2
    exact ⟨h1 A List.mem_cons_self, h3, fun A' h => h1 A' (List.mem_cons_of_mem _ h), h4⟩
  · rintro ⟨h1, h2, h3, h4⟩
    refine ⟨fun A' h => ?_, List.pairwise_cons.2 ⟨h2, h4⟩⟩
    rcases List.mem_cons.1 h with rfl | h
    · exact h1
    · exact h3 A' h

theorem sep_del {B : Nat} {W : World} {A : Ast} {l : List Ast} (h : Sep B W (A :: l)) : Sep B W l := (sep_cons.1 h).2.2

/-- a new thing -/
theorem sep_add {B : Nat} {W W' : World} {l : List Ast} (h : Sep B W l) (hb : Below W.heap.size W W') (A : Ast) (hP : A.P W') (hF : ∀ k, A.F k → W.heap.size ≤ k ∧ k < W'.heap.size) (hB : B ≤ W.heap.size) : Sep B W' (A :: l) :=
  sep_cons.2 ⟨⟨hP, fun k hk => ⟨Nat.le_trans hB (hF k hk).1, (hF k hk).2⟩⟩, fun A' hA' k hk hk' => by have := ((h.1 A' hA').2 k hk').2; have := (hF k hk).1; omega, sep_below h hb⟩

theorem sep_new {B : Nat} {W : World} {l : List Ast} (h : Sep B W l) (o : Obj) (hB : B ≤ W.heap.size) : Sep B (W.alloc o) (cellA W.heap.size o :: l) :=
  sep_add h ((Below.refl _ _).alloc (Nat.le_refl _) o) (cellA W.heap.size o) (heap_alloc_new W o) (fun k hk => by have hk : k = W.heap.size := hk; subst hk; exact ⟨Nat.le_refl _, by simp⟩) hB

/-- one of them is turned into another -/
theorem sep_set {B : Nat} {W W' : World} {l : List Ast} (h : Sep B W l) (i : Nat) {A : Ast} (hi : l[i]? = some A) (hk : Kept W W' A.F) (A' : Ast) (hP : A'.P W') (hF : ∀ k, A'.F k → (A.F k ∨ W.heap.size ≤ k) ∧ k < W'.heap.size) (hB : B ≤ W.heap.size) : Sep B W' (l.set i A') := by
  obtain ⟨hi1, hie⟩ := List.getElem?_eq_some_iff.1 hi
  have hap : ∀ (j : Nat) (hj : j < l.length), j ≠ i → ∀ k, A'.F k → ¬ l[j].F k := fun j hj hne k ha hb => by
    rcases (hF k ha).1 with h1 | h1
    · exact sep_apart h i j hi (List.getElem?_eq_getElem hj) (fun e => hne e.symm) k h1 hb
    · have := (sep_lt h j (List.getElem?_eq_getElem hj) k hb).2; omega
  refine ⟨fun X hX => ?_, ?_⟩
  · obtain ⟨j, hj, rfl⟩ := List.getElem_of_mem hX
    rw [List.length_set] at hj
    rw [List.getElem_set]
    split
    · refine ⟨hP, fun k hk' => ⟨?_, (hF k hk').2⟩⟩
      rcases (hF k hk').1 with h1 | h1
      · exact (sep_lt h i hi k h1).1
      · omega
    · rename_i hne
      have h1 := h.1 l[j] (List.getElem_mem hj)
      have h2 : ∀ k, l[j].F k → ¬ A.F k := sep_apart h j i (List.getElem?_eq_getElem hj) hi (fun e => hne e.symm)
      exact ⟨l[j].loc W W' h1.1 (fun k hF' => hk.2.2.2.2 k (h1.2 k hF').2 (h2 k hF')), fun k hF' => ⟨(h1.2 k hF').1, Nat.lt_of_lt_of_le (h1.2 k hF').2 hk.2.2.2.1⟩⟩
  · refine List.pairwise_iff_getElem.2 fun p q hp hq hpq => ?_
    rw [List.length_set] at hp hq
    rw [List.getElem_set, List.getElem_set]
    split
    · rename_i e
      subst e
      rw [if_neg (by omega)]
      exact hap q hq (by omega)
    · rename_i e
      split
      · rename_i e2
        subst e2
        exact fun k ha hb => hap p hp (by omega) k hb ha
      · exact List.pairwise_iff_getElem.1 h.2 p q hp hq hpq

/-- a store into a block -/
theorem sep_store {B : Nat} {W : World} {l : List Ast} (h : Sep B W l) (i : Nat) {g : Nat} {cs : Array Value} {T : TypeId} (hi : l[i]? = some (cellA g (.cells cs T (0, 0)))) (off : Nat) (v : Value) : Sep B (W.setCell ⟨g, off, none⟩ v) (l.set i (cellA g (.cells (cs.setIfInBounds off v) T (0, 0)))) := by
  have h1 : W.heap[g]? = some (.cells cs T (0, 0)) := sep_get h i hi
  have h2 := sep_lt h i hi g rfl
  refine sep_set h i hi (kept_setCell W g off v) _ (heap_setCell_same W g off cs T v h1) (fun k hk => ⟨Or.inl hk, ?_⟩) (Nat.le_of_lt (Nat.lt_of_le_of_lt h2.1 h2.2))
  have hk : k = g := hk
  subst hk
  simpa using h2.2

/-- a row that has grown -/
theorem sep_grow {B : Nat} {W W0 W' : World} {l : List Ast} (h : Sep B W l) (hb : Below W.heap.size W W0) (i : Nat) {B' e sz n n' : Nat} {v : Value} {xs xs' : List Value} (hi : l[i]? = some (rowA B' e sz v n xs)) (hgr : W0.grownBy W' v.ownBlock) {b c : Nat} (hown : W'.ownsRow B' e sz (.slice (some ⟨b, 0, none⟩) n' c) n' xs') (hbb : v.ownBlock = some b ∨ W.heap.size ≤ b) (hB : B ≤ W.heap.size) : Sep B W' (l.set i (rowA B' e sz (.slice (some ⟨b, 0, none⟩) n' c) n' xs')) := by
  refine sep_set h i hi ⟨hgr.os.trans hb.os, hgr.tape.trans hb.tape, hgr.output.trans hb.output, Nat.le_trans hb.size hgr.size, fun j hj hn => (hgr.block j (Nat.lt_of_lt_of_le hj hb.size) (fun e => hn e.symm)).trans (hb.block j hj)⟩ _ hown (fun k hk => ⟨?_, (hown.lt k hk).2⟩) hB
  injection hk with hk
  have hk : b = k := hk
  subst hk
  exact hbb

theorem grown_below {B : Nat} {W W0 W' : World} {v : Value} {B' e sz n : Nat} {xs : List Value} (hb : Below W.heap.size W W0) (hgr : W0.grownBy W' v.ownBlock) (ho : W.ownsRow B' e sz v n xs) (hB : B ≤ B') (hBW : B ≤ W.heap.size) : Below B W W' :=
  ⟨hgr.os.trans hb.os, hgr.tape.trans hb.tape, hgr.output.trans hb.output, Nat.le_trans hb.size hgr.size, fun k hk => (hgr.block k (Nat.lt_of_lt_of_le (Nat.lt_of_lt_of_le hk hBW) hb.size) (fun e => by have := (ho.lt k e.symm).1; omega)).trans (hb.block k (Nat.lt_of_lt_of_le hk hBW))⟩

theorem sep_take {B : Nat} {W : World} {l : List Ast} (h : Sep B W l) (l' : List Ast) (hs : l'.Sublist l) : Sep B W l' := ⟨fun A hA => h.1 A (hs.subset hA), h.2.sublist hs⟩

theorem sep_perm {B : Nat} {W : World} {l l' : List Ast} (h : Sep B W l) (hp : l.Perm l') : Sep B W l' :=
  ⟨fun A hA => h.1 A (hp.mem_iff.2 hA), (hp.pairwise_iff (fun hd k ha hb => hd k hb ha)).1 h.2⟩
end Go.Proofs.YtacmpggigdlmmaaDoor

namespace Go.Proofs.YtacmpggigdlmmaaDoor
open Go.RowKit

theorem new_cells (W : World) (cs : Array Value) (T : TypeId) : ∀ (j : Nat) (u : Value), cs.toList[j]? = some u → (W.alloc (Obj.cells cs T)).cell? ((⟨W.heap.size, 0, none⟩ : Addr).add j) = some u := by
  intro j u hj
  have h := (cell_at (heap_alloc_new W (Obj.cells cs T)) j).1
  rw [Addr.add_lit, Nat.zero_add, h, ← Array.getElem?_toList]
  exact hj

/-- what an append of one leaves -/
theorem app_sep {B : Nat} {W W' : World} {l : List Ast} (h : Sep B W l) (i : Nat) {B' e sz n n' : Nat} {v : Value} {xs xs' : List Value} (hi : l[i]? = some (rowA B' e sz v n xs)) (hBB : B ≤ B') (hBW : B ≤ W.heap.size) {o : Obj} (hgr : (W.alloc o).grownBy W' v.ownBlock) {b c : Nat} (hown : W'.ownsRow B' e sz (.slice (some ⟨b, 0, none⟩) n' c) n' xs') (hb : v.ownBlock = some b ∨ b = W.heap.size + 1) :
    Sep B W' (l.set i (rowA B' e sz (.slice (some ⟨b, 0, none⟩) n' c) n' xs')) ∧ Below B W W' := by
  have hb0 : Below W.heap.size W (W.alloc o) := (Below.refl _ _).alloc (Nat.le_refl _) o
  exact ⟨sep_grow h hb0 i hi hgr hown (hb.imp id (fun e => by omega)) hBW, grown_below hb0 hgr (sep_get h i hi) hBB hBW⟩

theorem wpList_sep1 {P : Program} {ops : Array Oper} {rest : List Oper} {o : Oper} {a : Act} {Q : Exit → Act → World → Prop} {B : Nat} {W : World} {l : List Ast} (h : Sep B W l) (i : Nat) {B' e sz n : Nat} {v : Value} {xs : List Value} (hi : l[i]? = some (rowA B' e sz v n xs)) (hBB : B ≤ B') (hBW : B ≤ W.heap.size) (hBW' : B' ≤ W.heap.size)
    (hgd : o.guard = none) (s x : Operand) (t : TypeId) (ho : o.op = .call { callee := .builtin .append, args := #[s, x], argTypes := #[t, t] }) (inf : TypeInfo) (z : Value) (bytes : Nat) (ht : P.underlying t = some (.slice e)) (hinf : P.info? e = some inf) (hz : inf.zero = some z)
    (hsize : inf.size = sz) (hby : inf.bytes = bytes) (hzs : z.cells.size = sz) (hsz : 0 < sz) (hs : a.eval s = v) (news : Array Value) {H : Nat} (hH : H = W.heap.size) (hx : a.eval x = .slice (some ⟨H, 0, none⟩) 1 1) (hl : news.size = sz) (h1 : ∀ u ∈ news.toList, u.oneCell' = true) (h63 : n + 1 ≤ maxLen) (hbytes : (n + 1) * bytes ≤ 140737488355328)
    (hK : ∀ b c w', Sep B w' (l.set i (rowA B' e sz (.slice (some ⟨b, 0, none⟩) (n + 1) c) (n + 1) (xs ++ news.toList))) → Below B W w' → wpList P ops Q rest (a.put o.dst (.slice (some ⟨b, 0, none⟩) (n + 1) c)) w') :
    wpList P ops Q (o :: rest) a (W.alloc (Obj.cells news e)) :=
  wpList_append_lies _ hgd s x t ho B' e inf z sz bytes ht hinf hz hsize hby hzs hsz v n xs hs ((sep_get h i hi : W.ownsRow B' e sz v n xs).alloc _) ⟨H, 0, none⟩ 1 1 news.toList hx (by rw [Array.length_toList, hl, Nat.one_mul]) (by rw [hH]; exact new_cells W news e) h1 (by decide) h63 hbytes (by simp; omega) (W.heap.size + 1) (by simp)
    (fun b c w' q1 q2 q3 _ => by
      obtain ⟨k1, k2⟩ := app_sep h i hi hBB hBW q2 q1 q3
      exact hK b c w' k1 k2)

theorem step_sep1 {P : Program} {ops : Array Oper} {o : Oper} {a : Act} {K : Act → World → Prop} {Q : Exit → Act → World → Prop} {E : Prop} {B : Nat} {W : World} {l : List Ast} (h : Sep B W l) (i : Nat) {B' e sz n : Nat} {v : Value} {xs : List Value} (hi : l[i]? = some (rowA B' e sz v n xs)) (hBB : B ≤ B') (hBW : B ≤ W.heap.size) (hBW' : B' ≤ W.heap.size)
    (hgd : o.guard = none) (s x : Operand) (t : TypeId) (ho : o.op = .call { callee := .builtin .append, args := #[s, x], argTypes := #[t, t] }) (inf : TypeInfo) (z : Value) (bytes : Nat) (ht : P.underlying t = some (.slice e)) (hinf : P.info? e = some inf) (hz : inf.zero = some z)
    (hsize : inf.size = sz) (hby : inf.bytes = bytes) (hzs : z.cells.size = sz) (hsz : 0 < sz) (hs : a.eval s = v) (news : Array Value) {H : Nat} (hH : H = W.heap.size) (hx : a.eval x = .slice (some ⟨H, 0, none⟩) 1 1) (hl : news.size = sz) (h1 : ∀ u ∈ news.toList, u.oneCell' = true) (h63 : n + 1 ≤ maxLen) (hbytes : (n + 1) * bytes ≤ 140737488355328)
    (hK : ∀ b c w', Sep B w' (l.set i (rowA B' e sz (.slice (some ⟨b, 0, none⟩) (n + 1) c) (n + 1) (xs ++ news.toList))) → Below B W w' → K (a.put o.dst (.slice (some ⟨b, 0, none⟩) (n + 1) c)) w') :
    if Region.wanted o (yielded ops a.tmps) = true then Oper.wp P o a (W.alloc (Obj.cells news e)) K Q else E :=
  step_append_lies _ hgd s x t ho B' e inf z sz bytes ht hinf hz hsize hby hzs hsz v n xs hs ((sep_get h i hi : W.ownsRow B' e sz v n xs).alloc _) ⟨H, 0, none⟩ 1 1 news.toList hx (by rw [Array.length_toList, hl, Nat.one_mul]) (by rw [hH]; exact new_cells W news e) h1 (by decide) h63 hbytes (by simp; omega) (W.heap.size + 1) (by simp)
    (fun b c w' q1 q2 q3 _ => by
      obtain ⟨k1, k2⟩ := app_sep h i hi hBB hBW q2 q1 q3
      exact hK b c w' k1 k2)

/-- one of them is another one then, in new blocks -/
theorem sep_repl {B : Nat} {W W' : World} {l : List Ast} (h : Sep B W l) (hb : Below W.heap.size W W') (i : Nat) {A : Ast} (hi : l[i]? = some A) (A' : Ast) (hP : A'.P W') (hF : ∀ k, A'.F k → W.heap.size ≤ k ∧ k < W'.heap.size) (hB : B ≤ W.heap.size) : Sep B W' (l.set i A') :=
  sep_set h i hi ⟨hb.os, hb.tape, hb.output, hb.size, fun k hk _ => hb.block k hk⟩ A' hP (fun k hk => ⟨Or.inr (hF k hk).1, (hF k hk).2⟩) hB

/-- what was there, and what is new -/
theorem sep_join {B : Nat} {W W' : World} {l l' : List Ast} (h : Sep B W l) (hb : Below W.heap.size W W') (h' : Sep W.heap.size W' l') (hB : B ≤ W.heap.size) : Sep B W' (l' ++ l) := by
  have h2 := sep_below h hb
  refine ⟨fun A hA => ?_, List.pairwise_append.2 ⟨h'.2, h2.2, fun A hA A' hA' k hk hk' => ?_⟩⟩
  · rcases List.mem_append.1 hA with hA | hA
    · exact ⟨(h'.1 A hA).1, fun k hk => ⟨Nat.le_trans hB ((h'.1 A hA).2 k hk).1, ((h'.1 A hA).2 k hk).2⟩⟩
    · exact h2.1 A hA
  · have h3 := ((h'.1 A hA).2 k hk).1
    have h4 := ((h.1 A' hA').2 k hk').2
    omega

/-- some of them, in another order; the rest stays -/
theorem sep_pick {B : Nat} {W : World} {pre rest : List Ast} (h : Sep B W (pre ++ rest)) (js : List Nat) (hnd : js.Nodup) (pre' : List Ast) (he : pre'.map some = js.map (fun i => pre[i]?)) : Sep B W (pre' ++ rest) := by
  obtain ⟨h1, h2⟩ := h
  obtain ⟨p1, p2, p3⟩ := List.pairwise_append.1 h2
  have hl : pre'.length = js.length := by have := congrArg List.length he; simpa using this
  have hat : ∀ (j : Nat) (hj : j < pre'.length), ∃ hp : js[j]'(by omega) < pre.length, pre[js[j]'(by omega)] = pre'[j] := fun j hj => by
    have e := congrArg (fun l => l[j]?) he
    simp only [List.getElem?_map, List.getElem?_eq_getElem hj, List.getElem?_eq_getElem (show j < js.length by omega), Option.map_some] at e
    have e := Option.some.inj e
    obtain ⟨q1, q2⟩ := List.getElem?_eq_some_iff.1 e.symm
    exact ⟨q1, q2⟩
  have hmem : ∀ A ∈ pre', A ∈ pre := fun A hA => by
    obtain ⟨j, hj, rfl⟩ := List.getElem_of_mem hA
    obtain ⟨q1, q2⟩ := hat j hj
    rw [← q2]
    exact List.getElem_mem q1
  have hs : ∀ (i j : Nat) (hi : i < pre.length) (hj : j < pre.length), i ≠ j → ∀ k, pre[i].F k → ¬ pre[j].F k := fun i j hi hj hne => by
    rcases Nat.lt_or_gt_of_ne hne with h | h
    · exact List.pairwise_iff_getElem.1 p1 i j hi hj h
    · exact fun k ha hb => List.pairwise_iff_getElem.1 p1 j i hj hi h k hb ha
  refine ⟨fun A hA => ?_, List.pairwise_append.2 ⟨List.pairwise_iff_getElem.2 fun i j hi hj hij => ?_, p2, fun A hA A' hA' => p3 A (hmem A hA) A' hA'⟩⟩
  · rcases List.mem_append.1 hA with hA | hA
    · exact h1 A (List.mem_append_left _ (hmem A hA))
    · exact h1 A (List.mem_append_right _ hA)
  · obtain ⟨q1, q2⟩ := hat i hi
    obtain ⟨r1, r2⟩ := hat j hj
    rw [← q2, ← r2]
    refine hs _ _ q1 r1 (fun e => ?_)
    have := List.pairwise_iff_getElem.1 hnd i j (by omega) (by omega) hij
    exact this e

/-- a new row without anything -/
theorem sep_row0 {B : Nat} {W : World} {g e : Nat} {l : List Ast} (h : Sep B W (cellA g (Obj.cells #[] e) :: l)) : Sep B W (rowA B e 1 (.slice (some ⟨g, 0, none⟩) 0 0) 0 [] :: l) := by
  obtain ⟨⟨h1, h2⟩, h3, h4⟩ := sep_cons.1 h
  refine sep_cons.2 ⟨⟨⟨rfl, Or.inr ⟨g, 0, #[], rfl, (h2 g rfl).1, h1, Nat.le_refl _, Nat.zero_le _, rfl, rfl⟩⟩, fun k hk => ?_⟩, fun A' hA' k hk => ?_, h4⟩
  · injection hk with hk
    have hk : g = k := hk
    subst hk
    exact h2 g rfl
  · injection hk with hk
    have hk : g = k := hk
    subst hk
    exact h3 A' hA' g rfl
end Go.Proofs.YtacmpggigdlmmaaDoor

namespace Go.Proofs.YtacmpggigdlmmaaDoor
open Go.RowKit

def diskA (B : Nat) (v : Value) (ps : List ByteArray) (ls : List (Int × ByteArray)) : Ast := ⟨diskBlocks v, fun W => DiskOwn W B v ps ls, fun W W' h hk => by
  obtain ⟨vp, vl, rfl, h1, h2⟩ := h
  exact ⟨vp, vl, rfl, (rowA B 9 1 vp ps.length (strs ps)).loc W W' h1 (fun k e => hk k ⟨_, _, rfl, Or.inl e⟩), (rowA B 96 2 vl ls.length (puts ls)).loc W W' h2 (fun k e => hk k ⟨_, _, rfl, Or.inr e⟩)⟩⟩

/-- the rows of a work -/
def workL (B : Nat) (u0 u1 u3 u4 u5 : Value) (k : Wk) : List Ast := [diskA B (.agg #[u0, u1]) k.ps k.ls, rowA B 3 1 u3 k.us.length (ints k.us), rowA B 3 1 u4 k.gs.length (ints k.gs), rowA B 3 1 u5 k.fs.length (ints k.fs)]

theorem nw_sep {W : World} {B : Nat} {u0 u1 u2 u3 u4 u5 : Value} {k : Wk} (h : WorkNw W B (.agg #[u0, u1, u2, u3, u4, u5]) k) : u2 = .int .i64 k.next ∧ Sep B W (workL B u0 u1 u3 u4 u5 k) := by
  have hlt := workOwn_lt (nw_own h)
  obtain ⟨vp, vl, vu, vg, vf, e, h1, h2, h3, h4, n1, n2, n3⟩ := h
  obtain ⟨rfl, rfl, rfl, rfl, rfl, rfl⟩ := agg6 e
  refine ⟨rfl, ?_⟩
  refine sep_cons.2 ⟨⟨h1, fun j hj => hlt j ⟨_, _, _, _, _, _, rfl, Or.inl hj⟩⟩, fun A hA j hj hj' => ?_, ?_⟩
  · rcases List.mem_cons.1 hA with rfl | hA
    · exact disk_int_apart h1 (intOwn_of_own h2) j hj hj'
    rcases List.mem_cons.1 hA with rfl | hA
    · exact disk_int_apart h1 (intOwn_of_own h3) j hj hj'
    rcases List.mem_cons.1 hA with rfl | hA
    · exact disk_int_apart h1 (intOwn_of_own h4) j hj hj'
    · cases hA
  refine sep_cons.2 ⟨⟨h2, fun j hj => hlt j ⟨_, _, _, _, _, _, rfl, Or.inr (Or.inl hj)⟩⟩, fun A hA j hj hj' => ?_, ?_⟩
  · rcases List.mem_cons.1 hA with rfl | hA
    · exact n1 j hj hj'
    rcases List.mem_cons.1 hA with rfl | hA
    · exact n2 j hj hj'
    · cases hA
  refine sep_cons.2 ⟨⟨h3, fun j hj => hlt j ⟨_, _, _, _, _, _, rfl, Or.inr (Or.inr (Or.inl hj))⟩⟩, fun A hA j hj hj' => ?_, ?_⟩
  · rcases List.mem_cons.1 hA with rfl | hA
    · exact n3 j hj hj'
    · cases hA
  exact sep_cons.2 ⟨⟨h4, fun j hj => hlt j ⟨_, _, _, _, _, _, rfl, Or.inr (Or.inr (Or.inr hj))⟩⟩, fun A hA => (by cases hA), sep_nil _ _⟩

theorem sep_nw {W : World} {B B' : Nat} {u0 u1 u3 u4 u5 : Value} {k : Wk} (h : Sep B W (workL B' u0 u1 u3 u4 u5 k)) : WorkNw W B' (.agg #[u0, u1, .int .i64 k.next, u3, u4, u5]) k :=
  ⟨u0, u1, u3, u4, u5, rfl, sep_get h 0 rfl, sep_get h 1 rfl, sep_get h 2 rfl, sep_get h 3 rfl, fun j => sep_apart h 1 2 rfl rfl (by decide) j, fun j => sep_apart h 1 3 rfl rfl (by decide) j, fun j => sep_apart h 2 3 rfl rfl (by decide) j⟩

/-- the rows of a work, their lengths as letters -/
abbrev workN (B : Nat) (u0 u1 u3 u4 u5 : Value) (k : Wk) (nu ng nf : Nat) : List Ast := [diskA B (.agg #[u0, u1]) k.ps k.ls, rowA B 3 1 u3 nu (ints k.us), rowA B 3 1 u4 ng (ints k.gs), rowA B 3 1 u5 nf (ints k.fs)]

theorem row_n {W : World} {B e n : Nat} {v : Value} {l : List Int} (h : W.ownsRow B e 1 v n (ints l)) : n = l.length := by
  have := h.1
  rw [ints_length] at this
  omega

theorem sep_nwN {W : World} {B B' : Nat} {u0 u1 u3 u4 u5 : Value} {k : Wk} {nu ng nf : Nat} (h : Sep B W (workN B' u0 u1 u3 u4 u5 k nu ng nf)) : WorkNw W B' (.agg #[u0, u1, .int .i64 k.next, u3, u4, u5]) k := by
  have h1 : W.ownsRow B' 3 1 u3 nu (ints k.us) := sep_get h 1 rfl
  have h2 : W.ownsRow B' 3 1 u4 ng (ints k.gs) := sep_get h 2 rfl
  have h3 : W.ownsRow B' 3 1 u5 nf (ints k.fs) := sep_get h 3 rfl
  exact ⟨u0, u1, u3, u4, u5, rfl, sep_get h 0 rfl, by rw [← row_n h1]; exact h1, by rw [← row_n h2]; exact h2, by rw [← row_n h3]; exact h3, fun j => sep_apart h 1 2 rfl rfl (by decide) j, fun j => sep_apart h 1 3 rfl rfl (by decide) j, fun j => sep_apart h 2 3 rfl rfl (by decide) j⟩

/-- an answer that is a work: it is laid into the answer's variable -/
theorem ret_sep {w wr : World} {b0 a1 B : Nat} {r0 r1 r2 r3 r4 r5 u0 u1 u3 u4 u5 : Value} {t : TypeId} {k : Wk} {nu ng nf : Nat} {l : List Ast} (h : Sep b0 wr l) (r : Nat) (hr : l[r]? = some (cellA a1 (Obj.cells #[r0, r1, r2, r3, r4, r5] t))) (hs : (workN B u0 u1 u3 u4 u5 k nu ng nf).Sublist l) (hB : a1 < B) (hw : w.heap.size ≤ a1) (hb : Below w.heap.size w wr) :
    (set6 wr a1 u0 u1 (.int .i64 k.next) u3 u4 u5).heap[a1]? = some (Obj.cells #[u0, u1, .int .i64 k.next, u3, u4, u5] t) ∧ WorkNw (set6 wr a1 u0 u1 (.int .i64 k.next) u3 u4 u5) w.heap.size (.agg #[u0, u1, .int .i64 k.next, u3, u4, u5]) k ∧ Below w.heap.size w (set6 wr a1 u0 u1 (.int .i64 k.next) u3 u4 u5) :=
  ret_nw (sep_get h r hr) (sep_nwN (sep_take h _ hs)) hB hw hb

theorem rowat_some {w : World} {n c : Nat} {a : Option Addr} {xs : List Value} (h : RowAt w 1 (.slice a n c) n xs) (hn : 0 < n) : ∃ b off, a = some ⟨b, off, none⟩ := by
  obtain ⟨-, a', cap, e, h⟩ := h
  injection e with e1
  rcases h with h0 | ⟨b, off, e, -⟩
  · omega
  · exact ⟨b, off, by rw [e1, e]⟩

theorem rowat_cell {w wx : World} {n c b off : Nat} {l : List Int} (h : RowAt w 1 (.slice (some ⟨b, off, none⟩) n c) n (ints l)) (hb : Below w.heap.size w wx) (i : Nat) (hi : i < n) (hn : n = l.length) : wx.cell? ⟨b, off + i, none⟩ = some (.int .i64 (l.getD i 0)) := by
  obtain ⟨-, a', cap, e, h⟩ := h
  injection e with e1 e2 e3
  subst e1
  rcases h with h0 | ⟨b', off', e, hlt, hc⟩
  · omega
  · injection e with e
    injection e with e e'
    subst e e'
    rw [hb.cell (by exact hlt), hc i (by omega), ints_at l i (by omega)]
    simp [List.getD_eq_getElem?_getD, show i < l.length by omega]

theorem ints_snocW (l : List Int) (x : Int) : ints l ++ [.int .i64 x] = ints (l ++ [x]) := by simp [ints]

/-- an append of a number -/
theorem wpList_int1 {ops : Array Oper} {rest : List Oper} {o : Oper} {a : Act} {Q : Exit → Act → World → Prop} {B : Nat} {W : World} {l : List Ast} (h : Sep B W l) (i : Nat) {B' n : Nat} {v : Value} {xs : List Int} (hi : l[i]? = some (rowA B' 3 1 v n (ints xs))) (hBB : B ≤ B') (hBW : B ≤ W.heap.size) (hBW' : B' ≤ W.heap.size)
    (hgd : o.guard = none) (s x : Operand) (ho : o.op = .call { callee := .builtin .append, args := #[s, x], argTypes := #[26, 26] }) (hs : a.eval s = v) (p : Int) {H : Nat} (hH : H = W.heap.size) (hx : a.eval x = .slice (some ⟨H, 0, none⟩) 1 1) (hn : n ≤ 3000000)
    (hK : ∀ b c w', Sep B w' (l.set i (rowA B' 3 1 (.slice (some ⟨b, 0, none⟩) (n + 1) c) (n + 1) (ints (xs ++ [p])))) → Below B W w' → wpList Tryd.prog ops Q rest (a.put o.dst (.slice (some ⟨b, 0, none⟩) (n + 1) c)) w') :
    wpList Tryd.prog ops Q (o :: rest) a (W.alloc (Obj.cells #[.int .i64 p] 3)) := by
  obtain ⟨i0, hinf, hz0, hz1, hz2⟩ := info_parts Tryd.infoIntC
  refine wpList_sep1 h i hi hBB hBW hBW' hgd s x 26 ho i0 (.int .i64 0) 8 Tryd.underlying26 hinf hz0 hz1 hz2 rfl (by decide) hs #[.int .i64 p] hH hx rfl (fun u hu => by simp at hu; subst hu; rfl) (by unfold maxLen; omega) (by omega) (fun b c w' k1 k2 => hK b c w' ?_ k2)
  rw [← ints_snocW]
  exact k1

theorem step_int1 {ops : Array Oper} {o : Oper} {a : Act} {K : Act → World → Prop} {Q : Exit → Act → World → Prop} {E : Prop} {B : Nat} {W : World} {l : List Ast} (h : Sep B W l) (i : Nat) {B' n : Nat} {v : Value} {xs : List Int} (hi : l[i]? = some (rowA B' 3 1 v n (ints xs))) (hBB : B ≤ B') (hBW : B ≤ W.heap.size) (hBW' : B' ≤ W.heap.size)
    (hgd : o.guard = none) (s x : Operand) (ho : o.op = .call { callee := .builtin .append, args := #[s, x], argTypes := #[26, 26] }) (hs : a.eval s = v) (p : Int) {H : Nat} (hH : H = W.heap.size) (hx : a.eval x = .slice (some ⟨H, 0, none⟩) 1 1) (hn : n ≤ 3000000)
    (hK : ∀ b c w', Sep B w' (l.set i (rowA B' 3 1 (.slice (some ⟨b, 0, none⟩) (n + 1) c) (n + 1) (ints (xs ++ [p])))) → Below B W w' → K (a.put o.dst (.slice (some ⟨b, 0, none⟩) (n + 1) c)) w') :
    if Region.wanted o (yielded ops a.tmps) = true then Oper.wp Tryd.prog o a (W.alloc (Obj.cells #[.int .i64 p] 3)) K Q else E := by
  obtain ⟨i0, hinf, hz0, hz1, hz2⟩ := info_parts Tryd.infoIntC
  refine step_sep1 h i hi hBB hBW hBW' hgd s x 26 ho i0 (.int .i64 0) 8 Tryd.underlying26 hinf hz0 hz1 hz2 rfl (by decide) hs #[.int .i64 p] hH hx rfl (fun u hu => by simp at hu; subst hu; rfl) (by unfold maxLen; omega) (by omega) (fun b c w' k1 k2 => hK b c w' ?_ k2)
  rw [← ints_snocW]
  exact k1
end Go.Proofs.YtacmpggigdlmmaaDoor

namespace Go.Proofs.YtacmpggigdlmmaaDoor
open Go.RowKit

/-- the code that came in: no byte, or bytes that lie below block B -/
def CodeIn (w : World) (B : Nat) (a : Option Addr) (len : Nat) : Prop :=
  len ≤ 1048576 ∧ (len = 0 ∨ ∃ b off, a = some ⟨b, off, none⟩ ∧ b < B ∧ ∀ j, j < len → ∃ z : Nat, z < 256 ∧ w.cell? ⟨b, off + j, none⟩ = some (.int .u8 (z : Int)))

/-- a slice of bytes that came in and was read, as the draws take it -/
theorem codeIn_of {W : World} {x : Addr} {len cap : Nat} {zs : List Int} (hl : len ≤ cap) (hz : zs.length = cap) (hcell : ∀ i, i < zs.length → W.cell? (x.add i) = some (.int .u8 (zs.getD i 0))) (hwz : ∀ n ∈ zs, (Lit.int .u8 n).wf = true) :
    1048576 < len ∨ CodeIn W W.heap.size (some x) len := by
  by_cases hbig : 1048576 < len
  · exact Or.inl hbig
  · refine Or.inr ⟨by omega, ?_⟩
    by_cases h0 : len = 0
    · exact Or.inl h0
    · obtain ⟨b, off, spot⟩ := x
      have hc := hcell 0 (by omega)
      obtain rfl : spot = none := by simpa [Addr.add] using World.cell?_spot hc
      have hb : b < W.heap.size := World.block_lt_of_cell? W _ (by simpa [Addr.add] using hc : W.cell? ⟨b, off, none⟩ = _)
      refine Or.inr ⟨b, off, rfl, hb, fun j hj => ?_⟩
      have hj' : j < zs.length := by omega
      have hm : zs.getD j 0 ∈ zs := by rw [List.getD, List.getElem?_eq_getElem hj']; exact List.getElem_mem hj'
      have hw := hwz _ hm
      have hbd : 0 ≤ zs.getD j 0 ∧ zs.getD j 0 ≤ 255 := by simpa [Lit.wf, IntKind.min, IntKind.max, IntKind.signed, IntKind.bits] using hw
      refine ⟨(zs.getD j 0).toNat, by omega, ?_⟩
      have hcj := hcell j hj'
      rw [Addr.add_lit] at hcj
      rw [Int.toNat_of_nonneg hbd.1]
      exact hcj

theorem and255 (z : Int) : 0 ≤ bits BinOp.and IntKind.i64 z 255 ∧ bits BinOp.and IntKind.i64 z 255 ≤ 255 := by
  have e : bits BinOp.and IntKind.i64 z 255 = IntKind.i64.wrap ((BitVec.ofInt 64 z &&& BitVec.ofInt 64 255).toNat : Int) := rfl
  have h : (BitVec.ofInt 64 z &&& BitVec.ofInt 64 255).toNat ≤ 255 := by
    rw [BitVec.toNat_and]
    exact Nat.le_trans Nat.and_le_right (by decide)
  rw [e, IntWalk.i64_in _ ⟨by omega, by omega⟩]
  omega

theorem and255_nat (z : Int) : ∃ x : Nat, x < 256 ∧ bits BinOp.and IntKind.i64 z 255 = (x : Int) := by
  have := and255 z
  exact ⟨(bits BinOp.and IntKind.i64 z 255).toNat, by omega, by omega⟩

theorem grown_setCell (w : World) (g j : Nat) (u : Value) : w.grownBy (w.setCell ⟨g, j, none⟩ u) (some g) :=
  ⟨rfl, rfl, rfl, by simp, fun k _ hk => heap_setCell_other w ⟨g, j, none⟩ k u (fun e => hk (by simp [e]))⟩

theorem grown_trans {a b c : World} {r : Option Nat} (h : a.grownBy b r) (k : b.grownBy c r) : a.grownBy c r :=
  ⟨k.os.trans h.os, k.tape.trans h.tape, k.output.trans h.output, Nat.le_trans h.size k.size, fun j hj hne => (k.block j (Nat.lt_of_lt_of_le hj h.size) hne).trans (h.block j hj hne)⟩

theorem grown_drewN {a b : World} {r : Option Nat} (h : a.grownBy b r) (n : Nat) : a.grownBy (b.drewN n) r := grown_trans h ⟨rfl, rfl, rfl, Nat.le_refl _, fun _ _ _ => rfl⟩

theorem code_grown {w w' : World} {g B : Nat} {a : Option Addr} {len : Nat} (h : CodeIn w B a len) (hg : w.grownBy w' (some g)) (hB : B ≤ g) (hs : g < w.heap.size) : CodeIn w' B a len := by
  refine ⟨h.1, ?_⟩
  rcases h.2 with h0 | ⟨b, off, e, hb, hz⟩
  · exact Or.inl h0
  · refine Or.inr ⟨b, off, e, hb, fun j hj => ?_⟩
    obtain ⟨z, h1, h2⟩ := hz j hj
    exact ⟨z, h1, by rw [World.cell?_of_block (hg.block b (by omega) (by simp; omega))]; exact h2⟩

end Go.Proofs.YtacmpggigdlmmaaDoor

namespace Go.Proofs.YtacmpggigdlmmaaDoor
open Go.RowKit

theorem grown_alloc {a b : World} {r : Option Nat} (h : a.grownBy b r) (o : Obj) : a.grownBy (b.alloc o) r := grown_trans h (World.grownBy_alloc b o r)

/-- an append to a row of our own that was laid behind w turns nothing that w had -/
theorem grown_app {w wr w1 : World} {g : Nat} {row : Option Nat} {o : Obj} (h : w.grownBy wr (some g)) (ha : (wr.alloc o).grownBy w1 row) (hr : ∀ k, row = some k → w.heap.size ≤ k) : w.grownBy w1 (some g) := by
  have h2 := grown_alloc h o
  exact ⟨ha.os.trans h2.os, ha.tape.trans h2.tape, ha.output.trans h2.output, Nat.le_trans h2.size ha.size, fun k hk hne =>
    (ha.block k (Nat.lt_of_lt_of_le hk h2.size) (fun e => by have := hr k e.symm; omega)).trans (h2.block k hk hne)⟩

end Go.Proofs.YtacmpggigdlmmaaDoor

namespace Go.Proofs.YtacmpggigdlmmaaDoor
open Go.RowKit

/-- a node in the variable at block gn, its rows in memory behind it -/
def NSt (w : World) (gn : Nat) (n : Nd) (v1 v2 v3 : Value) : Prop :=
  w.heap[gn]? = some (.cells #[.bool n.lf, v1, v2, v3] 55 (0, 0)) ∧ w.ownsRow (gn + 1) 9 1 v1 n.ks.length (strs n.ks) ∧ w.ownsRow (gn + 1) 9 1 v2 n.vs.length (strs n.vs) ∧ w.ownsRow (gn + 1) 3 1 v3 n.cs.length (ints n.cs) ∧ ∀ k, v1.ownBlock = some k → v2.ownBlock ≠ some k

theorem nst_lt {w : World} {gn : Nat} {n : Nd} {v1 v2 v3 : Value} (h : NSt w gn n v1 v2 v3) : gn < w.heap.size := (Array.getElem?_eq_some_iff.1 h.1).1

theorem nst_grown {w w' : World} {g gn : Nat} {n : Nd} {v1 v2 v3 : Value} (h : NSt w gn n v1 v2 v3) (hg : w.grownBy w' (some g)) (hlt : g < gn) : NSt w' gn n v1 v2 v3 := by
  have hl := nst_lt h
  obtain ⟨h0, h1, h2, h3, h4⟩ := h
  refine ⟨(hg.block gn hl (fun e => by injection e with e; omega)).trans h0, h1.kept hg (Or.inr (fun e => by have := (h1.lt _ e).1; omega)), h2.kept hg (Or.inr (fun e => by have := (h2.lt _ e).1; omega)), h3.kept hg (Or.inr (fun e => by have := (h3.lt _ e).1; omega)), h4⟩

theorem nst_below {w w' : World} {gn : Nat} {n : Nd} {v1 v2 v3 : Value} (h : NSt w gn n v1 v2 v3) (hb : Below w.heap.size w w') : NSt w' gn n v1 v2 v3 := by
  have hl := nst_lt h
  obtain ⟨h0, h1, h2, h3, h4⟩ := h
  exact ⟨(hb.block gn hl).trans h0, own_stays h1 hb, own_stays h2 hb, own_stays h3 hb, h4⟩

theorem nst_node {w : World} {gn : Nat} {n : Nd} {v1 v2 v3 : Value} (h : NSt w gn n v1 v2 v3) : NodeOwn w (gn + 1) (.agg #[.bool n.lf, v1, v2, v3]) n.lf n.ks n.vs n.cs := ⟨v1, v2, v3, rfl, h.2.1, h.2.2.1, h.2.2.2.1, h.2.2.2.2⟩

/-- an append to a row that lies behind gn: the rest stays -/
theorem grown_high {a b c : World} {g : Nat} {r : Option Nat} (h : a.grownBy b (some g)) (k : b.grownBy c r) (hr : ∀ j, r = some j → a.heap.size ≤ j) : a.grownBy c (some g) :=
  ⟨k.os.trans h.os, k.tape.trans h.tape, k.output.trans h.output, Nat.le_trans h.size k.size, fun j hj hne => by
    rw [k.block j (Nat.lt_of_lt_of_le hj h.size) (fun e => by have := hr j e.symm; omega)]
    exact h.block j hj hne⟩

theorem str_snoc (l : List ByteArray) (x : ByteArray) : strs l ++ [.string x] = strs (l ++ [x]) := by simp [strs]

theorem int_snoc (l : List Int) (x : Int) : ints l ++ [.int .i64 x] = ints (l ++ [x]) := by simp [ints]

theorem one_new (w : World) (n : Nat) (hn : n = w.heap.size) (x : Value) (T : TypeId) : ∀ (j : Nat) (u : Value), [x][j]? = some u → (w.alloc (Obj.cells #[x] T)).cell? ((⟨n, 0, none⟩ : Addr).add j) = some u := by
  subst hn
  intro j u hj
  obtain rfl : j = 0 := by have := (List.getElem?_eq_some_iff.1 hj).1; simp at this; omega
  rw [Addr.add_lit, ← hj]
  exact (cell_at (heap_alloc_new w _) 0).1

theorem apart {u v : Value} (h : ∀ k, u.ownBlock = some k → v.ownBlock ≠ some k) : v.ownBlock = none ∨ v.ownBlock ≠ u.ownBlock := by
  cases hv : v.ownBlock with
  | none => exact Or.inl rfl
  | some k => exact Or.inr (fun e => h k e.symm hv)

theorem away {u : Value} {gn : Nat} (h : ∀ k, u.ownBlock = some k → gn < k) : some gn ≠ u.ownBlock := fun e => by have := h gn e.symm; omega

theorem nst_key {w w' : World} {gn b cap : Nat} {n : Nd} {v1 v2 v3 : Value} {x : ByteArray} (h : NSt w gn n v1 v2 v3) (hown : w'.ownsRow (gn + 1) 9 1 (.slice (some ⟨b, 0, none⟩) (n.ks.length + 1) cap) (n.ks.length + 1) (strs n.ks ++ [.string x])) (hg : w.grownBy w' v1.ownBlock) (hb : v1.ownBlock = some b ∨ b = w.heap.size) :
    NSt (w'.setCell ⟨gn, 1, none⟩ (.slice (some ⟨b, 0, none⟩) (n.ks.length + 1) cap)) gn ⟨n.lf, n.ks ++ [x], n.vs, n.cs⟩ (.slice (some ⟨b, 0, none⟩) (n.ks.length + 1) cap) v2 v3 := by
  have hl := nst_lt h
  obtain ⟨h0, h1, h2, h3, h4⟩ := h
  have hgn : w'.heap[gn]? = _ := (hg.block gn hl (away (fun k e => by have := (h1.lt k e).1; omega))).trans h0
  have hs := grown_setCell w' gn 1 (.slice (some ⟨b, 0, none⟩) (n.ks.length + 1) cap)
  have k2 := h2.kept hg (apart h4)
  have k3 := h3.kept hg (apart (fun k e => one_type h1 h3 Tryd.str_int k e))
  refine ⟨heap_setCell_same w' gn 1 _ _ _ hgn, ?_, k2.kept hs (Or.inr (fun e => by have := (h2.lt _ e).1; omega)), k3.kept hs (Or.inr (fun e => by have := (h3.lt _ e).1; omega)), ?_⟩
  · rw [List.length_append, ← str_snoc]
    exact hown.kept hs (Or.inr (fun e => by have := (hown.lt _ e).1; omega))
  · intro k e1 e2
    have e1 : b = k := Option.some.inj e1
    subst e1
    rcases hb with hb | hb
    · exact h4 b hb e2
    · have := (h2.lt b e2).2; omega

theorem nst_val {w w' : World} {gn b cap : Nat} {n : Nd} {v1 v2 v3 : Value} {x : ByteArray} (h : NSt w gn n v1 v2 v3) (hown : w'.ownsRow (gn + 1) 9 1 (.slice (some ⟨b, 0, none⟩) (n.vs.length + 1) cap) (n.vs.length + 1) (strs n.vs ++ [.string x])) (hg : w.grownBy w' v2.ownBlock) (hb : v2.ownBlock = some b ∨ b = w.heap.size) :
    NSt (w'.setCell ⟨gn, 2, none⟩ (.slice (some ⟨b, 0, none⟩) (n.vs.length + 1) cap)) gn ⟨n.lf, n.ks, n.vs ++ [x], n.cs⟩ v1 (.slice (some ⟨b, 0, none⟩) (n.vs.length + 1) cap) v3 := by
  have hl := nst_lt h
  obtain ⟨h0, h1, h2, h3, h4⟩ := h
  have hgn : w'.heap[gn]? = _ := (hg.block gn hl (away (fun k e => by have := (h2.lt k e).1; omega))).trans h0
  have hs := grown_setCell w' gn 2 (.slice (some ⟨b, 0, none⟩) (n.vs.length + 1) cap)
  have k1 := h1.kept hg (apart (fun k e e' => h4 k e' e))
  have k3 := h3.kept hg (apart (fun k e => one_type h2 h3 Tryd.str_int k e))
  refine ⟨heap_setCell_same w' gn 2 _ _ _ hgn, k1.kept hs (Or.inr (fun e => by have := (h1.lt _ e).1; omega)), ?_, k3.kept hs (Or.inr (fun e => by have := (h3.lt _ e).1; omega)), ?_⟩
  · rw [List.length_append, ← str_snoc]
    exact hown.kept hs (Or.inr (fun e => by have := (hown.lt _ e).1; omega))
  · intro k e1 e2
    have e2 : b = k := Option.some.inj e2
    subst e2
    rcases hb with hb | hb
    · exact h4 b e1 hb
    · have := (h1.lt b e1).2; omega

theorem nst_kid {w w' : World} {gn b cap : Nat} {n : Nd} {v1 v2 v3 : Value} {x : Int} (h : NSt w gn n v1 v2 v3) (hown : w'.ownsRow (gn + 1) 3 1 (.slice (some ⟨b, 0, none⟩) (n.cs.length + 1) cap) (n.cs.length + 1) (ints n.cs ++ [.int .i64 x])) (hg : w.grownBy w' v3.ownBlock) :
    NSt (w'.setCell ⟨gn, 3, none⟩ (.slice (some ⟨b, 0, none⟩) (n.cs.length + 1) cap)) gn ⟨n.lf, n.ks, n.vs, n.cs ++ [x]⟩ v1 v2 (.slice (some ⟨b, 0, none⟩) (n.cs.length + 1) cap) := by
  have hl := nst_lt h
  obtain ⟨h0, h1, h2, h3, h4⟩ := h
  have hgn : w'.heap[gn]? = _ := (hg.block gn hl (away (fun k e => by have := (h3.lt k e).1; omega))).trans h0
  have hs := grown_setCell w' gn 3 (.slice (some ⟨b, 0, none⟩) (n.cs.length + 1) cap)
  have k1 := h1.kept hg (apart (fun k e => one_type h3 h1 Tryd.str_int.symm k e))
  have k2 := h2.kept hg (apart (fun k e => one_type h3 h2 Tryd.str_int.symm k e))
  refine ⟨heap_setCell_same w' gn 3 _ _ _ hgn, k1.kept hs (Or.inr (fun e => by have := (h1.lt _ e).1; omega)), k2.kept hs (Or.inr (fun e => by have := (h2.lt _ e).1; omega)), ?_, h4⟩
  rw [List.length_append, ← int_snoc]
  exact hown.kept hs (Or.inr (fun e => by have := (hown.lt _ e).1; omega))

theorem key_step {w w' : World} {gn b cap : Nat} {n : Nd} {v1 v2 v3 : Value} {x : ByteArray} {o : Obj} (h : NSt w gn n v1 v2 v3) (hown : w'.ownsRow (gn + 1) 9 1 (.slice (some ⟨b, 0, none⟩) (n.ks.length + 1) cap) (n.ks.length + 1) (strs n.ks ++ [.string x])) (hg : (w.alloc o).grownBy w' v1.ownBlock) (hb : v1.ownBlock = some b ∨ b = (w.alloc o).heap.size) :
    NSt (w'.setCell ⟨gn, 1, none⟩ (.slice (some ⟨b, 0, none⟩) (n.ks.length + 1) cap)) gn ⟨n.lf, n.ks ++ [x], n.vs, n.cs⟩ (.slice (some ⟨b, 0, none⟩) (n.ks.length + 1) cap) v2 v3 ∧ Below gn w (w'.setCell ⟨gn, 1, none⟩ (.slice (some ⟨b, 0, none⟩) (n.ks.length + 1) cap)) ∧ w'.cell? ⟨gn, 1, none⟩ = some v1 ∧ w'.frozen? ⟨gn, 1, none⟩ = false := by
  have hl := nst_lt h
  have hba : Below w.heap.size w (w.alloc o) := (Below.refl _ _).alloc (Nat.le_refl _) _
  have hA := nst_below h hba
  have hlt := fun k e => (h.2.1.lt k e).1
  have cg : w'.heap[gn]? = _ := (hg.block gn (nst_lt hA) (away (fun k e => by have := hlt k e; omega))).trans hA.1
  refine ⟨nst_key hA hown hg hb, ?_, (cell_at cg 1).1, (cell_at cg 1).2⟩
  have h1 : Below gn w w' := ((Below.refl gn w).alloc (by omega) o).grown hg (by have := nst_lt hA; omega) (fun k e => by have := hlt k e; omega)
  exact h1.grown (grown_setCell w' gn 1 _) (by have := h1.size; omega) (fun k e => by injection e with e; omega)

theorem val_step {w w' : World} {gn b cap : Nat} {n : Nd} {v1 v2 v3 : Value} {x : ByteArray} {o : Obj} (h : NSt w gn n v1 v2 v3) (hown : w'.ownsRow (gn + 1) 9 1 (.slice (some ⟨b, 0, none⟩) (n.vs.length + 1) cap) (n.vs.length + 1) (strs n.vs ++ [.string x])) (hg : (w.alloc o).grownBy w' v2.ownBlock) (hb : v2.ownBlock = some b ∨ b = (w.alloc o).heap.size) :
    NSt (w'.setCell ⟨gn, 2, none⟩ (.slice (some ⟨b, 0, none⟩) (n.vs.length + 1) cap)) gn ⟨n.lf, n.ks, n.vs ++ [x], n.cs⟩ v1 (.slice (some ⟨b, 0, none⟩) (n.vs.length + 1) cap) v3 ∧ Below gn w (w'.setCell ⟨gn, 2, none⟩ (.slice (some ⟨b, 0, none⟩) (n.vs.length + 1) cap)) ∧ w'.cell? ⟨gn, 2, none⟩ = some v2 ∧ w'.frozen? ⟨gn, 2, none⟩ = false := by
  have hl := nst_lt h
  have hba : Below w.heap.size w (w.alloc o) := (Below.refl _ _).alloc (Nat.le_refl _) _
  have hA := nst_below h hba
  have hlt := fun k e => (h.2.2.1.lt k e).1
  have cg : w'.heap[gn]? = _ := (hg.block gn (nst_lt hA) (away (fun k e => by have := hlt k e; omega))).trans hA.1
  refine ⟨nst_val hA hown hg hb, ?_, (cell_at cg 2).1, (cell_at cg 2).2⟩
  have h1 : Below gn w w' := ((Below.refl gn w).alloc (by omega) o).grown hg (by have := nst_lt hA; omega) (fun k e => by have := hlt k e; omega)
  exact h1.grown (grown_setCell w' gn 2 _) (by have := h1.size; omega) (fun k e => by injection e with e; omega)

theorem kid_step {w w' : World} {gn b cap : Nat} {n : Nd} {v1 v2 v3 : Value} {x : Int} {o : Obj} (h : NSt w gn n v1 v2 v3) (hown : w'.ownsRow (gn + 1) 3 1 (.slice (some ⟨b, 0, none⟩) (n.cs.length + 1) cap) (n.cs.length + 1) (ints n.cs ++ [.int .i64 x])) (hg : (w.alloc o).grownBy w' v3.ownBlock) (_hb : v3.ownBlock = some b ∨ b = (w.alloc o).heap.size) :
    NSt (w'.setCell ⟨gn, 3, none⟩ (.slice (some ⟨b, 0, none⟩) (n.cs.length + 1) cap)) gn ⟨n.lf, n.ks, n.vs, n.cs ++ [x]⟩ v1 v2 (.slice (some ⟨b, 0, none⟩) (n.cs.length + 1) cap) ∧ Below gn w (w'.setCell ⟨gn, 3, none⟩ (.slice (some ⟨b, 0, none⟩) (n.cs.length + 1) cap)) ∧ w'.cell? ⟨gn, 3, none⟩ = some v3 ∧ w'.frozen? ⟨gn, 3, none⟩ = false := by
  have hl := nst_lt h
  have hba : Below w.heap.size w (w.alloc o) := (Below.refl _ _).alloc (Nat.le_refl _) _
  have hA := nst_below h hba
  have hlt := fun k e => (h.2.2.2.1.lt k e).1
  have cg : w'.heap[gn]? = _ := (hg.block gn (nst_lt hA) (away (fun k e => by have := hlt k e; omega))).trans hA.1
  refine ⟨nst_kid hA hown hg, ?_, (cell_at cg 3).1, (cell_at cg 3).2⟩
  have h1 : Below gn w w' := ((Below.refl gn w).alloc (by omega) o).grown hg (by have := nst_lt hA; omega) (fun k e => by have := hlt k e; omega)
  exact h1.grown (grown_setCell w' gn 3 _) (by have := h1.size; omega) (fun k e => by injection e with e; omega)

theorem grown_low {a b c : World} {g gn : Nat} (h : a.grownBy b (some g)) (k : Below gn b c) (hle : a.heap.size ≤ gn) : a.grownBy c (some g) :=
  ⟨k.os.trans h.os, k.tape.trans h.tape, k.output.trans h.output, Nat.le_trans h.size k.size, fun j hj hne => by
    rw [k.block j (by omega)]
    exact h.block j hj hne⟩

/-- a node stored into another variable -/
theorem ret_node {w : World} {a B : Nat} {lf : Bool} {v1 v2 v3 c0 c1 c2 c3 : Value} {ks vs : List ByteArray} {cs : List Int} (hq : w.heap[a]? = some (.cells #[c0, c1, c2, c3] 55 (0, 0))) (hn : NodeOwn w B (.agg #[.bool lf, v1, v2, v3]) lf ks vs cs) (hlt : a < B) :
    ((((w.setCell ⟨a, 0, none⟩ (.bool lf)).setCell ⟨a, 1, none⟩ v1).setCell ⟨a, 2, none⟩ v2).setCell ⟨a, 3, none⟩ v3).heap[a]? = some (.cells #[.bool lf, v1, v2, v3] 55 (0, 0)) ∧
    NodeOwn ((((w.setCell ⟨a, 0, none⟩ (.bool lf)).setCell ⟨a, 1, none⟩ v1).setCell ⟨a, 2, none⟩ v2).setCell ⟨a, 3, none⟩ v3) B (.agg #[.bool lf, v1, v2, v3]) lf ks vs cs ∧
    Below a w ((((w.setCell ⟨a, 0, none⟩ (.bool lf)).setCell ⟨a, 1, none⟩ v1).setCell ⟨a, 2, none⟩ v2).setCell ⟨a, 3, none⟩ v3) := by
  have hal : a < w.heap.size := (Array.getElem?_eq_some_iff.1 hq).1
  have g1 := grown_trans (grown_trans (grown_trans (grown_setCell w a 0 (.bool lf)) (grown_setCell _ a 1 v1)) (grown_setCell _ a 2 v2)) (grown_setCell _ a 3 v3)
  refine ⟨heap_setCell_same _ a 3 _ _ _ (heap_setCell_same _ a 2 _ _ _ (heap_setCell_same _ a 1 _ _ _ (heap_setCell_same w a 0 _ _ _ hq))), ?_, (Below.refl a w).grown g1 (by omega) (fun k e => by injection e with e; omega)⟩
  obtain ⟨u1, u2, u3, e, h1, h2, h3, h4⟩ := hn
  obtain ⟨-, rfl, rfl, rfl⟩ := agg4 e
  exact ⟨_, _, _, rfl, h1.kept g1 (Or.inr (fun e => by have := (h1.lt _ e).1; omega)), h2.kept g1 (Or.inr (fun e => by have := (h2.lt _ e).1; omega)), h3.kept g1 (Or.inr (fun e => by have := (h3.lt _ e).1; omega)), h4⟩

theorem nodeOwn_down {w : World} {B B' : Nat} {v : Value} {lf : Bool} {ks vs : List ByteArray} {cs : List Int} (h : NodeOwn w B v lf ks vs cs) (hb : B' ≤ B) : NodeOwn w B' v lf ks vs cs := by
  obtain ⟨u1, u2, u3, e, h1, h2, h3, h4⟩ := h
  exact ⟨u1, u2, u3, e, own_down h1 hb, own_down h2 hb, own_down h3 hb, h4⟩
end Go.Proofs.YtacmpggigdlmmaaDoor

namespace Go.Proofs.YtacmpggigdlmmaaDoor
open Go.RowKit

def nodeA (B : Nat) (v : Value) (lf : Bool) (ks vs : List ByteArray) (cs : List Int) : Ast := ⟨nodeBlocks v, fun W => NodeOwn W B v lf ks vs cs, fun W W' h hk => by
  obtain ⟨vk, vv, vc, rfl, h1, h2, h3, h4⟩ := h
  exact ⟨vk, vv, vc, rfl, (rowA B 9 1 vk ks.length (strs ks)).loc W W' h1 (fun k e => hk k ⟨_, _, _, _, rfl, Or.inl e⟩), (rowA B 9 1 vv vs.length (strs vs)).loc W W' h2 (fun k e => hk k ⟨_, _, _, _, rfl, Or.inr (Or.inl e)⟩), (rowA B 3 1 vc cs.length (ints cs)).loc W W' h3 (fun k e => hk k ⟨_, _, _, _, rfl, Or.inr (Or.inr e)⟩), h4⟩⟩

def workA (B : Nat) (v : Value) (k : Wk) : Ast := ⟨workBlocks v, fun W => WorkOwn W B v k, fun W W' h hk => by
  obtain ⟨vp, vl, vu, vg, vf, rfl, h1, h2, h3, h4, h5⟩ := h
  have hi : ∀ {u : Value} {l : List Int}, IntOwn W B u l → (∀ j, u.ownBlock = some j → W'.heap[j]? = W.heap[j]?) → IntOwn W' B u l := fun {u l} h hk => by
    obtain ⟨a, cap, e, hc, h⟩ := h
    refine ⟨a, cap, e, hc, ?_⟩
    rcases h with h | ⟨g, off, cs, e2, hB, hh, hr⟩
    · exact Or.inl h
    · subst e e2
      exact Or.inr ⟨g, off, cs, rfl, hB, (hk g rfl).trans hh, hr⟩
  exact ⟨vp, vl, vu, vg, vf, rfl, (diskA B (.agg #[vp, vl]) k.ps k.ls).loc W W' h1 (fun j e => hk j ⟨_, _, _, _, _, _, rfl, Or.inl e⟩), hi h2 (fun j e => hk j ⟨_, _, _, _, _, _, rfl, Or.inr (Or.inl e)⟩), hi h3 (fun j e => hk j ⟨_, _, _, _, _, _, rfl, Or.inr (Or.inr (Or.inl e))⟩), hi h4 (fun j e => hk j ⟨_, _, _, _, _, _, rfl, Or.inr (Or.inr (Or.inr e))⟩), h5⟩⟩

theorem strs_snocN (l : List ByteArray) (x : ByteArray) : strs l ++ [.string x] = strs (l ++ [x]) := by simp [strs]

theorem strs_lenN (l : List ByteArray) : (strs l).length = l.length := by simp [strs]

theorem row_nS {W : World} {B e n : Nat} {v : Value} {l : List ByteArray} (h : W.ownsRow B e 1 v n (strs l)) : n = l.length := by
  have := h.1
  rw [strs_lenN] at this
  omega

/-- the rows of a node, their lengths as letters -/
abbrev nodeN (B : Nat) (v1 v2 v3 : Value) (ks vs : List ByteArray) (cs : List Int) (nk nv nc : Nat) : List Ast := [rowA B 9 1 v1 nk (strs ks), rowA B 9 1 v2 nv (strs vs), rowA B 3 1 v3 nc (ints cs)]

theorem sep_node {W : World} {B B' : Nat} {v1 v2 v3 : Value} {lf : Bool} {ks vs : List ByteArray} {cs : List Int} {nk nv nc : Nat} (h : Sep B W (nodeN B' v1 v2 v3 ks vs cs nk nv nc)) : NodeOwn W B' (.agg #[.bool lf, v1, v2, v3]) lf ks vs cs := by
  have h1 : W.ownsRow B' 9 1 v1 nk (strs ks) := sep_get h 0 rfl
  have h2 : W.ownsRow B' 9 1 v2 nv (strs vs) := sep_get h 1 rfl
  have h3 : W.ownsRow B' 3 1 v3 nc (ints cs) := sep_get h 2 rfl
  exact ⟨v1, v2, v3, rfl, by rw [← row_nS h1]; exact h1, by rw [← row_nS h2]; exact h2, by rw [← row_n h3]; exact h3, fun j => sep_apart h 0 1 rfl rfl (by decide) j⟩

theorem wpList_str1 {ops : Array Oper} {rest : List Oper} {o : Oper} {a : Act} {Q : Exit → Act → World → Prop} {B : Nat} {W : World} {l : List Ast} (h : Sep B W l) (i : Nat) {B' n : Nat} {v : Value} {xs : List ByteArray} (hi : l[i]? = some (rowA B' 9 1 v n (strs xs))) (hBB : B ≤ B') (hBW : B ≤ W.heap.size) (hBW' : B' ≤ W.heap.size)
    (hgd : o.guard = none) (s x : Operand) (ho : o.op = .call { callee := .builtin .append, args := #[s, x], argTypes := #[22, 22] }) (hs : a.eval s = v) (p : ByteArray) {H : Nat} (hH : H = W.heap.size) (hx : a.eval x = .slice (some ⟨H, 0, none⟩) 1 1) (hn : n ≤ 3000000)
    (hK : ∀ b c w', Sep B w' (l.set i (rowA B' 9 1 (.slice (some ⟨b, 0, none⟩) (n + 1) c) (n + 1) (strs (xs ++ [p])))) → Below B W w' → wpList Tryd.prog ops Q rest (a.put o.dst (.slice (some ⟨b, 0, none⟩) (n + 1) c)) w') :
    wpList Tryd.prog ops Q (o :: rest) a (W.alloc (Obj.cells #[.string p] 9)) := by
  obtain ⟨i0, hinf, hz0, hz1, hz2⟩ := info_parts Tryd.infoStrR
  refine wpList_sep1 h i hi hBB hBW hBW' hgd s x 22 ho i0 (.string ⟨#[]⟩) 16 Tryd.underlying22 hinf hz0 hz1 hz2 rfl (by decide) hs #[.string p] hH hx rfl (fun u hu => by simp at hu; subst hu; rfl) (by unfold maxLen; omega) (by omega) (fun b c w' k1 k2 => hK b c w' ?_ k2)
  rw [← strs_snocN]
  exact k1

theorem step_str1 {ops : Array Oper} {o : Oper} {a : Act} {K : Act → World → Prop} {Q : Exit → Act → World → Prop} {E : Prop} {B : Nat} {W : World} {l : List Ast} (h : Sep B W l) (i : Nat) {B' n : Nat} {v : Value} {xs : List ByteArray} (hi : l[i]? = some (rowA B' 9 1 v n (strs xs))) (hBB : B ≤ B') (hBW : B ≤ W.heap.size) (hBW' : B' ≤ W.heap.size)
    (hgd : o.guard = none) (s x : Operand) (ho : o.op = .call { callee := .builtin .append, args := #[s, x], argTypes := #[22, 22] }) (hs : a.eval s = v) (p : ByteArray) {H : Nat} (hH : H = W.heap.size) (hx : a.eval x = .slice (some ⟨H, 0, none⟩) 1 1) (hn : n ≤ 3000000)
    (hK : ∀ b c w', Sep B w' (l.set i (rowA B' 9 1 (.slice (some ⟨b, 0, none⟩) (n + 1) c) (n + 1) (strs (xs ++ [p])))) → Below B W w' → K (a.put o.dst (.slice (some ⟨b, 0, none⟩) (n + 1) c)) w') :
    if Region.wanted o (yielded ops a.tmps) = true then Oper.wp Tryd.prog o a (W.alloc (Obj.cells #[.string p] 9)) K Q else E := by
  obtain ⟨i0, hinf, hz0, hz1, hz2⟩ := info_parts Tryd.infoStrR
  refine step_sep1 h i hi hBB hBW hBW' hgd s x 22 ho i0 (.string ⟨#[]⟩) 16 Tryd.underlying22 hinf hz0 hz1 hz2 rfl (by decide) hs #[.string p] hH hx rfl (fun u hu => by simp at hu; subst hu; rfl) (by unfold maxLen; omega) (by omega) (fun b c w' k1 k2 => hK b c w' ?_ k2)
  rw [← strs_snocN]
  exact k1

theorem rowat_cellS {w wx : World} {n c b off : Nat} {l : List ByteArray} (h : RowAt w 1 (.slice (some ⟨b, off, none⟩) n c) n (strs l)) (hb : Below w.heap.size w wx) (i : Nat) (hi : i < n) (hn : n = l.length) : wx.cell? ⟨b, off + i, none⟩ = some (.string (l.getD i ⟨#[]⟩)) := by
  obtain ⟨-, a', cap, e, h⟩ := h
  injection e with e1 e2 e3
  subst e1
  rcases h with h0 | ⟨b', off', e, hlt, hc⟩
  · omega
  · injection e with e
    injection e with e e'
    subst e e'
    rw [hb.cell (by exact hlt), hc i (by omega)]
    simp [strs, List.getD_eq_getElem?_getD, show i < l.length by omega]

theorem blk4c {W : World} {g : Nat} {c0 c1 c2 c3 : Value} {t : TypeId} (h : W.heap[g]? = some (Obj.cells #[c0, c1, c2, c3] t)) :
    W.cell? ⟨g, 0, none⟩ = some c0 ∧ W.cell? ⟨g, 1, none⟩ = some c1 ∧ W.cell? ⟨g, 2, none⟩ = some c2 ∧ W.cell? ⟨g, 3, none⟩ = some c3 :=
  ⟨(cell_at h 0).1, (cell_at h 1).1, (cell_at h 2).1, (cell_at h 3).1⟩

theorem blk4z {W : World} {g : Nat} {c0 c1 c2 c3 : Value} {t : TypeId} (h : W.heap[g]? = some (Obj.cells #[c0, c1, c2, c3] t)) :
    W.frozen? ⟨g, 0, none⟩ = false ∧ W.frozen? ⟨g, 1, none⟩ = false ∧ W.frozen? ⟨g, 2, none⟩ = false ∧ W.frozen? ⟨g, 3, none⟩ = false :=
  ⟨(cell_at h 0).2, (cell_at h 1).2, (cell_at h 2).2, (cell_at h 3).2⟩

abbrev set4 (wr : World) (a : Nat) (u0 u1 u2 u3 : Value) : World := (((wr.setCell ⟨a, 0, none⟩ u0).setCell ⟨a, 1, none⟩ u1).setCell ⟨a, 2, none⟩ u2).setCell ⟨a, 3, none⟩ u3

/-- an answer that is a node: it is laid into the answer's variable -/
theorem ret_sepN {w wr : World} {b0 a1 B : Nat} {r0 r1 r2 r3 v1 v2 v3 : Value} {t : TypeId} {lf : Bool} {ks vs : List ByteArray} {cs : List Int} {nk nv nc : Nat} {l : List Ast} (h : Sep b0 wr l) (r : Nat) (hr : l[r]? = some (cellA a1 (Obj.cells #[r0, r1, r2, r3] t))) (hs : (nodeN B v1 v2 v3 ks vs cs nk nv nc).Sublist l) (hB : a1 < B) (hw : w.heap.size ≤ a1) (hb : Below w.heap.size w wr) :
    (set4 wr a1 (.bool lf) v1 v2 v3).heap[a1]? = some (Obj.cells #[.bool lf, v1, v2, v3] t) ∧ NodeOwn (set4 wr a1 (.bool lf) v1 v2 v3) w.heap.size (.agg #[.bool lf, v1, v2, v3]) lf ks vs cs ∧ Below w.heap.size w (set4 wr a1 (.bool lf) v1 v2 v3) := by
  have h1 := sep_get h r hr
  have hk : Kept wr (set4 wr a1 (.bool lf) v1 v2 v3) (fun k => k = a1) := kept_trans (kept_trans (kept_trans (kept_setCell _ _ _ _) (kept_setCell _ _ _ _) (fun _ _ h => h)) (kept_setCell _ _ _ _) (fun _ _ h => h)) (kept_setCell _ _ _ _) (fun _ _ h => h)
  have hN := sep_take h _ hs
  have hN2 : Sep b0 (set4 wr a1 (.bool lf) v1 v2 v3) (nodeN B v1 v2 v3 ks vs cs nk nv nc) := sep_kept hN hk (fun A hA k hF e => by
    have : B ≤ k := by
      rcases List.mem_cons.1 hA with rfl | hA
      · exact ((sep_get hN 0 rfl : wr.ownsRow B 9 1 v1 nk (strs ks)).lt k hF).1
      rcases List.mem_cons.1 hA with rfl | hA
      · exact ((sep_get hN 1 rfl : wr.ownsRow B 9 1 v2 nv (strs vs)).lt k hF).1
      rcases List.mem_cons.1 hA with rfl | hA
      · exact ((sep_get hN 2 rfl : wr.ownsRow B 3 1 v3 nc (ints cs)).lt k hF).1
      · cases hA
    omega)
  refine ⟨heap_setCell_same _ a1 3 _ _ _ (heap_setCell_same _ a1 2 _ _ _ (heap_setCell_same _ a1 1 _ _ _ (heap_setCell_same wr a1 0 _ _ _ h1))), ?_, hb.trans (below_of_kept hk hb.size (fun k e => by omega))⟩
  obtain ⟨x1, x2, x3, e, d1, d2, d3, d4⟩ := sep_node (lf := lf) hN2
  exact ⟨x1, x2, x3, e, own_down d1 (by omega), own_down d2 (by omega), own_down d3 (by omega), d4⟩

theorem node_formS {w : World} {B : Nat} {v : Value} {lf : Bool} {ks vs : List ByteArray} {cs : List Int} (h : NodeOwn w B v lf ks vs cs) : ∃ a1 c1 a2 c2 a3 c3, v = .agg #[.bool lf, .slice a1 ks.length c1, .slice a2 vs.length c2, .slice a3 cs.length c3] := by
  obtain ⟨v1, v2, v3, rfl, h1, h2, h3, -⟩ := h
  obtain ⟨a1, c1, rfl⟩ := own_slice h1
  obtain ⟨a2, c2, rfl⟩ := own_slice h2
  obtain ⟨a3, c3, rfl⟩ := own_slice h3
  exact ⟨a1, c1, a2, c2, a3, c3, rfl⟩

theorem nodeOwn_downP {w : World} {B B' : Nat} {v : Value} {lf : Bool} {ks vs : List ByteArray} {cs : List Int} (h : NodeOwn w B v lf ks vs cs) (hB : B' ≤ B) : NodeOwn w B' v lf ks vs cs := by
  obtain ⟨v1, v2, v3, e, h1, h2, h3, h4⟩ := h
  exact ⟨v1, v2, v3, e, own_down h1 hB, own_down h2 hB, own_down h3 hB, h4⟩

theorem sep_swap {B : Nat} {W : World} {A A' : Ast} {l : List Ast} (h : Sep B W (A :: A' :: l)) : Sep B W (A' :: A :: l) := sep_perm h (List.Perm.swap _ _ _)

/-- a work is laid into a variable -/
theorem sep_store6 {B : Nat} {W : World} {l : List Ast} (h : Sep B W l) (i : Nat) {g : Nat} {r0 r1 r2 r3 r4 r5 : Value} {T : TypeId} (hi : l[i]? = some (cellA g (Obj.cells #[r0, r1, r2, r3, r4, r5] T))) (u0 u1 u2 u3 u4 u5 : Value) : Sep B (set6 W g u0 u1 u2 u3 u4 u5) (l.set i (cellA g (Obj.cells #[u0, u1, u2, u3, u4, u5] T))) := by
  have h1 : W.heap[g]? = some (Obj.cells #[r0, r1, r2, r3, r4, r5] T) := sep_get h i hi
  have h2 := sep_lt h i hi g rfl
  refine sep_set h i hi (set6_kept W g u0 u1 u2 u3 u4 u5) _ (set6_blk h1) (fun k hk => ⟨Or.inl hk, ?_⟩) (Nat.le_of_lt (Nat.lt_of_le_of_lt h2.1 h2.2))
  have hk : k = g := hk
  subst hk
  simpa using h2.2

/-- a node is laid into a variable -/
theorem sep_store4 {B : Nat} {W : World} {l : List Ast} (h : Sep B W l) (i : Nat) {g : Nat} {r0 r1 r2 r3 : Value} {T : TypeId} (hi : l[i]? = some (cellA g (Obj.cells #[r0, r1, r2, r3] T))) (u0 u1 u2 u3 : Value) : Sep B (set4 W g u0 u1 u2 u3) (l.set i (cellA g (Obj.cells #[u0, u1, u2, u3] T))) := by
  have h1 : W.heap[g]? = some (Obj.cells #[r0, r1, r2, r3] T) := sep_get h i hi
  have h2 := sep_lt h i hi g rfl
  have hk : Kept W (set4 W g u0 u1 u2 u3) (fun k => k = g) := kept_trans (kept_trans (kept_trans (kept_setCell _ _ _ _) (kept_setCell _ _ _ _) (fun _ _ h => h)) (kept_setCell _ _ _ _) (fun _ _ h => h)) (kept_setCell _ _ _ _) (fun _ _ h => h)
  refine sep_set h i hi hk _ (heap_setCell_same _ g 3 _ _ _ (heap_setCell_same _ g 2 _ _ _ (heap_setCell_same _ g 1 _ _ _ (heap_setCell_same W g 0 _ _ _ h1)))) (fun k hk => ⟨Or.inl hk, ?_⟩) (Nat.le_of_lt (Nat.lt_of_le_of_lt h2.1 h2.2))
  have hk : k = g := hk
  subst hk
  simpa using h2.2

theorem blk6z {W : World} {g : Nat} {c0 c1 c2 c3 c4 c5 : Value} {t : TypeId} (h : W.heap[g]? = some (Obj.cells #[c0, c1, c2, c3, c4, c5] t)) :
    W.frozen? ⟨g, 0, none⟩ = false ∧ W.frozen? ⟨g, 1, none⟩ = false ∧ W.frozen? ⟨g, 2, none⟩ = false ∧ W.frozen? ⟨g, 3, none⟩ = false ∧ W.frozen? ⟨g, 4, none⟩ = false ∧ W.frozen? ⟨g, 5, none⟩ = false :=
  ⟨(cell_at h 0).2, (cell_at h 1).2, (cell_at h 2).2, (cell_at h 3).2, (cell_at h 4).2, (cell_at h 5).2⟩

/-- the first m of a row, and what is behind them -/
theorem rowat_take {w : World} {a : Option Addr} {n c c' : Nat} {xs : List Value} (h : RowAt w 1 (.slice a n c) n xs) (m : Nat) (hm : m ≤ n) : RowAt w 1 (.slice a m c') m (xs.take m) := by
  obtain ⟨hl, a', cap, e, h⟩ := h
  injection e with e1
  subst e1
  refine ⟨by rw [List.length_take]; omega, _, _, rfl, ?_⟩
  rcases h with h0 | ⟨b, off, rfl, hlt, hc⟩
  · exact Or.inl (by omega)
  · exact Or.inr ⟨b, off, rfl, hlt, fun j hj => by rw [hc j (by omega), List.getElem?_take, if_pos (by omega)]⟩

theorem rowat_drop {w : World} {b off n c c' : Nat} {xs : List Value} (h : RowAt w 1 (.slice (some ⟨b, off, none⟩) n c) n xs) (m : Nat) (hm : m ≤ n) : RowAt w 1 (.slice (some ⟨b, off + m, none⟩) (n - m) c') (n - m) (xs.drop m) := by
  obtain ⟨hl, a', cap, e, h⟩ := h
  injection e with e1
  subst e1
  refine ⟨by rw [List.length_drop]; omega, _, _, rfl, ?_⟩
  rcases h with h0 | ⟨b', off', e, hlt, hc⟩
  · exact Or.inl (by omega)
  · injection e with e
    injection e with e e'
    subst e e'
    exact Or.inr ⟨b, off + m, rfl, hlt, fun j hj => by rw [Nat.add_assoc, hc (m + j) (by omega), List.getElem?_drop]⟩

theorem strs_take (l : List ByteArray) (m : Nat) : (strs l).take m = strs (l.take m) := by simp [strs, List.map_take]
theorem strs_drop (l : List ByteArray) (m : Nat) : (strs l).drop m = strs (l.drop m) := by simp [strs, List.map_drop]
theorem ints_take (l : List Int) (m : Nat) : (ints l).take m = ints (l.take m) := by simp [ints, List.map_take]
theorem ints_drop (l : List Int) (m : Nat) : (ints l).drop m = ints (l.drop m) := by simp [ints, List.map_drop]
end Go.Proofs.YtacmpggigdlmmaaDoor

namespace Go.Proofs.YtacmpggigdlmmaaDoor
open Go.RowKit

/-- the cells of a row of halves -/
def hvs (l : List (ByteArray × Int)) : List Value := l.flatMap fun p => [.string p.1, .int .i64 p.2]

theorem hvs_length (l : List (ByteArray × Int)) : (hvs l).length = l.length * 2 := by
  induction l with
  | nil => rfl
  | cons x l ih => rw [hvs, List.flatMap_cons, List.length_append]; show 2 + (hvs l).length = _; rw [ih, List.length_cons]; omega

theorem hvs_snoc (l : List (ByteArray × Int)) (x : ByteArray) (y : Int) : hvs l ++ [.string x, .int .i64 y] = hvs (l ++ [(x, y)]) := by simp [hvs]

theorem hvs_at (l : List (ByteArray × Int)) : ∀ (i : Nat) (h : i < l.length), (hvs l)[i * 2]? = some (.string l[i].1) ∧ (hvs l)[i * 2 + 1]? = some (.int .i64 l[i].2) := by
  induction l with
  | nil => intro i h; simp at h
  | cons x l ih =>
    intro i h
    cases i with
    | zero => simp [hvs]
    | succ i =>
      have hh := ih i (by simpa using h)
      have key : ∀ j, (hvs (x :: l))[(i + 1) * 2 + j]? = (hvs l)[i * 2 + j]? := fun j => by
        rw [show hvs (x :: l) = [.string x.1, .int .i64 x.2] ++ hvs l from rfl, List.getElem?_append_right (by simp; omega)]
        congr 1
        simp; omega
      have k0 := key 0
      simp only [Nat.add_zero] at k0
      rw [k0, key 1]
      exact hh

theorem prs_drop2 {w : World} {b off n c c' : Nat} {xs : List Value} (h : RowAt w 2 (.slice (some ⟨b, off, none⟩) n c) n xs) (k m : Nat) (hm : k + m ≤ n) : RowAt w 2 (.slice (some ⟨b, off + k * 2, none⟩) m c') m ((xs.drop (k * 2)).take (m * 2)) := by
  obtain ⟨hl, a', cap, e, h⟩ := h
  injection e with e1
  subst e1
  refine ⟨by rw [List.length_take, List.length_drop]; omega, _, _, rfl, ?_⟩
  rcases h with h0 | ⟨b', off', e, hlt, hc⟩
  · exact Or.inl (by omega)
  · injection e with e
    injection e with e e'
    subst e e'
    exact Or.inr ⟨b, off + k * 2, rfl, hlt, fun j hj => by rw [Nat.add_assoc, hc (k * 2 + j) (by omega), List.getElem?_take, if_pos (by omega), List.getElem?_drop]⟩

theorem hvs_cut (l : List (ByteArray × Int)) (k m : Nat) : ((hvs l).drop (k * 2)).take (m * 2) = hvs ((l.drop k).take m) := by
  have hd : ∀ (l : List (ByteArray × Int)) (k : Nat), (hvs l).drop (k * 2) = hvs (l.drop k) := fun l k => by
    induction k generalizing l with
    | zero => rfl
    | succ k ih =>
      cases l with
      | nil => rfl
      | cons x l => rw [List.drop_succ_cons, ← ih l]; show ([Value.string x.1, .int .i64 x.2] ++ hvs l).drop _ = _; rw [show (k + 1) * 2 = k * 2 + 1 + 1 from by omega]; rfl
  have ht : ∀ (l : List (ByteArray × Int)) (k : Nat), (hvs l).take (k * 2) = hvs (l.take k) := fun l k => by
    induction k generalizing l with
    | zero => rfl
    | succ k ih =>
      cases l with
      | nil => rfl
      | cons x l => rw [List.take_succ_cons]; show ([Value.string x.1, .int .i64 x.2] ++ hvs l).take _ = _; rw [show (k + 1) * 2 = k * 2 + 1 + 1 from by omega]; show Value.string x.1 :: Value.int .i64 x.2 :: (hvs l).take (k * 2) = _; rw [ih l]; rfl
  rw [hd, ht]

set_option maxHeartbeats 400000 in
theorem nodesFor_any (n : Nat) (hn : n ≤ 100000000) (w : World) : Calls Tryd.prog 61 #[.int .i64 (n : Int)] w fun e w' => e = .returned (.int .i64 ((fours n : Nat) : Int)) ∧ w = w' := by
  have h1 : (n : Int) + 4 - 1 = ((n + 3 : Nat) : Int) := by omega
  have h2 : ((n : Int) + 4 - 1) / 4 = ((fours n : Nat) : Int) := by rw [h1]; unfold fours; omega
  have HN := hide h2
  clear h1 h2
  go_enter Tryd.func61, Tryd.ntmps61
  go_wp2
  go_ret
  exact ⟨by rw [← HN.out]; rfl, rfl⟩

set_option maxHeartbeats 400000 in
theorem levelsAbove_any (n : Nat) (hn : n ≤ 1048576) (w : World) : Calls Tryd.prog 43 #[.int .i64 (n : Int)] w fun e w' => e = .returned (.int .i64 ((lup 21 n : Nat) : Int)) ∧ w = w' := by
  obtain ⟨T, hT⟩ : ∃ T, lup 21 n = T := ⟨_, rfl⟩
  have hTl : T ≤ 21 := by rw [← hT]; exact lup_le 21 n
  rw [hT]
  go_enter Tryd.func43, Tryd.ntmps43
  go_wp2
  go_loopg [3, 4] T (fun q lv sv wr => ∃ (l c : Nat), lv = .int .i64 (l : Int) ∧ sv = .int .i64 (c : Int) ∧ Hid (c ≤ 1048576) ∧ q + l = T ∧ Hid (lup 21 c = q) ∧ wr = w)
  case atStart => exact ⟨0, n, rfl, rfl, hide hn, by omega, hide hT, rfl⟩
  case round =>
    obtain ⟨l, c, rfl, rfl, HC, hq, HL, rfl⟩ := hrel
    by_cases h1 : 1 < c
    · have hcl := HC.out
      have HU := hide (lup_up h1 hcl)
      have HF : Hid (fours c ≤ 1048576) := hide (by have := fours_two h1; omega)
      have HNf := hide (fun wx => nodesFor_any c (by omega) wx)
      have hl : (l : Int) ≤ 21 := by omega
      have hc1 : (1 : Int) < (c : Int) := by omega
      have HQ := hide hq
      have HH1 := hide h1
      clear hcl h1 hq
      go_wp2_with fail
      refine (HNf.out _).mono ?_
      rintro e w1 ⟨rfl, rfl⟩
      go_wp2_with fail
      go_roundg (gk - 1)
      case measure => have h1 := HU.out; have h2 := HL.out; omega
      case rel => exact ⟨l + 1, fours c, by go_num, rfl, HF, by have h1 := HU.out; have h2 := HL.out; have h3 := HQ.out; omega, hide (by have h1 := HU.out; have h2 := HL.out; omega), rfl⟩
    · have hc1 : ¬ (1 : Int) < (c : Int) := by omega
      have HE : Hid (l = T) := hide (by have h1 : lup 21 c = 0 := lup_one (by omega); have h2 := HL.out; omega)
      clear h1 hq
      go_wp2
      go_ret
      exact ⟨by rw [HE.out]; rfl, rfl⟩

set_option maxHeartbeats 1000000 in
set_option maxRecDepth 100000 in
theorem pairsAscend_any (L : List (ByteArray × ByteArray)) (hl : L.length ≤ 1048576) (v : Value) (w : World) (hr : RowAt w 2 v L.length (prs L)) :
    Calls Tryd.prog 41 #[v] w fun e w' => e = .returned (.bool (ascB L)) ∧ Below w.heap.size w w' := by
  obtain ⟨-, a, cap, rfl, h2⟩ := hr
  have HR := hide h2
  clear h2
  obtain ⟨n, hn⟩ : ∃ n, L.length = n := ⟨_, rfl⟩
  have HN := hide hn
  rw [hn] at hl ⊢
  clear hn
  go_enter Tryd.func41, Tryd.ntmps41
  go_wp2
  go_loopg [6] n (fun q iv wr => ∃ (i : Nat), i ≤ n ∧ q + i = n ∧ iv = .int .i64 (i : Int) ∧ Hid (∀ k, k < i → 0 < k → Op.bytesLess (L.getD (k - 1) (⟨#[]⟩, ⟨#[]⟩)).1.toList (L.getD k (⟨#[]⟩, ⟨#[]⟩)).1.toList = true) ∧ Hid (Below w.heap.size w wr))
  case atStart => exact ⟨0, Nat.zero_le _, rfl, rfl, hide (fun k h1 => by omega), hide (Below.refl _ _)⟩
  case round =>
    obtain ⟨i, hin, hq, rfl, HU, HW⟩ := hrel
    have HQ := hide hq
    clear hq
    by_cases hlt : i < n
    · have hi1 : (i : Int) < (n : Int) := by omega
      cases i with
      | zero =>
        go_wp2_with fail
        go_quiet (fail)
        go_wp2_with fail
        go_roundg (gk - 1)
        case measure => have := HQ.out; omega
        case rel => exact ⟨1, by omega, by have := HQ.out; omega, by go_num, hide (fun k h1 h2 => by omega), hide (below_drewN HW.out _)⟩
      | succ j =>
        rcases HR.out with hn0 | ⟨b, off, rfl, hbl, hc⟩
        · have := HN.out; omega
        obtain ⟨x, hx⟩ : ∃ x, x = (L.getD j (⟨#[]⟩, ⟨#[]⟩)).1 := ⟨_, rfl⟩
        obtain ⟨y, hy⟩ : ∃ y, y = (L.getD (j + 1) (⟨#[]⟩, ⟨#[]⟩)).1 := ⟨_, rfl⟩
        have c0 : wr.cell? ⟨b, off + j * 2, none⟩ = some (.string x) := by
          rw [HW.out.cell (by exact hbl), hc (j * 2) (by have := HN.out; omega), (prs_at L j (by have := HN.out; omega)).1, hx]
          simp [List.getD_eq_getElem?_getD, show j < L.length by have := HN.out; omega]
        have c1 : wr.cell? ⟨b, off + (j + 1) * 2, none⟩ = some (.string y) := by
          rw [HW.out.cell (by exact hbl), hc ((j + 1) * 2) (by have := HN.out; omega), (prs_at L (j + 1) (by have := HN.out; omega)).1, hy]
          simp [List.getD_eq_getElem?_getD, show j + 1 < L.length by have := HN.out; omega]
        obtain ⟨t, ht⟩ : ∃ t, Op.bytesLess x.toList y.toList = t := ⟨_, rfl⟩
        have HT : Hid (Op.bytesLess (L.getD j (⟨#[]⟩, ⟨#[]⟩)).1.toList (L.getD (j + 1) (⟨#[]⟩, ⟨#[]⟩)).1.toList = t) := hide (by rw [← hx, ← hy]; exact ht)
        have hj0 : (0 : Int) ≤ (j : Int) := by omega
        have hj1 : (j : Int) + 1 < (n : Int) := by omega
        have hj2 : (j : Int) < (n : Int) := by omega
        have hj3 : (0 : Int) < (j : Int) + 1 := by omega
        clear hx hy hc
        cases t with
        | true =>
          go_wp2_with fail
          go_quiet (fail)
          go_wp2_with fail
          go_roundg (gk - 1)
          case measure => have := HQ.out; omega
          case rel => exact ⟨j + 1 + 1, by omega, by have := HQ.out; omega, by go_num, hide (fun k h1 h3 => by
            by_cases e : k = j + 1
            · subst e; exact HT.out
            · exact HU.out k (by omega) h3), hide (below_drewN HW.out _)⟩
        | false =>
          go_wp2_with fail
          go_quiet (fail)
          go_wp2_with fail
          go_ret
          rw [asc_no (by rw [HN.out]; exact hlt) HT.out]
          exact ⟨rfl, below_drewN HW.out _⟩
    · have HUp : Hid (ascB L = true) := hide ((ascB_iff L).2 fun k h1 h2 => HU.out k (by have := HN.out; omega) h2)
      clear HU
      go_wp2
      go_ret
      rw [HUp.out]
      exact ⟨rfl, HW.out⟩

set_option maxHeartbeats 1000000 in
set_option maxRecDepth 100000 in
theorem entriesOf_any (l : List (ByteArray × Int)) (hl : l.length ≤ 1048576) (v : Value) (w : World) (hr : RowAt w 2 v l.length (hvs l)) :
    Calls Tryd.prog 63 #[v] w fun e w' => ∃ v1 v2, e = .returned (.tuple #[v1, v2]) ∧ w'.ownsRow w.heap.size 9 1 v1 l.length (strs (l.map (·.1))) ∧ w'.ownsRow w.heap.size 3 1 v2 l.length (ints (l.map (·.2))) ∧ Below w.heap.size w w' := by
  obtain ⟨-, a, cap, rfl, h2⟩ := hr
  have HR := hide h2
  clear h2
  obtain ⟨n, hn⟩ : ∃ n, l.length = n := ⟨_, rfl⟩
  have HN := hide hn
  rw [hn] at hl ⊢
  clear hn
  have hS0 := sep_row0 (sep_new (sep_row0 (sep_new (sep_nil w.heap.size w) (Obj.cells #[] 9) (Nat.le_refl _))) (Obj.cells #[] 3) (by simp))
  rw [World.size_alloc] at hS0
  have HS0 := hide hS0
  clear hS0
  go_enter Tryd.func63, Tryd.ntmps63
  go_wp2
  go_loopg [4, 5, 12] n (fun q kv cv iv wr => ∃ (i : Nat) (vk vc : Value), i ≤ n ∧ q + i = n ∧ iv = .int .i64 (i : Int) ∧ vk = kv ∧ vc = cv ∧ Hid (Sep w.heap.size wr [rowA w.heap.size 3 1 vc i (ints ((l.map (·.2)).take i)), rowA w.heap.size 9 1 vk i (strs ((l.map (·.1)).take i))]) ∧ Hid (Below w.heap.size w wr))
  case atStart => exact ⟨0, _, _, Nat.zero_le _, rfl, rfl, rfl, rfl, HS0, hide (((Below.refl w.heap.size w).alloc (Nat.le_refl _) _).alloc (by simp) _)⟩
  case round =>
    obtain ⟨i, vk, vc, hin, hq, rfl, rfl, rfl, HS, HW⟩ := hrel
    have HQ := hide hq
    clear hq HS0
    by_cases hlt : i < n
    · rcases HR.out with hn0 | ⟨b, off, rfl, hbl, hc⟩
      · have := HN.out; omega
      have hil : i < l.length := by have := HN.out; omega
      obtain ⟨x, hx⟩ : ∃ x, x = l[i].1 := ⟨_, rfl⟩
      obtain ⟨y, hy⟩ : ∃ y, y = l[i].2 := ⟨_, rfl⟩
      have c0 : wr.cell? ⟨b, off + i * 2, none⟩ = some (.string x) := by rw [HW.out.cell (by exact hbl), hc (i * 2) (by omega), (hvs_at l i hil).1, hx]
      have c1 : wr.cell? ⟨b, off + i * 2 + 1, none⟩ = some (.int .i64 y) := by rw [HW.out.cell (by exact hbl), Nat.add_assoc, hc (i * 2 + 1) (by omega), (hvs_at l i hil).2, hy]
      have HT : Hid ((l.map (·.1)).take (i + 1) = (l.map (·.1)).take i ++ [x] ∧ (l.map (·.2)).take (i + 1) = (l.map (·.2)).take i ++ [y]) := hide (by rw [List.take_succ_eq_append_getElem (by simpa using hil), List.take_succ_eq_append_getElem (l := l.map (·.2)) (by simpa using hil), List.getElem_map, List.getElem_map, hx, hy]; exact ⟨rfl, rfl⟩)
      have hS1 := sep_new HS.out (Obj.cells #[.string x, .int .i64 y] 83) HW.out.size
      have HS1 := hide hS1
      have HB1 : Hid (Below w.heap.size w (wr.alloc (Obj.cells #[.string x, .int .i64 y] 83))) := hide (HW.out.alloc HW.out.size _)
      have hi0 : (0 : Int) ≤ (i : Int) := by omega
      have hi1 : (i : Int) < (n : Int) := by omega
      have hi2 : i ≤ 3000000 := by omega
      clear hx hy hc hS1
      go_wp2_with (at_builtin; refine wpList_str1 HS1.out 2 rfl (Nat.le_refl _) HB1.out.size HB1.out.size rfl (.tmp 16) (.tmp 19) rfl rfl x (by simp) rfl hi2 ?_)
      intro b4 c4 w4 hs4 hb4
      have HS4 := hide hs4
      have HB4 := hide (HB1.out.trans hb4)
      have cv : w4.cell? ⟨wr.heap.size, 1, none⟩ = some (.int .i64 y) := (cell_at (sep_get HS4.out 0 rfl : w4.heap[wr.heap.size]? = some (Obj.cells #[.string x, .int .i64 y] 83)) 1).1
      clear hs4 hb4
      go_wp2_with (at_builtin; refine wpList_int1 HS4.out 1 rfl (Nat.le_refl _) HB4.out.size HB4.out.size rfl (.tmp 21) (.tmp 24) rfl rfl y rfl rfl hi2 ?_)
      intro b5 c5 w5 hs5 hb5
      have HS5 := hide hs5
      have HB5 := hide (HB4.out.trans hb5)
      clear hs5 hb5
      go_wp2_with fail
      go_roundg (gk - 1)
      case measure => have := HQ.out; omega
      case rel => exact ⟨i + 1, _, _, by omega, by have := HQ.out; omega, by go_num, rfl, rfl, hide (by rw [HT.out.1, HT.out.2]; exact sep_del HS5.out), HB5⟩
    · obtain rfl : i = n := by omega
      go_wp2
      go_ret2
      refine ⟨_, _, rfl, ?_, ?_, HW.out⟩
      · have h : wr.ownsRow w.heap.size 9 1 vk i (strs ((l.map (·.1)).take i)) := sep_get HS.out 1 rfl
        rw [List.take_of_length_le (by rw [List.length_map, HN.out]; exact Nat.le_refl _)] at h
        exact h
      · have h : wr.ownsRow w.heap.size 3 1 vc i (ints ((l.map (·.2)).take i)) := sep_get HS.out 0 rfl
        rw [List.take_of_length_le (by rw [List.length_map, HN.out]; exact Nat.le_refl _)] at h
        exact h

end Go.Proofs.YtacmpggigdlmmaaDoor

namespace Go.Proofs.YtacmpggigdlmmaaDoor
open Go.RowKit

theorem branch2 {G A B : Prop} (hA : G → A) (hB : G → B) (h : G) : A ∧ B := ⟨hA h, hB h⟩

theorem ready2 {P : Program} {md : Region.Mode} {ops : Array Oper} {Q : Exit → Act → World → Prop} {S : World → Prop} {fuel : Nat} {listed : Array Bool} {a : Act} {w : World} {i j : Nat} {oi oj : Oper} (hi : ops[i]? = some oi) (hj : ops[j]? = some oj)
    (h : (∀ K' : Act → World → Prop, Shut (∀ a w, S w → (S w → wpAnyH P md ops Q S fuel (listed.setIfInBounds i true) a w) → K' a w) → if Region.wanted oi (yielded ops a.tmps) = true then Oper.wp P oi a w K' Q else K' (a.put oi.dst undef) w) ∧
      (∀ K' : Act → World → Prop, Shut (∀ a w, S w → (S w → wpAnyH P md ops Q S fuel (listed.setIfInBounds j true) a w) → K' a w) → if Region.wanted oj (yielded ops a.tmps) = true then Oper.wp P oj a w K' Q else K' (a.put oj.dst undef) w)) :
    AllReadyH P md ops Q S fuel listed a w [i, j] := AllReadyH.cons hi h.1 (AllReadyH.cons hj h.2 AllReadyH.nil)

theorem step_call3 {P : Program} (w : World) {ops : Array Oper} {o : Oper} {a : Act} {K : Act → World → Prop} {Q : Exit → Act → World → Prop} {E : Prop} (hgd : o.guard = none) (f : FuncId) (fn : Func) (hfn : P.funcs[f]? = some fn) (hname : ¬ fn.name = "runtime.NumGoroutine") (hbody : ¬ fn.body = none) (s x y : Operand) (ts : Array TypeId)
    (ho : o.op = .call { callee := .value (.func f), args := #[s, x, y], argTypes := ts }) (u v z : Value) (hs : a.eval s = u) (hx : a.eval x = v) (hy : a.eval y = z)
    (R : Ending → World → Prop) (hc : Calls P f #[u, v, z] w R) (hR : ∀ e w', R e w' → ∃ r, e = .returned r ∧ K (a.put o.dst r) w') :
    if Region.wanted o (yielded ops a.tmps) = true then Oper.wp P o a w K Q else E := by
  have hw : Region.wanted o (yielded ops a.tmps) = true := by simp [Region.wanted, hgd]
  rw [if_pos hw]
  unfold Oper.wp execOp
  have hf : a.eval (.func f) = .func (.func f) #[] #[] := rfl
  simp only [ho, resolve, invoke, hf, Deferred.ofValue, callFunc, Sem.run_bind, Sem.run_pure, Result.andThen_ok, List.map_toArray, List.map_cons, List.map_nil, hs, hx, hy]
  simp [go_sem, hfn, hname, hbody]
  refine hc.mono ?_
  intro e w' h
  obtain ⟨r, rfl, hk⟩ := hR e w' h
  exact hk

/-- 'wpAnyH_take' with the slot named -/
theorem takeW {P : Program} {md : Region.Mode} {ops : Array Oper} {Q : Exit → Act → World → Prop} {S : World → Prop} (i d : Nat) {oi : Oper} (v : Value) {fuel : Nat} {listed : Array Bool} {a : Act} {w : World} (hi : ops[i]? = some oi) (hd : oi.dst = some d)
    (hs : Region.noSelect ops = true) (hf : Region.free md ops listed i = true) (hr : (Region.ready md ops listed).contains i = true)
    (hQ : ∀ c a w, Q (.panic c) (a.put oi.dst v) w → Q (.panic c) a w) (hy : YieldsIf P ops S oi v a) (hS : S w)
    (h : wpAnyH P md ops Q S fuel (listed.setIfInBounds i true) ⟨a.tmps.setIfInBounds d v, a.defers⟩ w) : wpAnyH P md ops Q S (fuel + 1) listed a w :=
  wpAnyH_take hi hs hf hr hQ hy hS (by rw [hd]; exact h)

theorem step_call7 {P : Program} (w : World) {ops : Array Oper} {o : Oper} {a : Act} {K : Act → World → Prop} {Q : Exit → Act → World → Prop} {E : Prop} (hgd : o.guard = none) (f : FuncId) (fn : Func) (hfn : P.funcs[f]? = some fn) (hname : ¬ fn.name = "runtime.NumGoroutine") (hbody : ¬ fn.body = none) (s x y p q r t : Operand) (ts : Array TypeId)
    (ho : o.op = .call { callee := .value (.func f), args := #[s, x, y, p, q, r, t], argTypes := ts }) (u v z z1 z2 z3 z4 : Value) (hs : a.eval s = u) (hx : a.eval x = v) (hy : a.eval y = z) (hp : a.eval p = z1) (hq : a.eval q = z2) (hr : a.eval r = z3) (ht : a.eval t = z4)
    (R : Ending → World → Prop) (hc : Calls P f #[u, v, z, z1, z2, z3, z4] w R) (hR : ∀ e w', R e w' → ∃ r', e = .returned r' ∧ K (a.put o.dst r') w') :
    if Region.wanted o (yielded ops a.tmps) = true then Oper.wp P o a w K Q else E := by
  have hw : Region.wanted o (yielded ops a.tmps) = true := by simp [Region.wanted, hgd]
  rw [if_pos hw]
  unfold Oper.wp execOp
  have hf : a.eval (.func f) = .func (.func f) #[] #[] := rfl
  simp only [ho, resolve, invoke, hf, Deferred.ofValue, callFunc, Sem.run_bind, Sem.run_pure, Result.andThen_ok, List.map_toArray, List.map_cons, List.map_nil, hs, hx, hy, hp, hq, hr, ht]
  simp [go_sem, hfn, hname, hbody]
  refine hc.mono ?_
  intro e w' h
  obtain ⟨r, rfl, hk⟩ := hR e w' h
  exact hk
end Go.Proofs.YtacmpggigdlmmaaDoor
