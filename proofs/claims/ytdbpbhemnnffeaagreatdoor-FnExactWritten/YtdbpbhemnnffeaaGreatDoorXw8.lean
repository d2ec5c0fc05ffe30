/-
  Facts and contracts that the law's own text rests on, by their texts' names: Work, Var, Plain9.
-/
import Derived.Test.YtdbpbhemnnffeaaGreatDoorXw7
import Derived.BigQuiet
import Derived.Deep.QuietTactic
import Derived.Laws.IdiomStrings
import Derived.Outline
import Derived.OwnWalk
import Derived.WalkKit
import Derived.Test.YtdbpbhemnnffeaaGreatDoorXw1
import Derived.Test.YtdbpbhemnnffeaaGreatDoorProg
namespace Go.Proofs.YtdbpbhemnnffeaaGreatDoor
open Go.RowKit
structure Wk where
  ps : List ByteArray
  ls : List (Int × ByteArray)
  next : Int
  us : List Int
  gs : List Int
  fs : List Int
def Wk.bulk (k : Wk) : Nat := bulkS k.ps + bulkP k.ls + k.us.length + k.gs.length + k.fs.length
def Wk.fits (k : Wk) : Prop := k.ps.length ≤ maxLen ∧ (∀ s ∈ k.ps, s.size ≤ maxLen) ∧ k.ls.length ≤ maxLen ∧ (∀ p ∈ k.ls, p.2.size ≤ maxLen) ∧ k.us.length ≤ maxLen ∧ k.gs.length ≤ maxLen ∧ k.fs.length ≤ maxLen
def Wk.small (k : Wk) : Prop := k.ps.length ≤ 1048576 ∧ (∀ s ∈ k.ps, s.size ≤ 1048576) ∧ k.ls.length ≤ 1048576 ∧ (∀ p ∈ k.ls, p.2.size ≤ 1048576) ∧ k.us.length ≤ 2000000 ∧ k.gs.length ≤ 2000000 ∧ k.fs.length ≤ 2000000
def WorkAt (w : World) (v : Value) (k : Wk) : Prop :=
  ∃ vp vl vu vg vf, v = .agg #[vp, vl, .int .i64 k.next, vu, vg, vf] ∧ DiskAt w (.agg #[vp, vl]) k.ps k.ls ∧ RowAt w 1 vu k.us.length (ints k.us) ∧ RowAt w 1 vg k.gs.length (ints k.gs) ∧ RowAt w 1 vf k.fs.length (ints k.fs) ∧ ∃ a cap, vu = .slice a k.us.length cap ∧ k.us.length ≤ cap
def WorkOwn (w : World) (B : Nat) (v : Value) (k : Wk) : Prop :=
  ∃ vp vl vu vg vf, v = .agg #[vp, vl, .int .i64 k.next, vu, vg, vf] ∧ DiskOwn w B (.agg #[vp, vl]) k.ps k.ls ∧ IntOwn w B vu k.us ∧ IntOwn w B vg k.gs ∧ IntOwn w B vf k.fs ∧
    (∀ j, vu.ownBlock = some j → vg.ownBlock ≠ some j) ∧ (∀ j, vu.ownBlock = some j → vf.ownBlock ≠ some j) ∧ (∀ j, vg.ownBlock = some j → vf.ownBlock ≠ some j)
def workBlocks (v : Value) (j : Nat) : Prop := ∃ vp vl n vu vg vf, v = .agg #[vp, vl, n, vu, vg, vf] ∧ (diskBlocks (.agg #[vp, vl]) j ∨ vu.ownBlock = some j ∨ vg.ownBlock = some j ∨ vf.ownBlock = some j)
theorem agg6 {a b c d e f a' b' c' d' e' f' : Value} (h : Value.agg #[a, b, c, d, e, f] = .agg #[a', b', c', d', e', f']) : a = a' ∧ b = b' ∧ c = c' ∧ d = d' ∧ e = e' ∧ f = f' := by
  injection h with h
  have := congrArg Array.toList h
  simp at this
  exact this
theorem work_of_own {w : World} {B : Nat} {v : Value} {k : Wk} (h : WorkOwn w B v k) : WorkAt w v k := by
  obtain ⟨vp, vl, vu, vg, vf, e, h1, h2, h3, h4, -⟩ := h
  exact ⟨vp, vl, vu, vg, vf, e, disk_of_own h1, intOwn_row h2, intOwn_row h3, intOwn_row h4, intOwn_cap h2⟩
theorem work_below {w w' : World} {v : Value} {k : Wk} (h : WorkAt w v k) (hb : Below w.heap.size w w') : WorkAt w' v k := by
  obtain ⟨vp, vl, vu, vg, vf, e, h1, h2, h3, h4, h5⟩ := h
  exact ⟨vp, vl, vu, vg, vf, e, disk_below h1 hb, row_below h2 hb, row_below h3 hb, row_below h4 hb, h5⟩
theorem workOwn_lt {w : World} {B : Nat} {v : Value} {k : Wk} (h : WorkOwn w B v k) : ∀ j, workBlocks v j → B ≤ j ∧ j < w.heap.size := by
  obtain ⟨vp, vl, vu, vg, vf, rfl, h1, h2, h3, h4, -⟩ := h
  rintro j ⟨vp', vl', n', vu', vg', vf', e, hj⟩
  obtain ⟨rfl, rfl, -, rfl, rfl, rfl⟩ := agg6 e
  rcases hj with hj | hj | hj | hj
  · exact diskOwn_lt h1 j hj
  · exact intOwn_lt h2 j hj
  · exact intOwn_lt h3 j hj
  · exact intOwn_lt h4 j hj
theorem workOwn_down {w : World} {B B' : Nat} {v : Value} {k : Wk} (h : WorkOwn w B v k) (hB : B' ≤ B) : WorkOwn w B' v k := by
  obtain ⟨vp, vl, vu, vg, vf, e, ⟨vp', vl', e1, d1, d2⟩, h2, h3, h4, h5⟩ := h
  exact ⟨vp, vl, vu, vg, vf, e, ⟨vp', vl', e1, own_down d1 hB, own_down d2 hB⟩, intOwn_down h2 hB, intOwn_down h3 hB, intOwn_down h4 hB, h5⟩
theorem bulk_inW {ps : List ByteArray} {ls : List (Int × ByteArray)} (h : bulkS ps + bulkP ls ≤ 1048576) : ps.length ≤ 1048576 ∧ (∀ s ∈ ps, s.size ≤ 1048576) ∧ ls.length ≤ 1048576 ∧ ∀ p ∈ ls, p.2.size ≤ 1048576 := by
  rw [bulkS_eq] at h
  unfold bulkP at h
  refine ⟨by omega, fun s hs => ?_, by omega, fun p hp => ?_⟩
  · obtain ⟨i, hi, rfl⟩ := List.getElem_of_mem hs
    have h1 := sumS_succ ps i hi
    have h2 := sumS_mono ps (i + 1)
    omega
  · obtain ⟨i, hi, rfl⟩ := List.getElem_of_mem hp
    have h1 := sumP_succ ls i hi
    have h2 := sumP_mono ls (i + 1)
    omega
theorem bulkW_in {k : Wk} (h : k.bulk ≤ 1048576) : k.small := by
  unfold Wk.bulk at h
  obtain ⟨h1, h2, h3, h4⟩ := bulk_inW (ps := k.ps) (ls := k.ls) (by omega)
  exact ⟨h1, h2, h3, h4, by omega, by omega, by omega⟩
theorem work_form {w : World} {B : Nat} {v : Value} {k : Wk} (h : WorkOwn w B v k) : ∃ a1 c1 a2 c2 a3 c3 a4 c4 a5 c5, v = .agg #[.slice a1 k.ps.length c1, .slice a2 k.ls.length c2, .int .i64 k.next, .slice a3 k.us.length c3, .slice a4 k.gs.length c4, .slice a5 k.fs.length c5] := by
  obtain ⟨vp, vl, vu, vg, vf, rfl, h1, h2, h3, h4, -⟩ := h
  obtain ⟨a1, c1, a2, c2, e⟩ := disk_form h1
  injection e with e
  injection e with e
  injection e with e1 e
  injection e with e2
  subst e1 e2
  obtain ⟨a3, c3, rfl⟩ := intOwn_slice h2
  obtain ⟨a4, c4, rfl⟩ := intOwn_slice h3
  obtain ⟨a5, c5, rfl⟩ := intOwn_slice h4
  exact ⟨_, _, _, _, _, _, _, _, _, _, rfl⟩
set_option maxHeartbeats 4000000 in
set_option maxRecDepth 100000 in
theorem szWork_any (v : Value) (k : Wk) (hk : k.fits) (left : Nat) (hleft : left ≤ 1048576) (w : World) (hd : WorkAt w v k) :
    Calls Tryz.prog 59 #[v, .int .i64 (left : Int)] w fun e w' => e = .returned (.int .i64 (szOut left k.bulk)) ∧ Below w.heap.size w w' := by
  obtain ⟨f1, f2, f3, f4, f5, f6, f7⟩ := hk
  obtain ⟨vp, vl, vu, vg, vf, rfl, h1, h2, h3, h4, -⟩ := hd
  obtain ⟨ua, uc, rfl⟩ : ∃ a cap, vu = .slice a k.us.length cap := by obtain ⟨-, a, cap, e, -⟩ := h2; exact ⟨a, cap, e⟩
  obtain ⟨ga, gc, rfl⟩ : ∃ a cap, vg = .slice a k.gs.length cap := by obtain ⟨-, a, cap, e, -⟩ := h3; exact ⟨a, cap, e⟩
  obtain ⟨fa, fc, rfl⟩ : ∃ a cap, vf = .slice a k.fs.length cap := by obtain ⟨-, a, cap, e, -⟩ := h4; exact ⟨a, cap, e⟩
  obtain ⟨w0, hw0⟩ : ∃ w0, w0 = w.alloc (Obj.cells #[vp, vl, .int .i64 k.next, .slice ua k.us.length uc, .slice ga k.gs.length gc, .slice fa k.fs.length fc] 32) := ⟨_, rfl⟩
  have hb0 : Below w.heap.size w w0 := by rw [hw0]; exact (Below.refl w.heap.size w).alloc (Nat.le_refl _) _
  have hblk : w0.heap[w.heap.size]? = some (Obj.cells #[vp, vl, .int .i64 k.next, .slice ua k.us.length uc, .slice ga k.gs.length gc, .slice fa k.fs.length fc] 32) := by rw [hw0]; exact heap_alloc_new w _
  have HPb : Hid (∀ wx, Below w0.heap.size w0 wx → wx.cell? ⟨w.heap.size, 3, none⟩ = some (.slice ua k.us.length uc) ∧ wx.cell? ⟨w.heap.size, 4, none⟩ = some (.slice ga k.gs.length gc) ∧ wx.cell? ⟨w.heap.size, 5, none⟩ = some (.slice fa k.fs.length fc)) := hide (fun wx hb => by
    have hq := (hb.block _ (Array.getElem?_eq_some_iff.1 hblk).1).trans hblk
    exact ⟨(cell_at hq 3).1, (cell_at hq 4).1, (cell_at hq 5).1⟩)
  have HC1 := hide (szDisk_any (.agg #[vp, vl]) k.ps k.ls f1 f2 f3 f4 left hleft w0 (disk_below h1 hb0))
  have HB := hide hb0
  obtain ⟨n1, hn1⟩ : ∃ n, n = k.us.length := ⟨_, rfl⟩
  obtain ⟨n2, hn2⟩ : ∃ n, n = k.gs.length := ⟨_, rfl⟩
  obtain ⟨n3, hn3⟩ : ∃ n, n = k.fs.length := ⟨_, rfl⟩
  obtain ⟨nx, hnx⟩ : ∃ n, n = k.next := ⟨_, rfl⟩
  obtain ⟨b0, hbb⟩ : ∃ b, b = bulkS k.ps + bulkP k.ls := ⟨_, rfl⟩
  have hbulk : k.bulk = b0 + n1 + n2 + n3 := by unfold Wk.bulk; omega
  rw [hbulk]
  rw [← hn1, ← hn2, ← hn3] at HPb
  rw [← hn1, ← hn2, ← hn3, ← hnx] at hw0 ⊢
  rw [← hbb] at HC1
  rw [← hn1] at f5
  rw [← hn2] at f6
  rw [← hn3] at f7
  clear f1 f2 f3 f4 h1 h2 h3 h4 hb0 hblk hbulk hn1 hn2 hn3 hnx hbb
  have d5 := hide (szIntS_any ua n1 uc f5)
  have d6 := hide (szIntS_any ga n2 gc f6)
  have d7 := hide (szIntS_any fa n3 fc f7)
  clear f5 f6 f7
  by_cases q1 : b0 ≤ left
  · obtain ⟨m1, hm1⟩ : ∃ m, m = left - b0 := ⟨_, rfl⟩
    have hml1 : m1 ≤ 1048576 := by omega
    rw [szOut_yes q1, ← hm1] at HC1
    have HC2 := hide (fun wx => d5.out m1 hml1 wx)
    by_cases q2 : n1 ≤ m1
    · obtain ⟨m2, hm2⟩ : ∃ m, m = m1 - n1 := ⟨_, rfl⟩
      have hml2 : m2 ≤ 1048576 := by omega
      rw [szOut_yes q2, ← hm2] at HC2
      have HC3 := hide (fun wx => d6.out m2 hml2 wx)
      by_cases q3 : n2 ≤ m2
      · obtain ⟨m3, hm3⟩ : ∃ m, m = m2 - n2 := ⟨_, rfl⟩
        have hml3 : m3 ≤ 1048576 := by omega
        rw [szOut_yes q3, ← hm3] at HC3
        have HC4 := hide (fun wx => d7.out m3 hml3 wx)
        by_cases q4 : n3 ≤ m3
        · obtain ⟨m4, hm4⟩ : ∃ m, m = m3 - n3 := ⟨_, rfl⟩
          have hml4 : m4 ≤ 1048576 := by omega
          rw [szOut_yes q4, ← hm4] at HC4
          have HO : Hid (szOut left (b0 + n1 + n2 + n3) = (m4 : Int)) := hide (by rw [szOut_yes (by omega)]; congr 1; omega)
          clear q1 q2 q3 q4 hm1 hm2 hm3 hm4
          go_enter Tryz.func59, Tryz.ntmps59
          go_wp2_with fail
          rw [← hw0]
          clear hw0
          refine HC1.out.mono ?_
          rintro e w1 ⟨rfl, hb1⟩
          obtain ⟨p3, p4, p5⟩ := HPb.out w1 hb1
          have HB1 : Hid (Below w.heap.size w w1) := hide (HB.out.trans (hb1.mono HB.out.size))
          clear hb1
          go_wp2_with fail
          refine (HC2.out _).mono ?_
          rintro e w2 ⟨rfl, rfl⟩
          go_wp2_with fail
          refine (HC3.out _).mono ?_
          rintro e w2 ⟨rfl, rfl⟩
          go_wp2_with fail
          refine (HC4.out _).mono ?_
          rintro e w2 ⟨rfl, rfl⟩
          go_wp2_with fail
          go_ret
          rw [HO.out]
          exact ⟨rfl, HB1.out⟩
        · rw [szOut_no (by omega)] at HC4
          have HO : Hid (szOut left (b0 + n1 + n2 + n3) = -1) := hide (szOut_no (by omega))
          clear q1 q2 q3 q4 hm1 hm2 hm3
          go_enter Tryz.func59, Tryz.ntmps59
          go_wp2_with fail
          rw [← hw0]
          clear hw0
          refine HC1.out.mono ?_
          rintro e w1 ⟨rfl, hb1⟩
          obtain ⟨p3, p4, p5⟩ := HPb.out w1 hb1
          have HB1 : Hid (Below w.heap.size w w1) := hide (HB.out.trans (hb1.mono HB.out.size))
          clear hb1
          go_wp2_with fail
          refine (HC2.out _).mono ?_
          rintro e w2 ⟨rfl, rfl⟩
          go_wp2_with fail
          refine (HC3.out _).mono ?_
          rintro e w2 ⟨rfl, rfl⟩
          go_wp2_with fail
          refine (HC4.out _).mono ?_
          rintro e w2 ⟨rfl, rfl⟩
          go_wp2_with fail
          go_ret
          rw [HO.out]
          exact ⟨rfl, HB1.out⟩
      · rw [szOut_no (by omega)] at HC3
        have HO : Hid (szOut left (b0 + n1 + n2 + n3) = -1) := hide (szOut_no (by omega))
        clear q1 q2 q3 hm1 hm2
        go_enter Tryz.func59, Tryz.ntmps59
        go_wp2_with fail
        rw [← hw0]
        clear hw0
        refine HC1.out.mono ?_
        rintro e w1 ⟨rfl, hb1⟩
        obtain ⟨p3, p4, p5⟩ := HPb.out w1 hb1
        have HB1 : Hid (Below w.heap.size w w1) := hide (HB.out.trans (hb1.mono HB.out.size))
        clear hb1
        go_wp2_with fail
        refine (HC2.out _).mono ?_
        rintro e w2 ⟨rfl, rfl⟩
        go_wp2_with fail
        refine (HC3.out _).mono ?_
        rintro e w2 ⟨rfl, rfl⟩
        go_wp2_with fail
        go_ret
        rw [HO.out]
        exact ⟨rfl, HB1.out⟩
    · rw [szOut_no (by omega)] at HC2
      have HO : Hid (szOut left (b0 + n1 + n2 + n3) = -1) := hide (szOut_no (by omega))
      clear q1 q2 hm1
      go_enter Tryz.func59, Tryz.ntmps59
      go_wp2_with fail
      rw [← hw0]
      clear hw0
      refine HC1.out.mono ?_
      rintro e w1 ⟨rfl, hb1⟩
      obtain ⟨p3, p4, p5⟩ := HPb.out w1 hb1
      have HB1 : Hid (Below w.heap.size w w1) := hide (HB.out.trans (hb1.mono HB.out.size))
      clear hb1
      go_wp2_with fail
      refine (HC2.out _).mono ?_
      rintro e w2 ⟨rfl, rfl⟩
      go_wp2_with fail
      go_ret
      rw [HO.out]
      exact ⟨rfl, HB1.out⟩
  · rw [szOut_no (by omega)] at HC1
    have HO : Hid (szOut left (b0 + n1 + n2 + n3) = -1) := hide (szOut_no (by omega))
    clear q1 
    go_enter Tryz.func59, Tryz.ntmps59
    go_wp2_with fail
    rw [← hw0]
    clear hw0
    refine HC1.out.mono ?_
    rintro e w1 ⟨rfl, hb1⟩
    obtain ⟨p3, p4, p5⟩ := HPb.out w1 hb1
    have HB1 : Hid (Below w.heap.size w w1) := hide (HB.out.trans (hb1.mono HB.out.size))
    clear hb1
    go_wp2_with fail
    go_ret
    rw [HO.out]
    exact ⟨rfl, HB1.out⟩
theorem cells3 {w : World} {a0 a1 a2 : Nat} {o0 o1 o2 : Obj} (h : w.heap[a0]? = some o0 ∧ w.heap[a1]? = some o1 ∧ w.heap[a2]? = some o2) {w' : World} (hb : Below w.heap.size w w') : w'.heap[a0]? = some o0 ∧ w'.heap[a1]? = some o1 ∧ w'.heap[a2]? = some o2 :=
  ⟨(hb.block _ (Array.getElem?_eq_some_iff.1 h.1).1).trans h.1, (hb.block _ (Array.getElem?_eq_some_iff.1 h.2.1).1).trans h.2.1, (hb.block _ (Array.getElem?_eq_some_iff.1 h.2.2).1).trans h.2.2⟩
set_option maxHeartbeats 2000000 in
set_option maxRecDepth 100000 in
theorem toWork_any (v : Value) (k : Wk) (hk : k.bulk ≤ 1048576) (w : World) (hd : WorkAt w v k) :
    Calls Tryz.prog 64 #[v] w fun e w' => ∃ v', e = .returned v' ∧ WorkOwn w' w.heap.size v' k ∧ Below w.heap.size w w' := by
  obtain ⟨f1, -, f3, -, -, -, -⟩ := bulkW_in hk
  obtain ⟨f5, f6, f7⟩ : k.us.length ≤ 1048576 ∧ k.gs.length ≤ 1048576 ∧ k.fs.length ≤ 1048576 := by unfold Wk.bulk at hk; omega
  obtain ⟨vp, vl, vu, vg, vf, rfl, h1, h2, h3, h4, -⟩ := hd
  have HC1 := hide (fun wx h => toDisk_any (.agg #[vp, vl]) k.ps k.ls f1 f3 wx h)
  have HC2 := hide (fun wx h => toIntS_any k.us f5 vu wx h)
  have HC3 := hide (fun wx h => toIntS_any k.gs f6 vg wx h)
  have HC4 := hide (fun wx h => toIntS_any k.fs f7 vf wx h)
  have H1 := hide h1
  have H2 := hide h2
  have H3 := hide h3
  have H4 := hide h4
  obtain ⟨nx, hnx⟩ : ∃ n, n = k.next := ⟨_, rfl⟩
  rw [← hnx]
  have HNx := hide hnx
  clear h1 h2 h3 h4 f1 f3 f5 f6 f7 hnx hk
  obtain ⟨w0, hw0⟩ : ∃ w0, w0 = ((w.alloc (Obj.cells #[vp, vl, .int .i64 nx, vu, vg, vf] 32)).alloc (Obj.cells #[.slice none 0 0, .slice none 0 0, .int .i64 0, .slice none 0 0, .slice none 0 0, .slice none 0 0] 51)).alloc (Obj.cells #[.slice none 0 0, .slice none 0 0, .int .i64 0, .slice none 0 0, .slice none 0 0, .slice none 0 0] 51) := ⟨_, rfl⟩
  have hb0 : Below w.heap.size w w0 := by rw [hw0]; exact (((Below.refl w.heap.size w).alloc (Nat.le_refl _) _).alloc (by simp) _).alloc (by simp; omega) _
  obtain ⟨q0, q1, q2, hs0⟩ := three_allocs w (Obj.cells #[vp, vl, .int .i64 nx, vu, vg, vf] 32) (Obj.cells #[.slice none 0 0, .slice none 0 0, .int .i64 0, .slice none 0 0, .slice none 0 0, .slice none 0 0] 51) (Obj.cells #[.slice none 0 0, .slice none 0 0, .int .i64 0, .slice none 0 0, .slice none 0 0, .slice none 0 0] 51)
  rw [← hw0] at q0 q1 q2 hs0
  have HB0 := hide hb0
  go_enter Tryz.func64, Tryz.ntmps64
  go_wp2_with fail
  rw [← hw0]
  clear hw0 hb0
  obtain ⟨a0, ha0⟩ : ∃ a, a = w.heap.size := ⟨_, rfl⟩
  rw [← ha0] at q0 q1 q2 hs0 ⊢
  obtain ⟨a1, ha1⟩ : ∃ a, a = a0 + 1 := ⟨_, rfl⟩
  obtain ⟨a2, ha2⟩ : ∃ a, a = a0 + 1 + 1 := ⟨_, rfl⟩
  rw [← ha2, ← ha1]
  rw [← ha1] at q1
  rw [← ha2] at q2
  have HA := hide (⟨ha0, ha1, ha2, hs0⟩ : a0 = w.heap.size ∧ a1 = a0 + 1 ∧ a2 = a0 + 1 + 1 ∧ w0.heap.size = a0 + 3)
  have HN : Hid (a0 ≠ a2 ∧ a1 ≠ a2) := hide ⟨by omega, by omega⟩
  have HY0 := hide (⟨q0, q1, q2⟩ : _ ∧ _ ∧ _)
  have HS0 : Hid (a0 + 3 ≤ w0.heap.size) := hide (by omega)
  have HB0' := hide HB0.out
  clear ha0 ha1 ha2 hs0 q0 q1 q2
  refine (HC1.out _ (disk_below H1.out HB0.out)).mono ?_
  rintro e w1 ⟨u1, rfl, hown, hb⟩
  obtain ⟨x1, c1, y1a, d1, rfl⟩ := disk_form hown
  obtain ⟨np, hnp⟩ : ∃ n, n = k.ps.length := ⟨_, rfl⟩
  obtain ⟨nl, hnl⟩ : ∃ n, n = k.ls.length := ⟨_, rfl⟩
  rw [← hnp, ← hnl] at hown ⊢
  have HNp := hide (⟨hnp, hnl⟩ : _ ∧ _)
  clear hnp hnl
  obtain ⟨p, r, o⟩ := cells3 HY0.out hb
  have HZ1 : Hid (w0.heap.size ≤ w1.heap.size) := hide hb.size
  have o_1 := heap_setCell_same w1 a2 0 _ _ (.slice x1 np c1) o
  have o_2 := heap_setCell_same _ a2 1 _ _ (.slice y1a nl d1) o_1
  have o_3 := heap_setCell_same _ a2 2 _ _ (.int .i64 nx) o_2
  obtain ⟨y1, hy⟩ : ∃ y, y = ((w1.setCell ⟨a2, 0, none⟩ (.slice x1 np c1)).setCell ⟨a2, 1, none⟩ (.slice y1a nl d1)).setCell ⟨a2, 2, none⟩ (.int .i64 nx) := ⟨_, rfl⟩
  have o' : y1.heap[a2]? = some (Obj.cells #[.slice x1 np c1, .slice y1a nl d1, .int .i64 nx, .slice none 0 0, .slice none 0 0, .slice none 0 0] 51) := by rw [hy]; exact o_3
  have p' : y1.heap[a0]? = some (Obj.cells #[vp, vl, .int .i64 nx, vu, vg, vf] 32) := by rw [hy]; exact blk_other (blk_other (blk_other p HN.out.1) HN.out.1) HN.out.1
  have r' : y1.heap[a1]? = some (Obj.cells #[.slice none 0 0, .slice none 0 0, .int .i64 0, .slice none 0 0, .slice none 0 0, .slice none 0 0] 51) := by rw [hy]; exact blk_other (blk_other (blk_other r HN.out.2) HN.out.2) HN.out.2
  have HY1 := hide (⟨p', r', o'⟩ : _ ∧ _ ∧ _)
  have hk : Kept w1 y1 (fun k => k = a2) := by rw [hy]; exact kept_trans (kept_trans (kept_setCell _ _ _ _) (kept_setCell _ _ _ _) (fun j _ h => h)) (kept_setCell _ _ _ _) (fun j _ h => h)
  have HK1 := hide hk
  have HS1 : Hid (y1.heap.size = w1.heap.size) := hide (by rw [hy]; simp)
  have HB1 : Hid (Below w.heap.size w y1) := hide ((HB0.out.trans (hb.mono HB0.out.size)).trans (below_of_kept hk (by have := HB0.out.size; have := hb.size; omega) (fun k hk => by have := HA.out; omega)))
  have HQ1 := hide hb
  have HO1 := hide hown
  have e20 : w1.cell? ⟨a2, 0, none⟩ = some (.slice none 0 0) := (cell_at o 0).1
  have g20 := (cell_at o 0).2
  have e21 : w1.cell? ⟨a2, 1, none⟩ = some (.slice none 0 0) := (cell_at o 1).1
  have g21 := (cell_at o 1).2
  have e22 : w1.cell? ⟨a2, 2, none⟩ = some (.int .i64 0) := (cell_at o 2).1
  have g22 := (cell_at o 2).2
  have nextc : (((w1.setCell ⟨a2, 0, none⟩ (.slice x1 np c1)).setCell ⟨a2, 1, none⟩ (.slice y1a nl d1)).setCell ⟨a2, 2, none⟩ (.int .i64 nx)).cell? ⟨a0, 3, none⟩ = some vu := by rw [← hy]; exact (cell_at p' 3).1
  have ncx : w1.cell? ⟨a0, 2, none⟩ = some (.int .i64 nx) := (cell_at p 2).1
  clear hb hown p r o p' r' o' hk o_3 o_1 o_2
  go_wp2_with fail
  rw [← hy]
  clear hy e20 g20 e21 g21 e22 g22 nextc ncx
  refine (HC2.out _ (row_below H2.out HB1.out)).mono ?_
  rintro e w2 ⟨u2, rfl, hown, hb⟩
  replace hown := intOwn_of_own hown
  obtain ⟨x2, c2, rfl⟩ := intOwn_slice hown
  obtain ⟨nu, hnu⟩ : ∃ n, n = k.us.length := ⟨_, rfl⟩
  rw [← hnu] at hown ⊢
  have HX2 := hide hnu
  clear hnu
  obtain ⟨p, r, o⟩ := cells3 HY1.out hb
  have HZ2 : Hid (y1.heap.size ≤ w2.heap.size) := hide hb.size
  have o_3 := heap_setCell_same w2 a2 3 _ _ (.slice x2 nu c2) o
  obtain ⟨y2, hy⟩ : ∃ y, y = w2.setCell ⟨a2, 3, none⟩ (.slice x2 nu c2) := ⟨_, rfl⟩
  have o' : y2.heap[a2]? = some (Obj.cells #[.slice x1 np c1, .slice y1a nl d1, .int .i64 nx, .slice x2 nu c2, .slice none 0 0, .slice none 0 0] 51) := by rw [hy]; exact o_3
  have p' : y2.heap[a0]? = some (Obj.cells #[vp, vl, .int .i64 nx, vu, vg, vf] 32) := by rw [hy]; exact blk_other p HN.out.1
  have r' : y2.heap[a1]? = some (Obj.cells #[.slice none 0 0, .slice none 0 0, .int .i64 0, .slice none 0 0, .slice none 0 0, .slice none 0 0] 51) := by rw [hy]; exact blk_other r HN.out.2
  have HY2 := hide (⟨p', r', o'⟩ : _ ∧ _ ∧ _)
  have hk : Kept w2 y2 (fun k => k = a2) := by rw [hy]; exact kept_setCell _ _ _ _
  have HK2 := hide hk
  have HS2 : Hid (y2.heap.size = w2.heap.size) := hide (by rw [hy]; simp)
  have HB2 : Hid (Below w.heap.size w y2) := hide ((HB1.out.trans (hb.mono HB1.out.size)).trans (below_of_kept hk (by have := HB1.out.size; have := hb.size; omega) (fun k hk => by have := HA.out; omega)))
  have HQ2 := hide hb
  have HO2 := hide hown
  have e2 : w2.cell? ⟨a2, 3, none⟩ = some (.slice none 0 0) := (cell_at o 3).1
  have g2 := (cell_at o 3).2
  have nextc : (w2.setCell ⟨a2, 3, none⟩ (.slice x2 nu c2)).cell? ⟨a0, 4, none⟩ = some vg := by rw [← hy]; exact (cell_at p' 4).1
  clear hb hown p r o p' r' o' hk o_3
  go_wp2_with fail
  rw [← hy]
  clear hy e2 g2 nextc
  refine (HC3.out _ (row_below H3.out HB2.out)).mono ?_
  rintro e w3 ⟨u3, rfl, hown, hb⟩
  replace hown := intOwn_of_own hown
  obtain ⟨x3, c3, rfl⟩ := intOwn_slice hown
  obtain ⟨ng, hng⟩ : ∃ n, n = k.gs.length := ⟨_, rfl⟩
  rw [← hng] at hown ⊢
  have HX3 := hide hng
  clear hng
  obtain ⟨p, r, o⟩ := cells3 HY2.out hb
  have HZ3 : Hid (y2.heap.size ≤ w3.heap.size) := hide hb.size
  have o_3 := heap_setCell_same w3 a2 4 _ _ (.slice x3 ng c3) o
  obtain ⟨y3, hy⟩ : ∃ y, y = w3.setCell ⟨a2, 4, none⟩ (.slice x3 ng c3) := ⟨_, rfl⟩
  have o' : y3.heap[a2]? = some (Obj.cells #[.slice x1 np c1, .slice y1a nl d1, .int .i64 nx, .slice x2 nu c2, .slice x3 ng c3, .slice none 0 0] 51) := by rw [hy]; exact o_3
  have p' : y3.heap[a0]? = some (Obj.cells #[vp, vl, .int .i64 nx, vu, vg, vf] 32) := by rw [hy]; exact blk_other p HN.out.1
  have r' : y3.heap[a1]? = some (Obj.cells #[.slice none 0 0, .slice none 0 0, .int .i64 0, .slice none 0 0, .slice none 0 0, .slice none 0 0] 51) := by rw [hy]; exact blk_other r HN.out.2
  have HY3 := hide (⟨p', r', o'⟩ : _ ∧ _ ∧ _)
  have hk : Kept w3 y3 (fun k => k = a2) := by rw [hy]; exact kept_setCell _ _ _ _
  have HK3 := hide hk
  have HS3 : Hid (y3.heap.size = w3.heap.size) := hide (by rw [hy]; simp)
  have HB3 : Hid (Below w.heap.size w y3) := hide ((HB2.out.trans (hb.mono HB2.out.size)).trans (below_of_kept hk (by have := HB2.out.size; have := hb.size; omega) (fun k hk => by have := HA.out; omega)))
  have HQ3 := hide hb
  have HO3 := hide hown
  have e2 : w3.cell? ⟨a2, 4, none⟩ = some (.slice none 0 0) := (cell_at o 4).1
  have g2 := (cell_at o 4).2
  have nextc : (w3.setCell ⟨a2, 4, none⟩ (.slice x3 ng c3)).cell? ⟨a0, 5, none⟩ = some vf := by rw [← hy]; exact (cell_at p' 5).1
  clear hb hown p r o p' r' o' hk o_3
  go_wp2_with fail
  rw [← hy]
  clear hy e2 g2 nextc
  refine (HC4.out _ (row_below H4.out HB3.out)).mono ?_
  rintro e w4 ⟨u4, rfl, hown, hb⟩
  replace hown := intOwn_of_own hown
  obtain ⟨x4, c4, rfl⟩ := intOwn_slice hown
  obtain ⟨nf, hnf⟩ : ∃ n, n = k.fs.length := ⟨_, rfl⟩
  rw [← hnf] at hown ⊢
  have HX4 := hide hnf
  clear hnf
  obtain ⟨p, r, o⟩ := cells3 HY3.out hb
  have HZ4 : Hid (y3.heap.size ≤ w4.heap.size) := hide hb.size
  have o_3 := heap_setCell_same w4 a2 5 _ _ (.slice x4 nf c4) o
  obtain ⟨y4, hy⟩ : ∃ y, y = w4.setCell ⟨a2, 5, none⟩ (.slice x4 nf c4) := ⟨_, rfl⟩
  have o' : y4.heap[a2]? = some (Obj.cells #[.slice x1 np c1, .slice y1a nl d1, .int .i64 nx, .slice x2 nu c2, .slice x3 ng c3, .slice x4 nf c4] 51) := by rw [hy]; exact o_3
  have p' : y4.heap[a0]? = some (Obj.cells #[vp, vl, .int .i64 nx, vu, vg, vf] 32) := by rw [hy]; exact blk_other p HN.out.1
  have r' : y4.heap[a1]? = some (Obj.cells #[.slice none 0 0, .slice none 0 0, .int .i64 0, .slice none 0 0, .slice none 0 0, .slice none 0 0] 51) := by rw [hy]; exact blk_other r HN.out.2
  have HY4 := hide (⟨p', r', o'⟩ : _ ∧ _ ∧ _)
  have hk : Kept w4 y4 (fun k => k = a2) := by rw [hy]; exact kept_setCell _ _ _ _
  have HK4 := hide hk
  have HS4 : Hid (y4.heap.size = w4.heap.size) := hide (by rw [hy]; simp)
  have HB4 : Hid (Below w.heap.size w y4) := hide ((HB3.out.trans (hb.mono HB3.out.size)).trans (below_of_kept hk (by have := HB3.out.size; have := hb.size; omega) (fun k hk => by have := HA.out; omega)))
  have HQ4 := hide hb
  have HO4 := hide hown
  have e2 : w4.cell? ⟨a2, 5, none⟩ = some (.slice none 0 0) := (cell_at o 5).1
  have g2 := (cell_at o 5).2
  have dd0 : (w4.setCell ⟨a2, 5, none⟩ (.slice x4 nf c4)).cell? ⟨a2, 0, none⟩ = some (.slice x1 np c1) := by rw [← hy]; exact (cell_at o' 0).1
  have e0 : (w4.setCell ⟨a2, 5, none⟩ (.slice x4 nf c4)).cell? ⟨a1, 0, none⟩ = some (.slice none 0 0) := by rw [← hy]; exact (cell_at r' 0).1
  have g0 : (w4.setCell ⟨a2, 5, none⟩ (.slice x4 nf c4)).frozen? ⟨a1, 0, none⟩ = false := by rw [← hy]; exact (cell_at r' 0).2
  have dd1 : (w4.setCell ⟨a2, 5, none⟩ (.slice x4 nf c4)).cell? ⟨a2, 1, none⟩ = some (.slice y1a nl d1) := by rw [← hy]; exact (cell_at o' 1).1
  have e1 : (w4.setCell ⟨a2, 5, none⟩ (.slice x4 nf c4)).cell? ⟨a1, 1, none⟩ = some (.slice none 0 0) := by rw [← hy]; exact (cell_at r' 1).1
  have g1 : (w4.setCell ⟨a2, 5, none⟩ (.slice x4 nf c4)).frozen? ⟨a1, 1, none⟩ = false := by rw [← hy]; exact (cell_at r' 1).2
  have dd2 : (w4.setCell ⟨a2, 5, none⟩ (.slice x4 nf c4)).cell? ⟨a2, 2, none⟩ = some (.int .i64 nx) := by rw [← hy]; exact (cell_at o' 2).1
  have e2 : (w4.setCell ⟨a2, 5, none⟩ (.slice x4 nf c4)).cell? ⟨a1, 2, none⟩ = some (.int .i64 0) := by rw [← hy]; exact (cell_at r' 2).1
  have g2 : (w4.setCell ⟨a2, 5, none⟩ (.slice x4 nf c4)).frozen? ⟨a1, 2, none⟩ = false := by rw [← hy]; exact (cell_at r' 2).2
  have dd3 : (w4.setCell ⟨a2, 5, none⟩ (.slice x4 nf c4)).cell? ⟨a2, 3, none⟩ = some (.slice x2 nu c2) := by rw [← hy]; exact (cell_at o' 3).1
  have e3 : (w4.setCell ⟨a2, 5, none⟩ (.slice x4 nf c4)).cell? ⟨a1, 3, none⟩ = some (.slice none 0 0) := by rw [← hy]; exact (cell_at r' 3).1
  have g3 : (w4.setCell ⟨a2, 5, none⟩ (.slice x4 nf c4)).frozen? ⟨a1, 3, none⟩ = false := by rw [← hy]; exact (cell_at r' 3).2
  have dd4 : (w4.setCell ⟨a2, 5, none⟩ (.slice x4 nf c4)).cell? ⟨a2, 4, none⟩ = some (.slice x3 ng c3) := by rw [← hy]; exact (cell_at o' 4).1
  have e4 : (w4.setCell ⟨a2, 5, none⟩ (.slice x4 nf c4)).cell? ⟨a1, 4, none⟩ = some (.slice none 0 0) := by rw [← hy]; exact (cell_at r' 4).1
  have g4 : (w4.setCell ⟨a2, 5, none⟩ (.slice x4 nf c4)).frozen? ⟨a1, 4, none⟩ = false := by rw [← hy]; exact (cell_at r' 4).2
  have dd5 : (w4.setCell ⟨a2, 5, none⟩ (.slice x4 nf c4)).cell? ⟨a2, 5, none⟩ = some (.slice x4 nf c4) := by rw [← hy]; exact (cell_at o' 5).1
  have e5 : (w4.setCell ⟨a2, 5, none⟩ (.slice x4 nf c4)).cell? ⟨a1, 5, none⟩ = some (.slice none 0 0) := by rw [← hy]; exact (cell_at r' 5).1
  have g5 : (w4.setCell ⟨a2, 5, none⟩ (.slice x4 nf c4)).frozen? ⟨a1, 5, none⟩ = false := by rw [← hy]; exact (cell_at r' 5).2
  have HR4 := hide r'
  have HYy := hide hy
  clear hb hown p r o p' r' o' hk o_3 hy
  go_wp2_with fail
  rw [← HYy.out]
  obtain ⟨yz, hyz⟩ : ∃ y, y = ((((((y4.setCell ⟨a1, 0, none⟩ (.slice x1 np c1)).setCell ⟨a1, 1, none⟩ (.slice y1a nl d1)).setCell ⟨a1, 2, none⟩ (.int .i64 nx)).setCell ⟨a1, 3, none⟩ (.slice x2 nu c2)).setCell ⟨a1, 4, none⟩ (.slice x3 ng c3)).setCell ⟨a1, 5, none⟩ (.slice x4 nf c4)) := ⟨_, rfl⟩
  rw [← hyz]
  have z : yz.heap[a1]? = some (Obj.cells #[.slice x1 np c1, .slice y1a nl d1, .int .i64 nx, .slice x2 nu c2, .slice x3 ng c3, .slice x4 nf c4] 51) := by rw [hyz]; exact (heap_setCell_same _ a1 5 _ _ _ (heap_setCell_same _ a1 4 _ _ _ (heap_setCell_same _ a1 3 _ _ _ (heap_setCell_same _ a1 2 _ _ _ (heap_setCell_same _ a1 1 _ _ _ (heap_setCell_same _ a1 0 _ _ _ HR4.out))))))
  have kz : Kept y4 yz (fun k => k = a1) := by rw [hyz]; exact kept_trans (kept_trans (kept_trans (kept_trans (kept_trans (kept_setCell _ _ _ _) (kept_setCell _ _ _ _) (fun j _ h => h)) (kept_setCell _ _ _ _) (fun j _ h => h)) (kept_setCell _ _ _ _) (fun j _ h => h)) (kept_setCell _ _ _ _) (fun j _ h => h)) (kept_setCell _ _ _ _) (fun j _ h => h)
  have hA := HA.out
  have s1 := HZ1.out
  have s2 := HZ2.out
  have s3 := HZ3.out
  have s4 := HZ4.out
  have t1 := HS1.out
  have t2 := HS2.out
  have t3 := HS3.out
  have t4 := HS4.out
  have lt1 := diskOwn_lt HO1.out
  have lt2 := intOwn_lt HO2.out
  have lt3 := intOwn_lt HO3.out
  have lt4 := intOwn_lt HO4.out
  have K1 : ∀ {S T : World}, Kept S T (fun k => k = a2) → Kept S T (fun k => k = a1 ∨ k = a2) := fun h => kept_mono h (fun j _ e => Or.inr e)
  have kz2 : Kept y4 yz (fun k => k = a1 ∨ k = a2) := kept_mono kz (fun j _ e => Or.inl e)
  have k4 : Kept w4 yz (fun k => k = a1 ∨ k = a2) := kept_trans (K1 HK4.out) kz2 (fun j _ h => h)
  have k3 : Kept w3 yz (fun k => k = a1 ∨ k = a2) := kept_trans (kept_trans (K1 HK3.out) (kept_of_all HQ4.out (fun _ => False)) (fun j _ h => h.elim)) k4 (fun j _ h => h)
  have k2 : Kept w2 yz (fun k => k = a1 ∨ k = a2) := kept_trans (kept_trans (K1 HK2.out) (kept_of_all HQ3.out (fun _ => False)) (fun j _ h => h.elim)) k3 (fun j _ h => h)
  have k1 : Kept w1 yz (fun k => k = a1 ∨ k = a2) := kept_trans (kept_trans (K1 HK1.out) (kept_of_all HQ2.out (fun _ => False)) (fun j _ h => h.elim)) k2 (fun j _ h => h)
  have z0 := (cell_at z 0).1
  have z1 := (cell_at z 1).1
  have z2 := (cell_at z 2).1
  have z3 := (cell_at z 3).1
  have z4 := (cell_at z 4).1
  have z5 := (cell_at z 5).1
  refine bodyPost_ret (v := .agg #[.slice x1 np c1, .slice y1a nl d1, .int .i64 nx, .slice x2 nu c2, .slice x3 ng c3, .slice x4 nf c4]) (by simp [results, Tryz.results64, go_sem, z0, z1, z2, z3, z4, z5]) rfl ⟨_, rfl, ⟨_, _, _, _, _, by rw [HNx.out], ?_, ?_, ?_, ?_, ?_, ?_, ?_⟩, ?_⟩
  · have h := diskOwn_kept HO1.out k1 (fun k hk => by have := lt1 k hk; omega)
    obtain ⟨vp', vl', e, d1', d2'⟩ := h
    exact ⟨vp', vl', e, own_down d1' (by omega), own_down d2' (by omega)⟩
  · exact intOwn_down (intOwn_kept HO2.out k2 (fun k hk => by have := lt2 k hk; omega)) (by omega)
  · exact intOwn_down (intOwn_kept HO3.out k3 (fun k hk => by have := lt3 k hk; omega)) (by omega)
  · exact intOwn_down (intOwn_kept HO4.out k4 (fun k hk => by have := lt4 k hk; omega)) (by omega)
  · intro j e1 e2; have := lt2 j e1; have := lt3 j e2; omega
  · intro j e1 e2; have := lt2 j e1; have := lt4 j e2; omega
  · intro j e1 e2; have := lt3 j e1; have := lt4 j e2; omega
  · exact HB4.out.trans (below_of_kept kz2 (by have := HB4.out.size; omega) (fun k hk => by omega))
set_option maxHeartbeats 1000000 in
set_option maxRecDepth 100000 in
theorem eqWork_same (v u : Value) (k : Wk) (hk : k.small) (w : World) (hd : WorkAt w v k) (hu : WorkAt w u k) :
    Calls Tryz.prog 70 #[v, u] w fun e w' => e = .returned (.bool true) ∧ Below w.heap.size w w' := by
  obtain ⟨f1, -, f3, -, f5, f6, f7⟩ := hk
  obtain ⟨vp, vl, vu, vg, vf, rfl, h1, h2, h3, h4, -⟩ := hd
  obtain ⟨up, ul, uu, ug, uf, rfl, g1, g2, g3, g4, -⟩ := hu
  have HC1 := hide (fun wx h h' => eqDisk_any (.agg #[vp, vl]) (.agg #[up, ul]) k.ps k.ps k.ls k.ls (by omega) (by omega) (by omega) (by omega) wx h h')
  have HC2 := hide (fun wx h h' => eqIntS_row k.us k.us (by omega) (by omega) vu uu wx h h')
  have HC3 := hide (fun wx h h' => eqIntS_row k.gs k.gs (by omega) (by omega) vg ug wx h h')
  have HC4 := hide (fun wx h h' => eqIntS_row k.fs k.fs (by omega) (by omega) vf uf wx h h')
  rw [decide_eq_true rfl] at HC1 HC2 HC3 HC4
  have H1 := hide (⟨h1, g1⟩ : _ ∧ _)
  have H2 := hide (⟨h2, g2⟩ : _ ∧ _)
  have H3 := hide (⟨h3, g3⟩ : _ ∧ _)
  have H4 := hide (⟨h4, g4⟩ : _ ∧ _)
  obtain ⟨nx, hnx⟩ : ∃ n, n = k.next := ⟨_, rfl⟩
  rw [← hnx]
  clear h1 h2 h3 h4 g1 g2 g3 g4 f1 f3 f5 f6 f7 hnx
  obtain ⟨w0, hw0⟩ : ∃ w0, w0 = (w.alloc (Obj.cells #[vp, vl, .int .i64 nx, vu, vg, vf] 51)).alloc (Obj.cells #[up, ul, .int .i64 nx, uu, ug, uf] 51) := ⟨_, rfl⟩
  have hb0 : Below w.heap.size w w0 := by rw [hw0]; exact ((Below.refl w.heap.size w).alloc (Nat.le_refl _) _).alloc (by simp) _
  obtain ⟨q0, q1, hs0⟩ := two_allocs w (Obj.cells #[vp, vl, .int .i64 nx, vu, vg, vf] 51) (Obj.cells #[up, ul, .int .i64 nx, uu, ug, uf] 51)
  rw [← hw0] at q0 q1 hs0
  have HPb : Hid (∀ wx, Below w0.heap.size w0 wx → (wx.cell? ⟨w.heap.size, 2, none⟩ = some (.int .i64 nx) ∧ wx.cell? ⟨w.heap.size, 3, none⟩ = some vu ∧ wx.cell? ⟨w.heap.size, 4, none⟩ = some vg ∧ wx.cell? ⟨w.heap.size, 5, none⟩ = some vf) ∧ wx.cell? ⟨w.heap.size + 1, 2, none⟩ = some (.int .i64 nx) ∧ wx.cell? ⟨w.heap.size + 1, 3, none⟩ = some uu ∧ wx.cell? ⟨w.heap.size + 1, 4, none⟩ = some ug ∧ wx.cell? ⟨w.heap.size + 1, 5, none⟩ = some uf) := hide (fun wx hb => by
    have h1 := (hb.block _ (Array.getElem?_eq_some_iff.1 q0).1).trans q0
    have h2 := (hb.block _ (Array.getElem?_eq_some_iff.1 q1).1).trans q1
    exact ⟨⟨(cell_at h1 2).1, (cell_at h1 3).1, (cell_at h1 4).1, (cell_at h1 5).1⟩, (cell_at h2 2).1, (cell_at h2 3).1, (cell_at h2 4).1, (cell_at h2 5).1⟩)
  have HB0 := hide hb0
  clear hb0 q0 q1 hs0
  go_enter Tryz.func70, Tryz.ntmps70
  go_wp2_with fail
  rw [← hw0]
  clear hw0
  refine (HC1.out _ (disk_below H1.out.1 HB0.out) (disk_below H1.out.2 HB0.out)).mono ?_
  rintro e w1 ⟨rfl, hb⟩
  have HX1 := hide hb
  have HB1 : Hid (Below w.heap.size w w1) := hide (HB0.out.trans (hb.mono HB0.out.size))
  obtain ⟨⟨p2, p3, p4, p5⟩, r2, r3, r4, r5⟩ := HPb.out w1 hb
  clear hb
  go_wp2_with fail
  clear p2 p3 p4 p5 r2 r3 r4 r5
  refine (HC2.out _ (row_below H2.out.1 HB1.out) (row_below H2.out.2 HB1.out)).mono ?_
  rintro e w2 ⟨rfl, hb⟩
  have HX2 : Hid (Below w0.heap.size w0 w2) := hide (HX1.out.trans (hb.mono HX1.out.size))
  have HB2 : Hid (Below w.heap.size w w2) := hide (HB1.out.trans (hb.mono HB1.out.size))
  obtain ⟨⟨p2, p3, p4, p5⟩, r2, r3, r4, r5⟩ := HPb.out w2 HX2.out
  clear hb
  go_wp2_with fail
  clear p2 p3 p4 p5 r2 r3 r4 r5
  refine (HC3.out _ (row_below H3.out.1 HB2.out) (row_below H3.out.2 HB2.out)).mono ?_
  rintro e w3 ⟨rfl, hb⟩
  have HX3 : Hid (Below w0.heap.size w0 w3) := hide (HX2.out.trans (hb.mono HX2.out.size))
  have HB3 : Hid (Below w.heap.size w w3) := hide (HB2.out.trans (hb.mono HB2.out.size))
  obtain ⟨⟨p2, p3, p4, p5⟩, r2, r3, r4, r5⟩ := HPb.out w3 HX3.out
  clear hb
  go_wp2_with fail
  clear p2 p3 p4 p5 r2 r3 r4 r5
  refine (HC4.out _ (row_below H4.out.1 HB3.out) (row_below H4.out.2 HB3.out)).mono ?_
  rintro e w4 ⟨rfl, hb⟩
  have HX4 : Hid (Below w0.heap.size w0 w4) := hide (HX3.out.trans (hb.mono HX3.out.size))
  have HB4 : Hid (Below w.heap.size w w4) := hide (HB3.out.trans (hb.mono HB3.out.size))
  obtain ⟨⟨p2, p3, p4, p5⟩, r2, r3, r4, r5⟩ := HPb.out w4 HX4.out
  clear hb
  go_wp2_with fail
  clear p2 p3 p4 p5 r2 r3 r4 r5
  go_ret
  exact ⟨rfl, HB4.out⟩
open Go.RowKit
theorem Tryz.infoU8 : (Tryz.prog.info? 5).map (fun i => (i.zero, i.size, i.bytes)) = some (some (.int .u8 0), 1, 1) := by kernel_rfl
theorem below_app {B : Nat} {w wr w1 : World} {v : Value} {n : Nat} {xs : List Value} {o : Obj} (hB : B ≤ wr.heap.size) (hb : Below B w wr) (hown : wr.ownsRow B 5 1 v n xs) (hg : (wr.alloc o).grownBy w1 v.ownBlock) : Below B w w1 :=
  (hb.alloc hB o).grown hg (by simp; omega) (fun k hk => (hown.lt k hk).1)
theorem one_cell (w : World) (x : Value) : ∀ (j : Nat) (u : Value), [x][j]? = some u → (w.alloc (Obj.cells #[x] 5)).cell? ((⟨w.heap.size, 0, none⟩ : Addr).add j) = some u := by
  intro j u hj
  match j, hj with
  | 0, hj => simp at hj; subst hj; simp [Addr.add]
theorem string_of_row {P : Program} {w : World} {B src dst e : TypeId} {v : Value} {l : List UInt8} (hs : P.underlying src = some (.slice e)) (he : P.underlying e = some (.int .u8)) (hd : P.underlying dst = some .string)
    (hown : w.ownsRow B e 1 v l.length (Lib.byteCells l)) (hpos : 0 < l.length) :
    ∃ g cap, v = .slice (some ⟨g, 0, none⟩) l.length cap ∧ (convert src dst (.slice (some ⟨g, 0, none⟩) l.length cap)).run P w = .ok (.string ⟨l.toArray⟩) w := by
  rcases hown.2 with ⟨-, h0⟩ | ⟨g, cap, cur, rfl, -, -, -, -, -, -⟩
  · omega
  · exact ⟨g, cap, rfl, run_convert_bytes_back (P := P) w src dst e ⟨g, 0, none⟩ cap l hs he hd (fun j hj => hown.cells (g := g) rfl j _ (by simp [Lib.byteCells, hj]))⟩
set_option maxHeartbeats 1000000 in
set_option maxRecDepth 100000 in
theorem l01Var_any (n : Int) (h0 : 0 ≤ n) (h1 : n ≤ 1000000000) (w : World) :
    Calls Tryz.prog 106 #[.int .i64 n] w fun e w' => e = .returned (.string ⟨(vtext n.toNat).toArray⟩) ∧ Below w.heap.size w w' := by
  obtain ⟨k, rfl⟩ := Int.eq_ofNat_of_zero_le h0
  rw [Int.toNat_natCast]
  obtain ⟨i0, hi, hz0, hz1, hz2⟩ := info_parts Tryz.infoU8
  go_enter Tryz.func106, Tryz.ntmps106
  go_wp2
  go_loopw [0, 3] (fun nv v wr => ∃ (f m : Nat) (done : List UInt8), nv = .int .i64 m ∧ m < 128 ^ (f + 1) ∧ m ≤ 1000000000 ∧ done.length + f ≤ 4 ∧ done ++ venc f m = vtext k ∧ wr.ownsRow w.heap.size 5 1 v done.length (Lib.byteCells done) ∧ Below w.heap.size w wr)
    (fun nv _ _ => (intOf nv).toNat)
  case atStart => exact ⟨4, k, [], rfl, pow5 k (by omega), by omega, by simp, by simp [vtext], by simpa [Lib.byteCells] using World.ownsRow_lit (base := w.heap.size) (e := 5) (size := 1) w #[] 0 (Nat.le_refl _) (by unfold maxLen; omega) (by simp), (Below.refl _ _).alloc (Nat.le_refl _) _⟩
  case round =>
    obtain ⟨f, m, done, rfl, hf, hm, hl, hd, hown, hb⟩ := hrel
    have hB := hb.size
    by_cases hlt : 127 < m
    · obtain ⟨g, hg, hf', hv⟩ := venc_step f m (by omega) hf
      have HV := hide hv
      have HG := hide hg
      have HD := hide hd
      clear hv hg hd
      go_wp2_with (at_builtin; refine wpList_append_own _ rfl _ _ 186 rfl w.heap.size 5 i0 (.int .u8 0) 1 1 Tryz.underlying186 hi hz0 hz1 hz2 rfl (by decide) _ _ _ rfl (hown.alloc _) ⟨wr.heap.size, 0, none⟩ 1 1 [.int .u8 (m % 128 + 128)] rfl rfl ?c1 ?c2 ?c3 ?c4 ?c5 ?_)
      case c1 => exact one_cell _ _
      case c2 => intro u hu; simp at hu; subst hu; rfl
      case c3 => unfold maxLen; omega
      case c4 => omega
      case c5 => simp; omega
      intro v' w1 hown' hgrow _
      have hb1 := below_app hB hb hown hgrow
      have hown2 : w1.ownsRow w.heap.size 5 1 v' (done ++ [UInt8.ofNat (m % 128 + 128)]).length (Lib.byteCells (done ++ [UInt8.ofNat (m % 128 + 128)])) := by
        rw [← cells_snoc done (m % 128 + 128) (by omega), List.length_append]
        simpa using hown'
      clear hown' hgrow hown hb
      go_wp2
      go_roundw
      case rel => exact ⟨g, m / 128, done ++ [UInt8.ofNat (m % 128 + 128)], by go_num, hf', by omega, by have := HG.out; simp; omega, by rw [List.append_assoc, List.singleton_append, ← HV.out]; exact HD.out, hown2, hb1⟩
      case measure => simp [intOf]; omega
    · have hv := venc_last f m (by omega)
      rw [hv] at hd
      have HD := hide hd
      clear hv hd
      go_wp2_with (at_builtin; refine wpList_append_own _ rfl _ _ 186 rfl w.heap.size 5 i0 (.int .u8 0) 1 1 Tryz.underlying186 hi hz0 hz1 hz2 rfl (by decide) _ _ _ rfl (hown.alloc _) ⟨wr.heap.size, 0, none⟩ 1 1 [.int .u8 m] rfl rfl ?c1 ?c2 ?c3 ?c4 ?c5 ?_)
      case c1 => exact one_cell _ _
      case c2 => intro u hu; simp at hu; subst hu; rfl
      case c3 => unfold maxLen; omega
      case c4 => omega
      case c5 => simp; omega
      intro v' w1 hown' hgrow _
      have hb1 := below_app hB hb hown hgrow
      have hown2 : w1.ownsRow w.heap.size 5 1 v' (vtext k).length (Lib.byteCells (vtext k)) := by
        rw [← HD.out, ← cells_snoc done m (by omega), List.length_append]
        simpa using hown'
      clear hown' hgrow hown hb
      obtain ⟨gb, cp, hv', hcv⟩ := string_of_row (dst := 9) (src := 186) (e := 5) Tryz.underlying186 Tryz.underlying5 Tryz.underlying9 hown2 (by have := (vtext_length k).1; omega)
      rw [hv']
      clear hv' hown2
      go_wp2
      go_ret
      exact ⟨rfl, hb1⟩
set_option maxHeartbeats 400000 in
theorem l01In_yes (x a b : Int) (w : World) (h1 : a ≤ x) (h2 : x ≤ b) : Calls Tryz.prog 86 #[.int .i64 x, .int .i64 a, .int .i64 b] w fun e w' => e = .returned (.bool true) ∧ w = w' := by
  go_enter Tryz.func86, Tryz.ntmps86
  go_wp2
  go_ret
  exact ⟨rfl, rfl⟩
set_option maxHeartbeats 400000 in
theorem l01In_no (x a b : Int) (w : World) (h : x < a ∨ b < x) : Calls Tryz.prog 86 #[.int .i64 x, .int .i64 a, .int .i64 b] w fun e w' => e = .returned (.bool false) ∧ w = w' := by
  by_cases h1 : x < a
  · go_enter Tryz.func86, Tryz.ntmps86
    go_wp2
    go_ret
    exact ⟨rfl, rfl⟩
  · have h2 : b < x := by omega
    have h3 : a ≤ x := by omega
    have h4 : decide (x ≤ b) = false := by simp; omega
    clear h h1
    go_enter Tryz.func86, Tryz.ntmps86
    go_wp2
    go_ret
    exact ⟨rfl, rfl⟩
open Go.RowKit
def lateAt (ls : List (Int × ByteArray)) (page : Int) : Nat → Option ByteArray
  | 0 => none
  | k + 1 => match ls[k]? with
    | some p => if p.1 = page then some p.2 else lateAt ls page k
    | none => lateAt ls page k
theorem lateAt_hit {ls : List (Int × ByteArray)} {page : Int} {k : Nat} {t : ByteArray} (h : ls[k]? = some (page, t)) : lateAt ls page (k + 1) = some t := by
  rw [lateAt, h]; simp
theorem lateAt_miss {ls : List (Int × ByteArray)} {page q : Int} {k : Nat} {t : ByteArray} (h : ls[k]? = some (q, t)) (hne : q ≠ page) : lateAt ls page (k + 1) = lateAt ls page k := by
  rw [lateAt, h]; simp [hne]
def readD (ps : List ByteArray) (ls : List (Int × ByteArray)) (page : Int) : ByteArray :=
  if 0 ≤ page ∧ page < (ps.length : Int) then
    match lateAt ls page ls.length with
    | some t => t
    | none => ps.getD page.toNat ⟨#[]⟩
  else ⟨#[]⟩
theorem readD_out {ps : List ByteArray} {ls : List (Int × ByteArray)} {page : Int} (h : page < 0 ∨ (ps.length : Int) ≤ page) : readD ps ls page = ⟨#[]⟩ := if_neg (by omega)
theorem readD_late {ps : List ByteArray} {ls : List (Int × ByteArray)} {page : Int} {t : ByteArray} (h : 0 ≤ page ∧ page < (ps.length : Int)) (hl : lateAt ls page ls.length = some t) : readD ps ls page = t := by
  rw [readD, if_pos h, hl]
theorem readD_page {ps : List ByteArray} {ls : List (Int × ByteArray)} {page : Int} (h : 0 ≤ page ∧ page < (ps.length : Int)) (hl : lateAt ls page ls.length = none) : readD ps ls page = ps.getD page.toNat ⟨#[]⟩ := by
  rw [readD, if_pos h, hl]
end Go.Proofs.YtdbpbhemnnffeaaGreatDoor
