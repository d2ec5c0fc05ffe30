/-
  Several texts in one. Plain facts on disks, without any program: what is read of a page, when a disk is right, what is kept, what falls. · Which of two metas counts. No program. · Disks (pages and what is late), read only ('DiskAt') or in new memory ('DiskOwn'), and the laws' own helpers over them by contracts: szDisk, toDisk, eqDisk, markDisk, heldDisk. · spec's functions over disks by contracts: ReadPage, DiskOk, SyncDisk, FallDisk, WritePage, DiskNew. · Plain facts on disks, without any program: a new disk, a put that is taken, what falls. · The program's functions over disks by contracts: hasPage, DiskOk, ReadPage, DiskNew. · BestMeta by contracts, the specification's and the program's. · Rows of frees marked and held by contracts: markFreeS, heldFreeS, markMeta, heldMeta. · FnExactReadMeta by contracts. · FnExactBestMeta by contracts. · A disk that came in as an argument of a law, opened: what its reading gives.
-/
import Derived.WalkKit
import Derived.Test.YthpfjfacjlpbdaaDoorSpecReadMeta
import Derived.Test.YthpfjfacjlpbdaaDoorNode
import Derived.Test.YthpfjfacjlpbdaaDoorVar
import Derived.Test.YthpfjfacjlpbdaaDoorClone
import Derived.Test.YthpfjfacjlpbdaaDoorImplReadMeta
import Derived.Test.YthpfjfacjlpbdaaDoorMetaGrow
import Derived.Lib.SmallJoins
import Derived.Deep.Strs
import Derived.Deep.SlicePairs
import Derived.ChangeOld
namespace Go.Proofs.YthpfjfacjlpbdaaDoor
open Go.RowKit

/-- among the first k puts the text of the last one to this page -/
def lateAt (ls : List (Int × ByteArray)) (page : Int) : Nat → Option ByteArray
  | 0 => none
  | k + 1 => match ls[k]? with
    | some p => if p.1 = page then some p.2 else lateAt ls page k
    | none => lateAt ls page k

theorem lateAt_hit {ls : List (Int × ByteArray)} {page : Int} {k : Nat} {t : ByteArray} (h : ls[k]? = some (page, t)) : lateAt ls page (k + 1) = some t := by
  rw [lateAt, h]; simp

theorem lateAt_miss {ls : List (Int × ByteArray)} {page q : Int} {k : Nat} {t : ByteArray} (h : ls[k]? = some (q, t)) (hne : q ≠ page) : lateAt ls page (k + 1) = lateAt ls page k := by
  rw [lateAt, h]; simp [hne]

/-- what is read of a page -/
def readD (ps : List ByteArray) (ls : List (Int × ByteArray)) (page : Int) : ByteArray :=
  if 0 ≤ page ∧ page < (ps.length : Int) then
    match lateAt ls page ls.length with
    | some t => t
    | none => ps.getD page.toNat ⟨#[]⟩
  else ⟨#[]⟩

theorem readD_out {ps : List ByteArray} {ls : List (Int × ByteArray)} {page : Int} (h : page < 0 ∨ (ps.length : Int) ≤ page) : readD ps ls page = ⟨#[]⟩ := if_neg (by omega)

theorem readD_late {ps : List ByteArray} {ls : List (Int × ByteArray)} {page : Int} {t : ByteArray} (h : 0 ≤ page ∧ page < (ps.length : Int)) (hl : lateAt ls page ls.length = some t) : readD ps ls page = t := by
  rw [readD, if_pos h, hl]

theorem readD_page {ps : List ByteArray} {ls : List (Int × ByteArray)} {page : Int} (h : 0 ≤ page ∧ page < (ps.length : Int)) (hl : lateAt ls page ls.length = none) : readD ps ls page = ps.getD page.toNat ⟨#[]⟩ := by
  rw [readD, if_pos h, hl]

/-- when a disk is right -/
def diskOkB (ps : List ByteArray) (ls : List (Int × ByteArray)) : Bool :=
  ps.all (fun s => decide (s.size ≤ 240)) && ls.all (fun p => decide (0 ≤ p.1 ∧ p.1 < (ps.length : Int) ∧ p.2.size ≤ 240)) && decide (4 ≤ ps.length ∧ ps.length ≤ 40 ∧ ls.length ≤ 200)

theorem diskOk_page {ps : List ByteArray} {ls : List (Int × ByteArray)} {k : Nat} (h : k < ps.length) (hb : 240 < ps[k].size) : diskOkB ps ls = false := by
  have : ps.all (fun s => decide (s.size ≤ 240)) = false := by
    rw [List.all_eq_false]
    exact ⟨ps[k], List.getElem_mem h, by simp; omega⟩
  rw [diskOkB, this]; rfl

theorem diskOk_late {ps : List ByteArray} {ls : List (Int × ByteArray)} {k : Nat} (h : k < ls.length) (hb : ¬ (0 ≤ ls[k].1 ∧ ls[k].1 < (ps.length : Int) ∧ ls[k].2.size ≤ 240)) : diskOkB ps ls = false := by
  have : ls.all (fun p => decide (0 ≤ p.1 ∧ p.1 < (ps.length : Int) ∧ p.2.size ≤ 240)) = false := by
    rw [List.all_eq_false]
    exact ⟨ls[k], List.getElem_mem h, by simpa using hb⟩
  rw [diskOkB, this]; simp

theorem diskOk_all {ps : List ByteArray} {ls : List (Int × ByteArray)} (h1 : ∀ i (h : i < ps.length), ps[i].size ≤ 240) (h2 : ∀ i (h : i < ls.length), 0 ≤ ls[i].1 ∧ ls[i].1 < (ps.length : Int) ∧ ls[i].2.size ≤ 240) : diskOkB ps ls = decide (4 ≤ ps.length ∧ ps.length ≤ 40 ∧ ls.length ≤ 200) := by
  have e1 : ps.all (fun s => decide (s.size ≤ 240)) = true := by
    rw [List.all_eq_true]
    intro s hs
    obtain ⟨i, hi, rfl⟩ := List.getElem_of_mem hs
    simpa using h1 i hi
  have e2 : ls.all (fun p => decide (0 ≤ p.1 ∧ p.1 < (ps.length : Int) ∧ p.2.size ≤ 240)) = true := by
    rw [List.all_eq_true]
    intro s hs
    obtain ⟨i, hi, rfl⟩ := List.getElem_of_mem hs
    simpa using h2 i hi
  rw [diskOkB, e1, e2]; rfl

theorem diskOk_yes {ps : List ByteArray} {ls : List (Int × ByteArray)} (h : diskOkB ps ls = true) : (∀ s ∈ ps, s.size ≤ 240) ∧ (∀ p ∈ ls, 0 ≤ p.1 ∧ p.1 < (ps.length : Int) ∧ p.2.size ≤ 240) ∧ 4 ≤ ps.length ∧ ps.length ≤ 40 ∧ ls.length ≤ 200 := by
  unfold diskOkB at h
  simp only [Bool.and_eq_true, List.all_eq_true, decide_eq_true_eq] at h
  obtain ⟨⟨h1, h2⟩, h3⟩ := h
  exact ⟨h1, h2, h3⟩

/-- a put is kept -/
def putD (ps : List ByteArray) (p : Int × ByteArray) : List ByteArray := if 0 ≤ p.1 ∧ p.1 < (ps.length : Int) then ps.set p.1.toNat p.2 else ps

/-- all that is late is kept, in order -/
def syncD (ps : List ByteArray) (ls : List (Int × ByteArray)) : List ByteArray := ls.foldl putD ps

theorem putD_length (ps : List ByteArray) (p : Int × ByteArray) : (putD ps p).length = ps.length := by
  unfold putD
  split
  · rw [List.length_set]
  · rfl

theorem syncD_length (ls : List (Int × ByteArray)) : ∀ ps : List ByteArray, (syncD ps ls).length = ps.length := by
  induction ls with
  | nil => intro ps; rfl
  | cons p ls ih => intro ps; rw [syncD, List.foldl_cons]; exact (ih _).trans (putD_length ps p)

theorem syncD_succ (ps : List ByteArray) (ls : List (Int × ByteArray)) (k : Nat) (h : k < ls.length) : syncD ps (ls.take (k + 1)) = putD (syncD ps (ls.take k)) ls[k] := by
  rw [List.take_succ_eq_append_getElem h, syncD, List.foldl_append]
  rfl

end Go.Proofs.YthpfjfacjlpbdaaDoor

namespace Go.Proofs.YthpfjfacjlpbdaaDoor

def bestOf (m0 : Mt) (ok0 : Bool) (m1 : Mt) (ok1 : Bool) : Mt × Bool := if ok0 = true ∧ (ok1 = false ∨ m1.tx ≤ m0.tx) then (m0, true) else if ok1 = true then (m1, true) else (Mt.none, false)

def BestM (t0 t1 : ByteArray) (m : Mt) (ok : Bool) : Prop := ∃ m0 ok0 m1 ok1, ReadM t0 m0 ok0 ∧ ReadM t1 m1 ok1 ∧ (m, ok) = bestOf m0 ok0 m1 ok1

theorem bestM_one {t0 t1 : ByteArray} {m n : Mt} {ok ko : Bool} (h : BestM t0 t1 m ok) (k : BestM t0 t1 n ko) : m = n ∧ ok = ko := by
  obtain ⟨m0, b0, m1, b1, h0, h1, h2⟩ := h
  obtain ⟨n0, d0, n1, d1, k0, k1, k2⟩ := k
  obtain ⟨rfl, rfl⟩ := readM_one h0 k0
  obtain ⟨rfl, rfl⟩ := readM_one h1 k1
  have := h2.trans k2.symm
  injection this with e1 e2
  exact ⟨e1, e2⟩

theorem readM_false {t : ByteArray} {m : Mt} (h : ReadM t m false) : m = Mt.none := by
  rcases h with ⟨h, -⟩ | ⟨-, h, -⟩
  · cases h
  · exact h

theorem readD_small {ps : List ByteArray} {ls : List (Int × ByteArray)} {M : Nat} (hps : ∀ s ∈ ps, s.size ≤ M) (hls : ∀ p ∈ ls, p.2.size ≤ M) (page : Int) : (readD ps ls page).size ≤ M := by
  have hlate : ∀ k t, lateAt ls page k = some t → t.size ≤ M := fun k => by
    induction k with
    | zero => intro t h; simp [lateAt] at h
    | succ k ih =>
      intro t h
      rw [lateAt] at h
      split at h
      · next p hp =>
        split at h
        · injection h with h
          rw [← h]
          exact hls p (List.mem_of_getElem? hp)
        · exact ih t h
      · exact ih t h
  unfold readD
  split
  · split
    · next t h => exact hlate _ _ h
    · rw [List.getD_eq_getElem?_getD]
      cases h : ps[page.toNat]? with
      | none => exact Nat.zero_le _
      | some x => exact hps x (List.mem_of_getElem? h)
  · exact Nat.zero_le _
end Go.Proofs.YthpfjfacjlpbdaaDoor

namespace Go.Proofs.YthpfjfacjlpbdaaDoor
open Go.RowKit

/-- a disk that reads so -/
def DiskAt (w : World) (v : Value) (ps : List ByteArray) (ls : List (Int × ByteArray)) : Prop :=
  ∃ vp vl, v = .agg #[vp, vl] ∧ RowAt w 1 vp ps.length (strs ps) ∧ RowAt w 2 vl ls.length (puts ls)

/-- a disk in memory of its own -/
def DiskOwn (w : World) (B : Nat) (v : Value) (ps : List ByteArray) (ls : List (Int × ByteArray)) : Prop :=
  ∃ vp vl, v = .agg #[vp, vl] ∧ w.ownsRow B 9 1 vp ps.length (strs ps) ∧ w.ownsRow B 92 2 vl ls.length (puts ls)

theorem disk_of_own {w : World} {B : Nat} {v : Value} {ps : List ByteArray} {ls : List (Int × ByteArray)} (h : DiskOwn w B v ps ls) : DiskAt w v ps ls := by
  obtain ⟨vp, vl, e, h1, h2⟩ := h
  exact ⟨vp, vl, e, row_of_own h1, row_of_own h2⟩

theorem disk_below {w w' : World} {v : Value} {ps : List ByteArray} {ls : List (Int × ByteArray)} (h : DiskAt w v ps ls) (hb : Below w.heap.size w w') : DiskAt w' v ps ls := by
  obtain ⟨vp, vl, e, h1, h2⟩ := h
  exact ⟨vp, vl, e, row_below h1 hb, row_below h2 hb⟩

theorem diskOwn_below {w w' : World} {B : Nat} {v : Value} {ps : List ByteArray} {ls : List (Int × ByteArray)} (h : DiskOwn w B v ps ls) (hb : Below w.heap.size w w') : DiskOwn w' B v ps ls := by
  obtain ⟨vp, vl, e, h1, h2⟩ := h
  exact ⟨vp, vl, e, own_stays h1 hb, own_stays h2 hb⟩

/-- the blocks of a disk's two rows -/
def diskBlocks (v : Value) (k : Nat) : Prop := ∃ vp vl, v = .agg #[vp, vl] ∧ (vp.ownBlock = some k ∨ vl.ownBlock = some k)

theorem disk_kept {w w' : World} {v : Value} {ps : List ByteArray} {ls : List (Int × ByteArray)} {S : Nat → Prop} (h : DiskAt w v ps ls) (hk : Kept w w' S) (hS : ∀ k, k < w.heap.size → diskBlocks v k → ¬ S k) : DiskAt w' v ps ls := by
  obtain ⟨vp, vl, rfl, h1, h2⟩ := h
  exact ⟨vp, vl, rfl, row_kept h1 hk (Or.inr fun k hlt e => hS k hlt ⟨vp, vl, rfl, Or.inl e⟩), row_kept h2 hk (Or.inr fun k hlt e => hS k hlt ⟨vp, vl, rfl, Or.inr e⟩)⟩

theorem diskOwn_kept {w w' : World} {B : Nat} {v : Value} {ps : List ByteArray} {ls : List (Int × ByteArray)} {S : Nat → Prop} (h : DiskOwn w B v ps ls) (hk : Kept w w' S) (hS : ∀ k, diskBlocks v k → ¬ S k) : DiskOwn w' B v ps ls := by
  obtain ⟨vp, vl, rfl, h1, h2⟩ := h
  exact ⟨vp, vl, rfl, own_kept h1 hk (fun k e => hS k ⟨vp, vl, rfl, Or.inl e⟩), own_kept h2 hk (fun k e => hS k ⟨vp, vl, rfl, Or.inr e⟩)⟩

theorem diskOwn_lt {w : World} {B : Nat} {v : Value} {ps : List ByteArray} {ls : List (Int × ByteArray)} (h : DiskOwn w B v ps ls) : ∀ k, diskBlocks v k → B ≤ k ∧ k < w.heap.size := by
  obtain ⟨vp, vl, rfl, h1, h2⟩ := h
  rintro k ⟨vp', vl', e, hk⟩
  have e2 : vp = vp' ∧ vl = vl' := by injection e with e; injection e with e; injection e with e1 e; injection e with e2; exact ⟨e1, e2⟩
  obtain ⟨rfl, rfl⟩ := e2
  rcases hk with hk | hk
  · exact h1.lt k hk
  · exact h2.lt k hk

set_option maxHeartbeats 400000 in
theorem szDisk_any (v : Value) (ps : List ByteArray) (ls : List (Int × ByteArray)) (hp : ps.length ≤ maxLen) (hps : ∀ s ∈ ps, s.size ≤ maxLen) (hl : ls.length ≤ maxLen) (hls : ∀ p ∈ ls, p.2.size ≤ maxLen) (left : Nat) (hleft : left ≤ 1048576) (w : World) (hd : DiskAt w v ps ls) :
    Calls Tryd.prog 32 #[v, .int .i64 (left : Int)] w fun e w' => e = .returned (.int .i64 (szOut left (bulkS ps + bulkP ls))) ∧ Below w.heap.size w w' := by
  obtain ⟨vp, vl, rfl, h1, h2⟩ := hd
  have hbB : ∀ o : Obj, Below w.heap.size w (w.alloc o) := fun o => (Below.refl w.heap.size w).alloc (Nat.le_refl _) _
  have HB := hide hbB
  have HC1 := hide (fun wx h => szStringS_any ps hp hps vp left hleft wx h)
  have H1 := hide h1
  have H2 := hide h2
  have HP := hide (⟨hl, hls⟩ : ls.length ≤ maxLen ∧ ∀ p ∈ ls, p.2.size ≤ maxLen)
  clear hp hps hl hls h1 h2 hbB
  by_cases hn : left < bulkS ps
  · have HO : Hid (szOut left (bulkS ps + bulkP ls) = -1) := hide (szOut_no (by omega))
    rw [szOut_no hn] at HC1
    go_enter Tryd.func32, Tryd.ntmps32
    go_wp2_with fail
    refine (HC1.out _ (row_below H1.out (HB.out _))).mono ?_
    rintro e w1 ⟨rfl, rfl⟩
    go_wp2_with fail
    go_ret
    rw [HO.out]
    exact ⟨rfl, HB.out _⟩
  · obtain ⟨m, hm⟩ : ∃ m, m = left - bulkS ps := ⟨_, rfl⟩
    rw [szOut_yes (by omega), ← hm] at HC1
    have hml : m ≤ 1048576 := by omega
    have HC2 := hide (fun wx h => szPutS_any ls HP.out.1 HP.out.2 vl m hml wx h)
    by_cases hn2 : m < bulkP ls
    · have HO : Hid (szOut left (bulkS ps + bulkP ls) = -1) := hide (szOut_no (by omega))
      rw [szOut_no hn2] at HC2
      clear hm hn hn2
      go_enter Tryd.func32, Tryd.ntmps32
      go_wp2_with fail
      refine (HC1.out _ (row_below H1.out (HB.out _))).mono ?_
      rintro e w1 ⟨rfl, rfl⟩
      go_wp2_with fail
      refine (HC2.out _ (row_below H2.out (HB.out _))).mono ?_
      rintro e w2 ⟨rfl, hb2⟩
      go_wp2_with fail
      go_ret
      rw [HO.out]
      exact ⟨rfl, (HB.out _).trans (hb2.mono (HB.out _).size)⟩
    · obtain ⟨r, hr⟩ : ∃ r, r = m - bulkP ls := ⟨_, rfl⟩
      rw [szOut_yes (by omega), ← hr] at HC2
      have hrl : r ≤ 1048576 := by omega
      have HO : Hid (szOut left (bulkS ps + bulkP ls) = (r : Int)) := hide (by rw [szOut_yes (by omega)]; congr 1; omega)
      clear hm hn hn2 hr
      go_enter Tryd.func32, Tryd.ntmps32
      go_wp2_with fail
      refine (HC1.out _ (row_below H1.out (HB.out _))).mono ?_
      rintro e w1 ⟨rfl, rfl⟩
      go_wp2_with fail
      refine (HC2.out _ (row_below H2.out (HB.out _))).mono ?_
      rintro e w2 ⟨rfl, hb2⟩
      go_wp2_with fail
      go_ret
      rw [HO.out]
      exact ⟨rfl, (HB.out _).trans (hb2.mono (HB.out _).size)⟩

set_option maxHeartbeats 1000000 in
theorem toDisk_any (v : Value) (ps : List ByteArray) (ls : List (Int × ByteArray)) (hp : ps.length ≤ 1048576) (hl : ls.length ≤ 1048576) (w : World) (hd : DiskAt w v ps ls) :
    Calls Tryd.prog 33 #[v] w fun e w' => ∃ v', e = .returned v' ∧ DiskOwn w' w.heap.size v' ps ls ∧ Below w.heap.size w w' := by
  obtain ⟨vp, vl, rfl, h1, h2⟩ := hd
  have HC1 := hide (fun wx h => toStringS_any ps hp vp wx h)
  have HC2 := hide (fun wx h => toPutS_any ls hl vl wx h)
  have H1 := hide h1
  have H2 := hide h2
  clear h1 h2 hp hl
  obtain ⟨w0, hw0⟩ : ∃ w0, w0 = ((w.alloc (Obj.cells #[vp, vl] 58)).alloc (Obj.cells #[.slice none 0 0, .slice none 0 0] 41)).alloc (Obj.cells #[.slice none 0 0, .slice none 0 0] 41) := ⟨_, rfl⟩
  have hb0 : Below w.heap.size w w0 := by rw [hw0]; exact (((Below.refl w.heap.size w).alloc (Nat.le_refl _) _).alloc (by simp) _).alloc (by simp; omega) _
  go_enter Tryd.func33, Tryd.ntmps33
  go_wp2_with fail
  rw [← hw0]
  refine (HC1.out _ (row_below H1.out hb0)).mono ?_
  rintro e w1 ⟨u1, rfl, hown1, hb1⟩
  obtain ⟨x1, c1, rfl⟩ := own_slice hown1
  obtain ⟨q0, q1, q2, hs0⟩ := three_allocs w (Obj.cells #[vp, vl] 58) (Obj.cells #[.slice none 0 0, .slice none 0 0] 41) (Obj.cells #[.slice none 0 0, .slice none 0 0] 41)
  rw [← hw0] at q0 q1 q2 hs0
  obtain ⟨a0, ha0⟩ : ∃ a, a = w.heap.size := ⟨_, rfl⟩
  rw [← ha0] at q0 q1 q2 hs0 ⊢
  obtain ⟨a1, ha1⟩ : ∃ a, a = a0 + 1 := ⟨_, rfl⟩
  obtain ⟨a2, ha2⟩ : ∃ a, a = a0 + 1 + 1 := ⟨_, rfl⟩
  rw [← ha2, ← ha1]
  rw [← ha1] at q1
  rw [← ha2] at q2
  have HW0 := hide hw0
  have HA := hide (⟨ha0, ha1, ha2, hs0⟩ : a0 = w.heap.size ∧ a1 = a0 + 1 ∧ a2 = a0 + 1 + 1 ∧ w0.heap.size = a0 + 3)
  have HB0 := hide hb0
  have r0 := (hb1.block a0 (by omega)).trans q0
  have r1 := (hb1.block a1 (by omega)).trans q1
  have r2 := (hb1.block a2 (by omega)).trans q2
  have hn20 : a2 ≠ a0 := by omega
  have hn21 : a2 ≠ a1 := by omega
  have hn10 : a1 ≠ a0 := by omega
  have HN := hide (⟨hn20, hn21, hn10⟩ : a2 ≠ a0 ∧ a2 ≠ a1 ∧ a1 ≠ a0)
  clear hw0 ha0 ha1 ha2 hs0 hb0 q0 q1 q2
  have s2 : (w1.setCell ⟨a2, 0, none⟩ (.slice x1 ps.length c1)).heap[a2]? = some (Obj.cells #[(.slice x1 ps.length c1), .slice none 0 0] 41) := heap_setCell_same w1 a2 0 _ _ _ r2
  have s0 : (w1.setCell ⟨a2, 0, none⟩ (.slice x1 ps.length c1)).heap[a0]? = some (Obj.cells #[vp, vl] 58) := (heap_setCell_other w1 ⟨a2, 0, none⟩ a0 (.slice x1 ps.length c1) (by exact fun e => hn20 e.symm)).trans r0
  have s1 : (w1.setCell ⟨a2, 0, none⟩ (.slice x1 ps.length c1)).heap[a1]? = some (Obj.cells #[.slice none 0 0, .slice none 0 0] 41) := (heap_setCell_other w1 ⟨a2, 0, none⟩ a1 (.slice x1 ps.length c1) (by exact fun e => hn21 e.symm)).trans r1
  have c20 : w1.cell? ⟨a2, 0, none⟩ = some (.slice none 0 0) := (cell_at r2 0).1
  have f20 := (cell_at r2 0).2
  have c01 : (w1.setCell ⟨a2, 0, none⟩ (.slice x1 ps.length c1)).cell? ⟨a0, 1, none⟩ = some vl := (cell_at s0 1).1
  have HB1 := hide hb1
  have HO1 := hide hown1
  have HR := hide (⟨s0, s1, s2⟩ : (w1.setCell ⟨a2, 0, none⟩ (.slice x1 ps.length c1)).heap[a0]? = some (Obj.cells #[vp, vl] 58) ∧ (w1.setCell ⟨a2, 0, none⟩ (.slice x1 ps.length c1)).heap[a1]? = some (Obj.cells #[.slice none 0 0, .slice none 0 0] 41) ∧ (w1.setCell ⟨a2, 0, none⟩ (.slice x1 ps.length c1)).heap[a2]? = some (Obj.cells #[(.slice x1 ps.length c1), .slice none 0 0] 41))
  clear hb1 hown1 r0 r1 r2 s0 s1 s2 hn20 hn21 hn10
  go_wp2_with fail
  have HB2 : Hid (Below w.heap.size w (w1.setCell ⟨a2, 0, none⟩ (.slice x1 ps.length c1))) := hide ((HB0.out.trans (HB1.out.mono HB0.out.size)).setCell (by have := HA.out; show _ ≤ a2; omega) _)
  refine (HC2.out _ (row_below H2.out HB2.out)).mono ?_
  rintro e w3 ⟨u2, rfl, hown2, hb3⟩
  obtain ⟨x2, c2, rfl⟩ := own_slice hown2
  have hsz : (w1.setCell ⟨a2, 0, none⟩ (.slice x1 ps.length c1)).heap.size = w1.heap.size := by simp
  have hlt2 : a2 < (w1.setCell ⟨a2, 0, none⟩ (.slice x1 ps.length c1)).heap.size := (Array.getElem?_eq_some_iff.1 HR.out.2.2).1
  have hlt1 : a1 < (w1.setCell ⟨a2, 0, none⟩ (.slice x1 ps.length c1)).heap.size := (Array.getElem?_eq_some_iff.1 HR.out.2.1).1
  have t1 := (hb3.block a1 hlt1).trans HR.out.2.1
  have t2 := (hb3.block a2 hlt2).trans HR.out.2.2
  have d21 : w3.cell? ⟨a2, 1, none⟩ = some (.slice none 0 0) := (cell_at t2 1).1
  have f21 := (cell_at t2 1).2
  have v2 : (w3.setCell ⟨a2, 1, none⟩ (.slice x2 ls.length c2)).heap[a2]? = some (Obj.cells #[.slice x1 ps.length c1, .slice x2 ls.length c2] 41) := heap_setCell_same w3 a2 1 _ _ _ t2
  have v1 : (w3.setCell ⟨a2, 1, none⟩ (.slice x2 ls.length c2)).heap[a1]? = some (Obj.cells #[.slice none 0 0, .slice none 0 0] 41) := (heap_setCell_other w3 ⟨a2, 1, none⟩ a1 _ (by exact fun e => HN.out.2.1 e.symm)).trans t1
  have e20 : (w3.setCell ⟨a2, 1, none⟩ (.slice x2 ls.length c2)).cell? ⟨a2, 0, none⟩ = some (.slice x1 ps.length c1) := (cell_at v2 0).1
  have e21 : (w3.setCell ⟨a2, 1, none⟩ (.slice x2 ls.length c2)).cell? ⟨a2, 1, none⟩ = some (.slice x2 ls.length c2) := (cell_at v2 1).1
  have e10 : (w3.setCell ⟨a2, 1, none⟩ (.slice x2 ls.length c2)).cell? ⟨a1, 0, none⟩ = some (.slice none 0 0) := (cell_at v1 0).1
  have e11 : (w3.setCell ⟨a2, 1, none⟩ (.slice x2 ls.length c2)).cell? ⟨a1, 1, none⟩ = some (.slice none 0 0) := (cell_at v1 1).1
  have g10 := (cell_at v1 0).2
  have g11 := (cell_at v1 1).2
  have HB3 := hide hb3
  have HO2 := hide hown2
  have HV := hide v1
  clear hb3 hown2 t1 t2 v1 v2 hlt1 hlt2 hsz
  go_wp2_with fail
  have y1 : ((w3.setCell ⟨a2, 1, none⟩ (.slice x2 ls.length c2)).setCell ⟨a1, 0, none⟩ (.slice x1 ps.length c1)).heap[a1]? = some (Obj.cells #[.slice x1 ps.length c1, .slice none 0 0] 41) := heap_setCell_same _ a1 0 _ _ _ HV.out
  have y2 : (((w3.setCell ⟨a2, 1, none⟩ (.slice x2 ls.length c2)).setCell ⟨a1, 0, none⟩ (.slice x1 ps.length c1)).setCell ⟨a1, 1, none⟩ (.slice x2 ls.length c2)).heap[a1]? = some (Obj.cells #[.slice x1 ps.length c1, .slice x2 ls.length c2] 41) := heap_setCell_same _ a1 1 _ _ _ y1
  have z0 := (cell_at y2 0).1
  have z1 := (cell_at y2 1).1
  have hA := HA.out
  have k1 : Kept w1 (w1.setCell ⟨a2, 0, none⟩ (.slice x1 ps.length c1)) (fun k => k = a1 ∨ k = a2) := kept_mono (kept_setCell _ _ _ _) (fun j _ h => Or.inr h)
  have k2 : Kept w3 (((w3.setCell ⟨a2, 1, none⟩ (.slice x2 ls.length c2)).setCell ⟨a1, 0, none⟩ (.slice x1 ps.length c1)).setCell ⟨a1, 1, none⟩ (.slice x2 ls.length c2)) (fun k => k = a1 ∨ k = a2) := kept_trans (kept_trans (kept_mono (kept_setCell _ _ _ _) (fun j _ h => Or.inr h)) (kept_setCell _ _ _ _) (fun j _ h => Or.inl h)) (kept_setCell _ _ _ _) (fun j _ h => Or.inl h)
  have k3 := kept_trans (kept_trans k1 (kept_of_all HB3.out (fun _ => False)) (fun j _ h => h.elim)) k2 (fun j _ h => h)
  refine bodyPost_ret (v := .agg #[.slice x1 ps.length c1, .slice x2 ls.length c2]) (by simp [results, Tryd.results33, go_sem, z0, z1]) rfl ⟨_, rfl, ⟨_, _, rfl, ?_, ?_⟩, ?_⟩
  · exact own_down (own_kept HO1.out k3 (fun k hk => by have := (HO1.out.lt k hk).1; omega)) (by omega)
  · refine own_down (own_kept HO2.out k2 (fun k hk => by have h1 := (HO2.out.lt k hk).1; have h2 := HB1.out.size; simp at h1; omega)) (by have h2 := HB1.out.size; simp; omega)
  · refine ((((HB2.out.trans (HB3.out.mono HB2.out.size)).setCell ?_ _).setCell ?_ _).setCell ?_ _)
    · show _ ≤ a2; omega
    · show _ ≤ a1; omega
    · show _ ≤ a1; omega

set_option maxHeartbeats 1000000 in
theorem eqDisk_any (v u : Value) (ps qs : List ByteArray) (ls ms : List (Int × ByteArray)) (hp : ps.length ≤ 9223372036854775807) (hq : qs.length ≤ 9223372036854775807) (hl : ls.length ≤ 9223372036854775807) (hm : ms.length ≤ 9223372036854775807) (w : World) (hd : DiskAt w v ps ls) (hu : DiskAt w u qs ms) :
    Calls Tryd.prog 34 #[v, u] w fun e w' => e = .returned (.bool (decide ((ps, ls) = (qs, ms)))) ∧ Below w.heap.size w w' := by
  obtain ⟨vp, vl, rfl, h1, h2⟩ := hd
  obtain ⟨up, ul, rfl, h3, h4⟩ := hu
  have HC1 := hide (fun wx h h' => eqStringS_row ps qs hp hq vp up wx h h')
  have HC2 := hide (fun wx h h' => eqPutS_row ls ms hl hm vl ul wx h h')
  have HR := hide (⟨h1, h2, h3, h4⟩ : RowAt w 1 vp ps.length (strs ps) ∧ RowAt w 2 vl ls.length (puts ls) ∧ RowAt w 1 up qs.length (strs qs) ∧ RowAt w 2 ul ms.length (puts ms))
  clear h1 h2 h3 h4 hp hq hl hm
  obtain ⟨w0, hw0⟩ : ∃ w0, w0 = (w.alloc (Obj.cells #[vp, vl] 41)).alloc (Obj.cells #[up, ul] 41) := ⟨_, rfl⟩
  have hb0 : Below w.heap.size w w0 := by rw [hw0]; exact ((Below.refl w.heap.size w).alloc (Nat.le_refl _) _).alloc (by simp) _
  obtain ⟨q0, q1, hs0⟩ := two_allocs w (Obj.cells #[vp, vl] 41) (Obj.cells #[up, ul] 41)
  rw [← hw0] at q0 q1 hs0
  have HB0 := hide hb0
  have HQ := hide (⟨q0, q1, hs0⟩ : w0.heap[w.heap.size]? = some (Obj.cells #[vp, vl] 41) ∧ w0.heap[w.heap.size + 1]? = some (Obj.cells #[up, ul] 41) ∧ w0.heap.size = w.heap.size + 2)
  clear hb0 q0 q1 hs0
  by_cases h1 : ps = qs
  · rw [decide_eq_true h1] at HC1
    go_enter Tryd.func34, Tryd.ntmps34
    go_wp2_with fail
    rw [← hw0]
    refine (HC1.out _ (row_below HR.out.1 HB0.out) (row_below HR.out.2.2.1 HB0.out)).mono ?_
    rintro e w1 ⟨rfl, hb1⟩
    have HB1 : Hid (Below w.heap.size w w1) := hide (HB0.out.trans (hb1.mono HB0.out.size))
    have c0 : w1.cell? ⟨w.heap.size, 1, none⟩ = some vl := (cell_at ((hb1.block _ (by rw [HQ.out.2.2]; omega)).trans HQ.out.1) 1).1
    have c1 : w1.cell? ⟨w.heap.size + 1, 1, none⟩ = some ul := (cell_at ((hb1.block _ (by rw [HQ.out.2.2]; omega)).trans HQ.out.2.1) 1).1
    have HW := hide hw0
    clear hb1 hw0
    by_cases h2 : ls = ms
    · rw [decide_eq_true h2] at HC2
      have HD : Hid (decide ((ps, ls) = (qs, ms)) = true) := hide (by rw [h1, h2]; simp)
      clear h1 h2
      go_wp2_with fail
      refine (HC2.out _ (row_below HR.out.2.1 HB1.out) (row_below HR.out.2.2.2 HB1.out)).mono ?_
      rintro e w2 ⟨rfl, hb2⟩
      go_wp2_with fail
      go_ret
      rw [HD.out]
      exact ⟨rfl, HB1.out.trans (hb2.mono HB1.out.size)⟩
    · rw [decide_eq_false h2] at HC2
      have HD : Hid (decide ((ps, ls) = (qs, ms)) = false) := hide (by simp [h2])
      clear h1 h2
      go_wp2_with fail
      refine (HC2.out _ (row_below HR.out.2.1 HB1.out) (row_below HR.out.2.2.2 HB1.out)).mono ?_
      rintro e w2 ⟨rfl, hb2⟩
      go_wp2_with fail
      go_ret
      rw [HD.out]
      exact ⟨rfl, HB1.out.trans (hb2.mono HB1.out.size)⟩
  · rw [decide_eq_false h1] at HC1
    have HD : Hid (decide ((ps, ls) = (qs, ms)) = false) := hide (by simp [h1])
    clear h1
    go_enter Tryd.func34, Tryd.ntmps34
    go_wp2_with fail
    rw [← hw0]
    refine (HC1.out _ (row_below HR.out.1 HB0.out) (row_below HR.out.2.2.1 HB0.out)).mono ?_
    rintro e w1 ⟨rfl, hb1⟩
    have HW := hide hw0
    clear hw0
    go_wp2_with fail
    go_ret
    rw [HD.out]
    exact ⟨rfl, HB0.out.trans (hb1.mono HB0.out.size)⟩

theorem Tryd.types_part : (9 : Nat) ≠ 92 := by decide

set_option maxHeartbeats 1000000 in
theorem markDisk_any (v : Value) (ps : List ByteArray) (ls : List (Int × ByteArray)) (B k0 : Nat) (hn : ps.length ≤ 1048576) (hm : ls.length ≤ 1048576) (hk0 : 0 < k0) (hk1 : k0 ≤ 1000000000) (w : World) (hd : DiskOwn w B v ps ls) :
    Calls Tryd.prog 35 #[v, .int .i64 (k0 : Int)] w fun e w' => e = .returned (.int .i64 ((k0 + ps.length + ls.length * 2 : Nat) : Int)) ∧ DiskOwn w' B v (marksS k0 ps.length) (marksP (k0 + ps.length) ls.length) ∧ Kept w w' (diskBlocks v) := by
  obtain ⟨vp, vl, rfl, h1, h2⟩ := hd
  have HC1 := hide (fun wx h => markStringS_row ps hn vp B k0 hk0 (by omega) wx h)
  have HC2 := hide (fun wx h => markPutS_row ls hm vl B (k0 + ps.length) (by omega) (by omega) wx h)
  have H1 := hide h1
  have H2 := hide h2
  have hb0 : ∀ o, Below w.heap.size w (w.alloc o) := fun o => (Below.refl w.heap.size w).alloc (Nat.le_refl _) _
  have HB0 := hide hb0
  obtain ⟨r, hr⟩ : ∃ r, r = k0 + ps.length := ⟨_, rfl⟩
  have hrl : r ≤ 1002000000 := by omega
  rw [← hr] at HC1 HC2 ⊢
  obtain ⟨z, hz⟩ : ∃ z, z = r + ls.length * 2 := ⟨_, rfl⟩
  rw [← hz] at HC2 ⊢
  have hzl : z ≤ 1010000000 := by omega
  clear h1 h2 hb0 hr hz hn hm hk0
  go_enter Tryd.func35, Tryd.ntmps35
  go_wp2_with fail
  refine (HC1.out _ (own_stays H1.out (HB0.out _))).mono ?_
  rintro e w1 ⟨rfl, hown1, hk⟩
  have hlt : ∀ k, vp.ownBlock = some k → k < w.heap.size := fun k h => (H1.out.lt k h).2
  have hlt2 : ∀ k, vl.ownBlock = some k → k < w.heap.size := fun k h => (H2.out.lt k h).2
  have c0 : w1.cell? ⟨w.heap.size, 1, none⟩ = some vl := (cell_at ((hk.2.2.2.2 w.heap.size (by simp) (fun e => by have := hlt _ e; omega)).trans (heap_alloc_new w _)) 1).1
  have HO2 := hide (own_kept (own_stays H2.out (HB0.out (Obj.cells #[vp, vl] 41))) hk (fun k h => one_type H2.out H1.out Tryd.types_part.symm k h))
  have HO1 := hide hown1
  have HK := hide (kept_trans (kept_of_all (HB0.out (Obj.cells #[vp, vl] 41)) (fun k => diskBlocks (.agg #[vp, vl]) k)) hk (fun j _ h => ⟨vp, vl, rfl, Or.inl h⟩))
  clear hk hown1 hlt hlt2
  go_wp2_with fail
  refine (HC2.out _ HO2.out).mono ?_
  rintro e w2 ⟨rfl, hown2, hk2⟩
  go_wp2_with fail
  go_ret
  refine ⟨rfl, ⟨vp, vl, rfl, ?_, ?_⟩, kept_trans HK.out hk2 (fun j _ h => ⟨vp, vl, rfl, Or.inr h⟩)⟩
  · rw [marksS_length]; exact own_kept HO1.out hk2 (fun k h => one_type HO1.out HO2.out Tryd.types_part k h)
  · rw [marksP_length]; exact hown2
end Go.Proofs.YthpfjfacjlpbdaaDoor

namespace Go.Proofs.YthpfjfacjlpbdaaDoor
open Go.RowKit

theorem l01In_any (x a b : Int) (w : World) : Calls Tryd.prog 46 #[.int .i64 x, .int .i64 a, .int .i64 b] w fun e w' => e = .returned (.bool (decide (a ≤ x ∧ x ≤ b))) ∧ w = w' := by
  by_cases h : a ≤ x ∧ x ≤ b
  · rw [decide_eq_true h]; exact l01In_yes x a b w h.1 h.2
  · rw [decide_eq_false h]; exact l01In_no x a b w (by omega)

set_option maxHeartbeats 1000000 in
theorem specReadPage_any (v : Value) (ps : List ByteArray) (ls : List (Int × ByteArray)) (hp : ps.length ≤ 1048576) (hl : ls.length ≤ 1048576) (page : Int) (w : World) (hd : DiskAt w v ps ls) :
    Calls Tryd.prog 59 #[v, .int .i64 page] w fun e w' => e = .returned (.string (readD ps ls page)) ∧ Below w.heap.size w w' := by
  obtain ⟨vp, vl, rfl, h1, h2⟩ := hd
  obtain ⟨x1, c1, rfl⟩ : ∃ a cap, vp = .slice a ps.length cap := by obtain ⟨-, a, cap, e, -⟩ := h1; exact ⟨a, cap, e⟩
  obtain ⟨x2, c2, rfl⟩ : ∃ a cap, vl = .slice a ls.length cap := by obtain ⟨-, a, cap, e, -⟩ := h2; exact ⟨a, cap, e⟩
  have H1 := hide h1
  have H2 := hide h2
  clear h1 h2
  have HC := hide (l01In_any page 0 ((ps.length : Int) - 1))
  have hb0 : Below w.heap.size w (w.alloc (Obj.cells #[.slice x1 ps.length c1, .slice x2 ls.length c2] 41)) := (Below.refl w.heap.size w).alloc (Nat.le_refl _) _
  have HB0 := hide hb0
  clear hb0
  by_cases hin : 0 ≤ page ∧ page ≤ (ps.length : Int) - 1
  · rw [decide_eq_true hin] at HC
    go_enter Tryd.func59, Tryd.ntmps59
    go_wp2_with fail
    refine (HC.out _).mono ?_
    rintro e w1 ⟨rfl, rfl⟩
    go_wp2_with fail
    obtain ⟨w0, hw0⟩ : ∃ w0, w0 = w.alloc (Obj.cells #[.slice x1 ps.length c1, .slice x2 ls.length c2] 41) := ⟨_, rfl⟩
    rw [← hw0]
    rw [← hw0] at HB0
    have hblk : w0.heap[w.heap.size]? = some (Obj.cells #[.slice x1 ps.length c1, .slice x2 ls.length c2] 41) := by rw [hw0]; exact heap_alloc_new w _
    have cb0 : w0.cell? ⟨w.heap.size, 0, none⟩ = some (.slice x1 ps.length c1) := (cell_at hblk 0).1
    have cb1 : w0.cell? ⟨w.heap.size, 1, none⟩ = some (.slice x2 ls.length c2) := (cell_at hblk 1).1
    clear hw0 hblk
    go_loopg [5] ls.length (fun q iv wr => ∃ k : Nat, k ≤ ls.length ∧ iv = .int .i64 ((k : Int) - 1) ∧ q = k ∧ Hid (lateAt ls page ls.length = lateAt ls page k) ∧ w0 = wr)
    case atStart => exact ⟨ls.length, Nat.le_refl _, rfl, rfl, hide rfl, rfl⟩
    case round =>
      obtain ⟨k, hk, rfl, hgk, HL, rfl⟩ := hrel
      have HGk := hide hgk
      clear hgk
      by_cases hk0 : k = 0
      · subst hk0
        have HO : Hid (readD ps ls page = ps.getD page.toNat ⟨#[]⟩) := hide (readD_page (by omega) (by rw [HL.out]; rfl))
        obtain ⟨n, hn⟩ := Int.eq_ofNat_of_zero_le hin.1
        have hnl : n < ps.length := by omega
        obtain ⟨x, hx⟩ : ∃ x, x = ps.getD page.toNat ⟨#[]⟩ := ⟨_, rfl⟩
        rcases H1.out.2 with ⟨a, cap, e, h0 | ⟨b, off, e2, hbl, hc⟩⟩
        · omega
        · injection e with e1 e3 e4
          subst e1 e4
          subst e2
          have hcell : w0.cell? ⟨b, off + n, none⟩ = some (.string x) := by
            rw [HB0.out.cell (by exact hbl), hc n (by omega), strs_at ps n hnl, hx, hn]
            simp [List.getD, hnl]
          rw [← hx] at HO
          subst hn
          have hi0 : (0 : Int) ≤ (n : Int) := by omega
          have hi1 : (n : Int) < (ps.length : Int) := by omega
          clear hx hc
          go_wp2_with fail
          go_ret
          rw [HO.out]
          exact ⟨rfl, HB0.out⟩
      · obtain ⟨j, rfl⟩ : ∃ j, k = j + 1 := ⟨k - 1, by omega⟩
        have hjl : j < ls.length := by omega
        rcases H2.out.2 with ⟨a, cap, e, h0 | ⟨b, off, e2, hbl, hc⟩⟩
        · omega
        · injection e with e1 e3 e4
          subst e1 e4
          subst e2
          obtain ⟨q, t, hqt⟩ : ∃ q t, (q, t) = ls[j] := ⟨_, _, rfl⟩
          have hget : ls[j]? = some (q, t) := by rw [List.getElem?_eq_getElem hjl, hqt]
          have hc0 : w0.cell? ⟨b, off + j * 2, none⟩ = some (.int .i64 q) := by rw [HB0.out.cell (by exact hbl), hc (j * 2) (by omega), (puts_at ls j hjl).1, ← hqt]
          have hc1 : w0.cell? ⟨b, off + j * 2 + 1, none⟩ = some (.string t) := by rw [HB0.out.cell (by exact hbl), Nat.add_assoc, hc (j * 2 + 1) (by omega), (puts_at ls j hjl).2, ← hqt]
          have hi0 : (0 : Int) ≤ (j : Int) := by omega
          have hi1 : (j : Int) < (ls.length : Int) := by omega
          have hij : ((j + 1 : Nat) : Int) - 1 = (j : Int) := by omega
          rw [hij]
          have HGet := hide hget
          clear hc hqt hget hij
          by_cases hq : q = page
          · subst hq
            have HO : Hid (readD ps ls q = t) := hide (readD_late (by omega) (by rw [HL.out]; exact lateAt_hit HGet.out))
            go_wp2_with fail
            go_ret
            rw [HO.out]
            exact ⟨rfl, HB0.out⟩
          · have HL2 : Hid (lateAt ls page ls.length = lateAt ls page j) := hide (by rw [HL.out]; exact lateAt_miss HGet.out hq)
            go_wp2_with fail
            go_roundg j
            case measure => have := HGk.out; omega
            case rel => exact ⟨j, by omega, by go_num, rfl, HL2, rfl⟩
  · rw [decide_eq_false hin] at HC
    have HO : Hid (readD ps ls page = ⟨#[]⟩) := hide (readD_out (by omega))
    go_enter Tryd.func59, Tryd.ntmps59
    go_wp2_with fail
    refine (HC.out _).mono ?_
    rintro e w1 ⟨rfl, rfl⟩
    go_wp2_with fail
    go_ret
    rw [HO.out]
    exact ⟨rfl, HB0.out⟩

set_option maxHeartbeats 2000000 in
set_option maxRecDepth 100000 in
theorem specDiskOk_any (v : Value) (ps : List ByteArray) (ls : List (Int × ByteArray)) (hp : ps.length ≤ 1048576) (hl : ls.length ≤ 1048576) (hps : ∀ s ∈ ps, s.size ≤ 1048576) (hls : ∀ p ∈ ls, p.2.size ≤ 1048576) (w : World) (hd : DiskAt w v ps ls) :
    Calls Tryd.prog 57 #[v] w fun e w' => e = .returned (.bool (diskOkB ps ls)) ∧ Below w.heap.size w w' := by
  obtain ⟨vp, vl, rfl, h1, h2⟩ := hd
  obtain ⟨x1, c1, rfl⟩ : ∃ a cap, vp = .slice a ps.length cap := by obtain ⟨-, a, cap, e, -⟩ := h1; exact ⟨a, cap, e⟩
  obtain ⟨x2, c2, rfl⟩ : ∃ a cap, vl = .slice a ls.length cap := by obtain ⟨-, a, cap, e, -⟩ := h2; exact ⟨a, cap, e⟩
  have H1 := hide h1
  have H2 := hide h2
  have HPs := hide hps
  have HLs := hide hls
  clear h1 h2 hps hls
  go_enter Tryd.func57, Tryd.ntmps57
  go_wp2_with fail
  obtain ⟨w0, hw0⟩ : ∃ w0, w0 = w.alloc (Obj.cells #[.slice x1 ps.length c1, .slice x2 ls.length c2] 41) := ⟨_, rfl⟩
  have hb0 : Below w.heap.size w w0 := by rw [hw0]; exact (Below.refl w.heap.size w).alloc (Nat.le_refl _) _
  have hblk : w0.heap[w.heap.size]? = some (Obj.cells #[.slice x1 ps.length c1, .slice x2 ls.length c2] 41) := by rw [hw0]; exact heap_alloc_new w _
  have hsz : w.heap.size < w0.heap.size := (Array.getElem?_eq_some_iff.1 hblk).1
  rw [← hw0]
  have HB0 := hide hb0
  have HBk := hide hblk
  have HSz := hide hsz
  clear hw0 hb0 hblk hsz
  go_loopg [3] ps.length (fun q iv wr => ∃ k : Nat, k ≤ ps.length ∧ iv = .int .i64 (k : Int) ∧ q + k = ps.length ∧ Hid (∀ i (h : i < ps.length), i < k → ps[i].size ≤ 240) ∧ w0 = wr)
  case atStart => exact ⟨0, Nat.zero_le _, rfl, rfl, hide (fun i h h0 => by omega), rfl⟩
  case round =>
    obtain ⟨k, hk, rfl, hg, HA, rfl⟩ := hrel
    have HG := hide hg
    clear hg
    have cb0 : w0.cell? ⟨w.heap.size, 0, none⟩ = some (.slice x1 ps.length c1) := (cell_at HBk.out 0).1
    have cb1 : w0.cell? ⟨w.heap.size, 1, none⟩ = some (.slice x2 ls.length c2) := (cell_at HBk.out 1).1
    by_cases hlt : k < ps.length
    · rcases H1.out.2 with ⟨a, cap, e, h0 | ⟨b, off, e2, hbl, hc⟩⟩
      · omega
      · injection e with e1 e3 e4
        subst e1 e4
        subst e2
        obtain ⟨x, hx⟩ : ∃ x, x = ps[k] := ⟨_, rfl⟩
        have hxs : x.size ≤ 1048576 := by rw [hx]; exact HPs.out _ (List.getElem_mem hlt)
        have hcell : w0.cell? ⟨b, off + k, none⟩ = some (.string x) := by rw [HB0.out.cell (by exact hbl), hc k (by omega), strs_at ps k hlt, hx]
        have HX := hide hx
        have hi0 : (0 : Int) ≤ (k : Int) := by omega
        have hi1 : (k : Int) < (ps.length : Int) := by omega
        clear hx hc
        by_cases hbig : 240 < x.size
        · have HO : Hid (diskOkB ps ls = false) := hide (diskOk_page hlt (by rw [← HX.out]; exact hbig))
          go_wp2_with fail
          go_ret
          rw [HO.out]
          exact ⟨rfl, HB0.out⟩
        · have HA2 : Hid (∀ i (h : i < ps.length), i < k + 1 → ps[i].size ≤ 240) := hide (fun i h hi => by
            by_cases e : i = k
            · subst e; rw [← HX.out]; omega
            · exact HA.out i h (by omega))
          go_wp2_with fail
          go_roundg (gk - 1)
          case measure => have := HG.out; omega
          case rel => exact ⟨k + 1, by omega, by go_num, by have := HG.out; omega, HA2, rfl⟩
    · have HAll : Hid (∀ i (h : i < ps.length), ps[i].size ≤ 240) := hide (fun i h => HA.out i h (by omega))
      have HCi := hide (l01In_any (ps.length : Int) 4 40)
      clear HA
      go_wp2_with fail
      go_loopg [4] ls.length (fun q iv wr => ∃ j : Nat, j ≤ ls.length ∧ iv = .int .i64 (j : Int) ∧ q + j = ls.length ∧ Hid (∀ i (h : i < ls.length), i < j → 0 ≤ ls[i].1 ∧ ls[i].1 < (ps.length : Int) ∧ ls[i].2.size ≤ 240) ∧ Below w0.heap.size w0 wr)
      case atStart => exact ⟨0, Nat.zero_le _, rfl, rfl, hide (fun i h h0 => by omega), Below.refl _ _⟩
      case round =>
        obtain ⟨j, hj, rfl, hg, HA, hbw⟩ := hrel
        have HG2 := hide hg
        have HBw := hide hbw
        have HBa : Hid (Below w.heap.size w wr) := hide (HB0.out.trans (hbw.mono HB0.out.size))
        have cd0 : wr.cell? ⟨w.heap.size, 0, none⟩ = some (.slice x1 ps.length c1) := (hbw.cell (by exact HSz.out)).trans cb0
        have cd1 : wr.cell? ⟨w.heap.size, 1, none⟩ = some (.slice x2 ls.length c2) := (hbw.cell (by exact HSz.out)).trans cb1
        clear hg hbw cb0 cb1
        by_cases hjl : j < ls.length
        · rcases H2.out.2 with ⟨a, cap, e, h0 | ⟨b, off, e2, hbl, hc⟩⟩
          · omega
          · injection e with e1 e3 e4
            subst e1 e4
            subst e2
            obtain ⟨q, t, hqt⟩ : ∃ q t, (q, t) = ls[j] := ⟨_, _, rfl⟩
            have hts : t.size ≤ 1048576 := by have := HLs.out _ (List.getElem_mem hjl); rw [← hqt] at this; exact this
            have hc0 : wr.cell? ⟨b, off + j * 2, none⟩ = some (.int .i64 q) := by rw [HBa.out.cell (by exact hbl), hc (j * 2) (by omega), (puts_at ls j hjl).1, ← hqt]
            have hc1 : wr.cell? ⟨b, off + j * 2 + 1, none⟩ = some (.string t) := by rw [HBa.out.cell (by exact hbl), Nat.add_assoc, hc (j * 2 + 1) (by omega), (puts_at ls j hjl).2, ← hqt]
            have hi0 : (0 : Int) ≤ (j : Int) := by omega
            have hi1 : (j : Int) < (ls.length : Int) := by omega
            have hw1 : IntKind.i64.wrap ((ps.length : Int) - 1) = (ps.length : Int) - 1 := IntWalk.i64_in _ ⟨by omega, by omega⟩
            have HQT := hide hqt
            have HC := hide (l01In_any q 0 ((ps.length : Int) - 1))
            clear hc hqt
            by_cases hin : 0 ≤ q ∧ q ≤ (ps.length : Int) - 1
            · rw [decide_eq_true hin] at HC
              by_cases hbig : 240 < t.size
              · have HO : Hid (diskOkB ps ls = false) := hide (diskOk_late hjl (by rw [← HQT.out]; show ¬ (0 ≤ q ∧ q < (ps.length : Int) ∧ t.size ≤ 240); omega))
                have hd1 : decide ((240 : Int) < (t.size : Int)) = true := by simp; omega
                go_wp2_with fail
                go_region_held3 (fun wx => wx.cell? ⟨w.heap.size, 0, none⟩ = some (.slice x1 ps.length c1) ∧ wx.cell? ⟨w.heap.size, 1, none⟩ = some (.slice (some ⟨b, off, none⟩) ls.length c2) ∧ wx.cell? ⟨b, off + j * 2, none⟩ = some (.int .i64 q) ∧ wx.cell? ⟨b, off + j * 2 + 1, none⟩ = some (.string t)) (exact ⟨cd0, cd1, hc0, hc1⟩) ((go_at_call 46; refine (HC.out _).mono ?_; rintro e wx ⟨rfl, rfl⟩))
                go_wp2_with fail
                go_ret
                rw [HO.out]
                exact ⟨rfl, HBa.out.drew⟩
              · have HA2 : Hid (∀ i (h : i < ls.length), i < j + 1 → 0 ≤ ls[i].1 ∧ ls[i].1 < (ps.length : Int) ∧ ls[i].2.size ≤ 240) := hide (fun i h hi => by
                  by_cases e : i = j
                  · subst e; rw [← HQT.out]; show 0 ≤ q ∧ q < (ps.length : Int) ∧ t.size ≤ 240; omega
                  · exact HA.out i h (by omega))
                have hd1 : decide ((240 : Int) < (t.size : Int)) = false := by simp; omega
                go_wp2_with fail
                go_region_held3 (fun wx => wx.cell? ⟨w.heap.size, 0, none⟩ = some (.slice x1 ps.length c1) ∧ wx.cell? ⟨w.heap.size, 1, none⟩ = some (.slice (some ⟨b, off, none⟩) ls.length c2) ∧ wx.cell? ⟨b, off + j * 2, none⟩ = some (.int .i64 q) ∧ wx.cell? ⟨b, off + j * 2 + 1, none⟩ = some (.string t)) (exact ⟨cd0, cd1, hc0, hc1⟩) ((go_at_call 46; refine (HC.out _).mono ?_; rintro e wx ⟨rfl, rfl⟩))
                go_wp2_with fail
                go_roundg (gk - 1)
                case measure => have := HG2.out; omega
                case rel => exact ⟨j + 1, by omega, by go_num, by have := HG2.out; omega, HA2, HBw.out.drew⟩
            · rw [decide_eq_false hin] at HC
              have HO : Hid (diskOkB ps ls = false) := hide (diskOk_late hjl (by rw [← HQT.out]; show ¬ (0 ≤ q ∧ q < (ps.length : Int) ∧ t.size ≤ 240); omega))
              go_wp2_with fail
              go_quiet ((go_at_call 46; exact Calls.quiet_of_same ((HC.out _).mono (fun _ _ h => ⟨h.1, h.2.symm⟩))))
              go_wp2_with fail
              go_ret
              rw [HO.out]
              exact ⟨rfl, below_drewN HBa.out _⟩
        · have HE : Hid (diskOkB ps ls = decide (4 ≤ ps.length ∧ ps.length ≤ 40 ∧ ls.length ≤ 200)) := hide (diskOk_all HAll.out (fun i h => HA.out i h (by omega)))
          by_cases h4 : 4 ≤ (ps.length : Int) ∧ (ps.length : Int) ≤ 40
          · rw [decide_eq_true h4] at HCi
            have HO : Hid (diskOkB ps ls = decide ((ls.length : Int) ≤ 200)) := hide (by rw [HE.out]; congr 1; simp; omega)
            go_wp2_with fail
            refine (HCi.out _).mono ?_
            rintro e w2 ⟨rfl, rfl⟩
            go_wp2_with fail
            go_ret
            rw [HO.out]
            exact ⟨rfl, HBa.out⟩
          · rw [decide_eq_false h4] at HCi
            have HO : Hid (diskOkB ps ls = false) := hide (by rw [HE.out, decide_eq_false (by omega)])
            go_wp2_with fail
            refine (HCi.out _).mono ?_
            rintro e w2 ⟨rfl, rfl⟩
            go_wp2_with fail
            go_ret
            rw [HO.out]
            exact ⟨rfl, HBa.out⟩
end Go.Proofs.YthpfjfacjlpbdaaDoor

namespace Go.Proofs.YthpfjfacjlpbdaaDoor
open Go.RowKit

/-- the pages of a new disk -/
def newP (n : Int) : List ByteArray := if 4 ≤ n ∧ n ≤ 40 then List.replicate n.toNat ⟨#[]⟩ else []

/-- whether a put is taken -/
def writeOk (ps : List ByteArray) (ls : List (Int × ByteArray)) (page : Int) (text : ByteArray) : Bool := diskOkB ps ls && decide (0 ≤ page ∧ page ≤ (ps.length : Int) - 1) && decide (text.size ≤ 240) && decide (ls.length ≠ 200)

/-- what is late behind it -/
def writeL (ps : List ByteArray) (ls : List (Int × ByteArray)) (page : Int) (text : ByteArray) : List (Int × ByteArray) := if writeOk ps ls page text = true then ls ++ [(page, text)] else ls

theorem writeL_le {ps : List ByteArray} {ls : List (Int × ByteArray)} {page : Int} {text : ByteArray} (h : ls.length ≤ 1048576) : (writeL ps ls page text).length ≤ 1048576 := by
  rw [writeL]
  split
  · next hw =>
    rw [writeOk] at hw
    simp only [Bool.and_eq_true] at hw
    have := (diskOk_yes hw.1.1.1).2.2.2.2
    simp
    omega
  · exact h

/-- the text that is kept of the one at the place k -/
def fallT (torn : Int) (k : Nat) (t : ByteArray) : ByteArray := if (k : Int) = torn then t.extract 0 (t.size / 2) else t

/-- the pages behind the first k of what was late -/
def fallK (left : List Bool) (torn : Int) (ps : List ByteArray) (ls : List (Int × ByteArray)) : Nat → List ByteArray
  | 0 => ps
  | k + 1 => match ls[k]? with
    | some p => if left.getD k false = true then putD (fallK left torn ps ls k) (p.1, fallT torn k p.2) else fallK left torn ps ls k
    | none => fallK left torn ps ls k

theorem fallK_length (left : List Bool) (torn : Int) (ps : List ByteArray) (ls : List (Int × ByteArray)) (k : Nat) : (fallK left torn ps ls k).length = ps.length := by
  induction k with
  | zero => rfl
  | succ k ih =>
    rw [fallK]
    split
    · split
      · rw [putD_length, ih]
      · exact ih
    · exact ih

theorem fallK_put {left : List Bool} {torn : Int} {ps : List ByteArray} {ls : List (Int × ByteArray)} {k : Nat} {q : Int} {t : ByteArray} (h : ls[k]? = some (q, t)) (hl : left.getD k false = true) : fallK left torn ps ls (k + 1) = putD (fallK left torn ps ls k) (q, fallT torn k t) := by
  rw [fallK, h]
  exact if_pos hl

theorem fallK_lost {left : List Bool} {torn : Int} {ps : List ByteArray} {ls : List (Int × ByteArray)} {k : Nat} (hl : left.getD k false = false) : fallK left torn ps ls (k + 1) = fallK left torn ps ls k := by
  rw [fallK]
  split
  · exact if_neg (by rw [hl]; decide)
  · rfl

/-- what falls: the pages, and what is late -/
def fallP (left : List Bool) (torn : Int) (ps : List ByteArray) (ls : List (Int × ByteArray)) : List ByteArray := if diskOkB ps ls = true then fallK left torn ps ls ls.length else ps
def fallL (ps : List ByteArray) (ls : List (Int × ByteArray)) : List (Int × ByteArray) := if diskOkB ps ls = true then [] else ls

end Go.Proofs.YthpfjfacjlpbdaaDoor

namespace Go.Proofs.YthpfjfacjlpbdaaDoor
open Go.RowKit

set_option maxHeartbeats 400000 in
theorem hasPage_any (a : Option Addr) (n cap : Nat) (vl : Value) (page : Int) (w : World) :
    Calls Tryd.prog 85 #[.agg #[.slice a n cap, vl], .int .i64 page] w fun e w' => e = .returned (.bool (decide (0 ≤ page ∧ page < (n : Int)))) ∧ Below w.heap.size w w' := by
  have HB : Hid (∀ o, Below w.heap.size w (w.alloc o)) := hide (fun o => (Below.refl w.heap.size w).alloc (Nat.le_refl _) _)
  by_cases h0 : 0 ≤ page
  · by_cases h1 : page < (n : Int)
    · rw [decide_eq_true (show 0 ≤ page ∧ page < (n : Int) from ⟨h0, h1⟩)]
      have h2 : decide (0 ≤ page) = true := decide_eq_true h0
      have h3 : decide (page < (n : Int)) = true := decide_eq_true h1
      go_enter Tryd.func85, Tryd.ntmps85
      go_wp2
      go_ret
      exact ⟨rfl, HB.out _⟩
    · rw [decide_eq_false (show ¬ (0 ≤ page ∧ page < (n : Int)) from fun h => h1 h.2)]
      have h2 : decide (0 ≤ page) = true := decide_eq_true h0
      have h3 : decide (page < (n : Int)) = false := decide_eq_false h1
      go_enter Tryd.func85, Tryd.ntmps85
      go_wp2
      go_ret
      exact ⟨rfl, HB.out _⟩
  · rw [decide_eq_false (show ¬ (0 ≤ page ∧ page < (n : Int)) from fun h => h0 h.1)]
    have h2 : decide (0 ≤ page) = false := decide_eq_false h0
    go_enter Tryd.func85, Tryd.ntmps85
    go_wp2
    go_ret
    exact ⟨rfl, HB.out _⟩

theorem Tryd.infoDiskI : (Tryd.prog.info? 41).map (fun i => (i.zero, i.size, i.bytes)) = some (some (.agg #[.slice none 0 0, .slice none 0 0]), 2, 48) := by kernel_rfl

set_option maxHeartbeats 2000000 in
set_option maxRecDepth 100000 in
theorem implReadPage_any (v : Value) (ps : List ByteArray) (ls : List (Int × ByteArray)) (_hp : ps.length ≤ 1048576) (hl : ls.length ≤ 1048576) (hps : ∀ s ∈ ps, s.size ≤ 1048576) (hls : ∀ p ∈ ls, p.2.size ≤ 1048576) (page : Int) (w : World) (hd : DiskAt w v ps ls) :
    Calls Tryd.prog 58 #[v, .int .i64 page] w fun e w' => e = .returned (.string (readD ps ls page)) ∧ Below w.heap.size w w' := by
  obtain ⟨vp, vl, rfl, h1, h2⟩ := hd
  obtain ⟨x1, c1, rfl⟩ : ∃ a cap, vp = .slice a ps.length cap := by obtain ⟨-, a, cap, e, -⟩ := h1; exact ⟨a, cap, e⟩
  obtain ⟨x2, c2, rfl⟩ : ∃ a cap, vl = .slice a ls.length cap := by obtain ⟨-, a, cap, e, -⟩ := h2; exact ⟨a, cap, e⟩
  have H1 := hide h1
  have H2 := hide h2
  have HPs := hide hps
  have HLs := hide hls
  clear h1 h2 hps hls
  have HC := hide (hasPage_any x1 ps.length c1 (.slice x2 ls.length c2) page)
  obtain ⟨w0, hw0⟩ : ∃ w0, w0 = w.alloc (Obj.cells #[.slice x1 ps.length c1, .slice x2 ls.length c2] 41) := ⟨_, rfl⟩
  have hb0 : Below w.heap.size w w0 := by rw [hw0]; exact (Below.refl w.heap.size w).alloc (Nat.le_refl _) _
  have hblk : w0.heap[w.heap.size]? = some (Obj.cells #[.slice x1 ps.length c1, .slice x2 ls.length c2] 41) := by rw [hw0]; exact heap_alloc_new w _
  have HB0 := hide hb0
  have HBk := hide hblk
  clear hb0 hblk
  by_cases hin : 0 ≤ page ∧ page < (ps.length : Int)
  · rw [decide_eq_true hin] at HC
    go_enter Tryd.func58, Tryd.ntmps58
    go_wp2_with fail
    rw [← hw0]
    clear hw0
    refine (HC.out _).mono ?_
    rintro e w1 ⟨rfl, hb1⟩
    have hblk1 : w1.heap[w.heap.size]? = some (Obj.cells #[.slice x1 ps.length c1, .slice x2 ls.length c2] 41) := (hb1.block _ (Array.getElem?_eq_some_iff.1 HBk.out).1).trans HBk.out
    have HB1 : Hid (Below w.heap.size w w1) := hide (HB0.out.trans (hb1.mono HB0.out.size))
    have cb0 : w1.cell? ⟨w.heap.size, 0, none⟩ = some (.slice x1 ps.length c1) := (cell_at hblk1 0).1
    have cb1 : w1.cell? ⟨w.heap.size, 1, none⟩ = some (.slice x2 ls.length c2) := (cell_at hblk1 1).1
    clear hb1 hblk1
    go_wp2_with fail
    go_loopg [5] ls.length (fun q iv wr => ∃ k : Nat, k ≤ ls.length ∧ iv = .int .i64 ((k : Int) - 1) ∧ q = k ∧ Hid (lateAt ls page ls.length = lateAt ls page k) ∧ w1 = wr)
    case atStart => exact ⟨ls.length, Nat.le_refl _, rfl, rfl, hide rfl, rfl⟩
    case round =>
      obtain ⟨k, hk, rfl, hgk, HL, rfl⟩ := hrel
      have HGk := hide hgk
      clear hgk
      by_cases hk0 : k = 0
      · subst hk0
        have HO : Hid (readD ps ls page = ps.getD page.toNat ⟨#[]⟩) := hide (readD_page (by omega) (by rw [HL.out]; rfl))
        obtain ⟨n, hn⟩ := Int.eq_ofNat_of_zero_le hin.1
        have hnl : n < ps.length := by omega
        obtain ⟨x, hx⟩ : ∃ x, x = ps.getD page.toNat ⟨#[]⟩ := ⟨_, rfl⟩
        rcases H1.out.2 with ⟨a, cap, e, h0 | ⟨b, off, e2, hbl, hc⟩⟩
        · omega
        · injection e with e1 e3 e4
          subst e1 e4
          subst e2
          have hxe : x = ps[n] := by rw [hx, hn]; simp [List.getD, hnl]
          have hcell : w1.cell? ⟨b, off + n, none⟩ = some (.string x) := by
            rw [HB1.out.cell (by exact hbl), hc n (by omega), strs_at ps n hnl, hxe]
          have hxs : x.size ≤ 1048576 := by rw [hxe]; exact HPs.out _ (List.getElem_mem hnl)
          have HCl := hide (clone_any x (by omega))
          rw [← hx] at HO
          subst hn
          have hi0 : (0 : Int) ≤ (n : Int) := by omega
          have hi1 : (n : Int) < (ps.length : Int) := by omega
          clear hx hc hxe
          go_wp2_with fail
          refine (HCl.out _).mono ?_
          rintro e w2 ⟨rfl, hb2⟩
          go_wp2_with fail
          go_ret
          rw [HO.out]
          exact ⟨rfl, HB1.out.trans (hb2.mono HB1.out.size)⟩
      · obtain ⟨j, rfl⟩ : ∃ j, k = j + 1 := ⟨k - 1, by omega⟩
        have hjl : j < ls.length := by omega
        rcases H2.out.2 with ⟨a, cap, e, h0 | ⟨b, off, e2, hbl, hc⟩⟩
        · omega
        · injection e with e1 e3 e4
          subst e1 e4
          subst e2
          obtain ⟨q, t, hqt⟩ : ∃ q t, (q, t) = ls[j] := ⟨_, _, rfl⟩
          have hget : ls[j]? = some (q, t) := by rw [List.getElem?_eq_getElem hjl, hqt]
          have hts : t.size ≤ 1048576 := by have := HLs.out _ (List.getElem_mem hjl); rw [← hqt] at this; exact this
          have hc0 : w1.cell? ⟨b, off + j * 2, none⟩ = some (.int .i64 q) := by rw [HB1.out.cell (by exact hbl), hc (j * 2) (by omega), (puts_at ls j hjl).1, ← hqt]
          have hc1 : w1.cell? ⟨b, off + j * 2 + 1, none⟩ = some (.string t) := by rw [HB1.out.cell (by exact hbl), Nat.add_assoc, hc (j * 2 + 1) (by omega), (puts_at ls j hjl).2, ← hqt]
          have hi0 : (0 : Int) ≤ (j : Int) := by omega
          have hi1 : (j : Int) < (ls.length : Int) := by omega
          have hij : ((j + 1 : Nat) : Int) - 1 = (j : Int) := by omega
          rw [hij]
          have HGet := hide hget
          clear hc hqt hget hij
          by_cases hq : q = page
          · subst hq
            have HO : Hid (readD ps ls q = t) := hide (readD_late (by omega) (by rw [HL.out]; exact lateAt_hit HGet.out))
            have HCl := hide (clone_any t (by omega))
            go_wp2_with fail
            refine (HCl.out _).mono ?_
            rintro e w2 ⟨rfl, hb2⟩
            go_wp2_with fail
            go_ret
            rw [HO.out]
            exact ⟨rfl, HB1.out.trans (hb2.mono HB1.out.size)⟩
          · have HL2 : Hid (lateAt ls page ls.length = lateAt ls page j) := hide (by rw [HL.out]; exact lateAt_miss HGet.out hq)
            go_wp2_with fail
            go_roundg j
            case measure => have := HGk.out; omega
            case rel => exact ⟨j, by omega, by go_num, rfl, HL2, rfl⟩
  · rw [decide_eq_false hin] at HC
    have HO : Hid (readD ps ls page = ⟨#[]⟩) := hide (readD_out (by omega))
    go_enter Tryd.func58, Tryd.ntmps58
    go_wp2_with fail
    rw [← hw0]
    refine (HC.out _).mono ?_
    rintro e w1 ⟨rfl, hb1⟩
    clear hw0
    go_wp2_with fail
    go_ret
    rw [HO.out]
    exact ⟨rfl, HB0.out.trans (hb1.mono HB0.out.size)⟩

theorem diskOk_count {ps : List ByteArray} {ls : List (Int × ByteArray)} (h : ¬ (4 ≤ ps.length ∧ ps.length ≤ 40 ∧ ls.length ≤ 200)) : diskOkB ps ls = false := by
  rw [diskOkB, decide_eq_false h]; simp

end Go.Proofs.YthpfjfacjlpbdaaDoor

namespace Go.Proofs.YthpfjfacjlpbdaaDoor
open Go.RowKit

def BmPost (w : World) (t0 t1 : ByteArray) (e : Ending) (w' : World) : Prop := ∃ m v ok, e = .returned (.tuple #[v, .bool ok]) ∧ BestM t0 t1 m ok ∧ MetaOwn w' w.heap.size v m ∧ Below w.heap.size w w'

set_option maxHeartbeats 8000000 in
set_option maxRecDepth 100000 in
theorem specBestMeta_any (v : Value) (ps : List ByteArray) (ls : List (Int × ByteArray)) (hp : ps.length ≤ 1048576) (hl : ls.length ≤ 1048576) (hps : ∀ s ∈ ps, s.size ≤ 1048576) (hls : ∀ p ∈ ls, p.2.size ≤ 1048576) (w : World) (hd : DiskAt w v ps ls) :
    Calls Tryd.prog 26 #[v] w fun e w' => BmPost w (readD ps ls 0) (readD ps ls 1) e w' := by
  have HP := hide (fun page wx h => specReadPage_any v ps ls hp hl page wx h)
  have HM := hide (fun page wx => specReadMeta_any (readD ps ls page) (readD_small hps hls page) wx)
  have HD := hide hd
  obtain ⟨vp, vl, rfl, h1, h2⟩ := hd
  obtain ⟨xp, cp, rfl⟩ : ∃ a cap, vp = .slice a ps.length cap := by obtain ⟨-, a, cap, e, -⟩ := h1; exact ⟨a, cap, e⟩
  obtain ⟨xl, cl, rfl⟩ : ∃ a cap, vl = .slice a ls.length cap := by obtain ⟨-, a, cap, e, -⟩ := h2; exact ⟨a, cap, e⟩
  obtain ⟨t0, ht0⟩ : ∃ t, t = readD ps ls 0 := ⟨_, rfl⟩
  obtain ⟨t1, ht1⟩ : ∃ t, t = readD ps ls 1 := ⟨_, rfl⟩
  rw [← ht0, ← ht1]
  obtain ⟨np, hnp⟩ : ∃ n, n = ps.length := ⟨_, rfl⟩
  obtain ⟨nl, hnl⟩ : ∃ n, n = ls.length := ⟨_, rfl⟩
  rw [← hnp, ← hnl] at HD HP ⊢
  have HP0 := hide (fun wx h => HP.out 0 wx h)
  have HP1 := hide (fun wx h => HP.out 1 wx h)
  have HM0' := hide (HM.out 0)
  have HM1' := hide (HM.out 1)
  rw [← ht0] at HP0 HM0'
  rw [← ht1] at HP1 HM1'
  clear h1 h2 hp hl hps hls ht0 ht1 hnp hnl HP HM
  obtain ⟨wb, hwb⟩ : ∃ wb, wb = (w.alloc (.cells #[.slice xp np cp, .slice xl nl cl] 41 (0, 0))).alloc (.cells #[.int .i64 0, .int .i64 0, .int .i64 0, .slice none 0 0] 26 (0, 0)) := ⟨_, rfl⟩
  have hbb : Below w.heap.size w wb := by rw [hwb]; exact ((Below.refl _ _).alloc (Nat.le_refl _) _).alloc (by simp) _
  obtain ⟨qd, qr, hs⟩ := two_allocs w (.cells #[.slice xp np cp, .slice xl nl cl] 41 (0, 0)) (.cells #[.int .i64 0, .int .i64 0, .int .i64 0, .slice none 0 0] 26 (0, 0))
  rw [← hwb] at qd qr hs
  have HQd := hide qd
  have HQr := hide qr
  have HWb := hide hs
  have HBb := hide hbb
  clear qd qr hs hbb
  go_enter Tryd.func26, Tryd.ntmps26
  go_wp2_with fail
  rw [← hwb]
  clear hwb
  refine (HP0.out _ (disk_below HD.out HBb.out)).mono ?_
  rintro e w1 ⟨rfl, hb1⟩
  have HB1 : Hid (Below wb.heap.size wb w1) := hide hb1
  have HBw1 : Hid (Below w.heap.size w w1) := hide (HBb.out.trans (hb1.mono HBb.out.size))
  clear hb1
  go_wp2_with fail
  refine (HM0'.out w1).mono ?_
  rintro e w2 ⟨m0, v0, ok0, rfl, hrd0, hmo0, hb2⟩
  obtain ⟨vf0, l0, rfl, ho0⟩ := hmo0
  obtain ⟨tx0, r0, n0, f0⟩ := m0
  dsimp only at ho0 ⊢
  obtain ⟨a0, c0, rfl⟩ := own_slice ho0.1
  have HMo0 : Hid (MetaOwn w2 w1.heap.size (.agg #[.int .i64 tx0, .int .i64 r0, .int .i64 n0, .slice a0 f0.length c0]) ⟨tx0, r0, n0, f0⟩) := hide ⟨_, l0, rfl, ho0⟩
  obtain ⟨F0, hF0⟩ : ∃ F0, F0 = f0.length := ⟨_, rfl⟩
  rw [← hF0] at HMo0 ⊢
  have HR0 := hide hrd0
  have HB2 : Hid (Below wb.heap.size wb w2) := hide (HB1.out.trans (hb2.mono HB1.out.size))
  obtain ⟨w3, hw3⟩ : ∃ w3, w3 = w2.alloc (.cells #[.int .i64 tx0, .int .i64 r0, .int .i64 n0, .slice a0 F0 c0] 26 (0, 0)) := ⟨_, rfl⟩
  have hb3 : Below w2.heap.size w2 w3 := by rw [hw3]; exact (Below.refl _ _).alloc (Nat.le_refl _) _
  obtain ⟨g0, hg0⟩ : ∃ g, g = w2.heap.size := ⟨_, rfl⟩
  have HV0 : Hid (w3.heap[g0]? = some (.cells #[.int .i64 tx0, .int .i64 r0, .int .i64 n0, .slice a0 F0 c0] 26 (0, 0))) := hide (by rw [hw3, hg0]; exact heap_alloc_new w2 _)
  have HB3 : Hid (Below wb.heap.size wb w3) := hide (HB2.out.trans (hb3.mono HB2.out.size))
  have HM3 := hide (metaOwn_below HMo0.out hb3)
  have HBw3 : Hid (Below w.heap.size w w3) := hide (HBb.out.trans (HB3.out.mono HBb.out.size))
  have qd := (HB3.out.block w.heap.size (by have := HWb.out; omega)).trans HQd.out
  have d0 := (cell_at qd 0).1
  have d1 := (cell_at qd 1).1
  rw [hw3] at d0 d1
  have HG0 := hide hg0
  have HL1 : Hid (wb.heap.size ≤ w1.heap.size) := hide HB1.out.size
  clear hrd0 ho0 hb2 hb3 hF0 qd HMo0
  go_wp2_with fail
  rw [← HG0.out]
  try rw [← hw3]
  clear hw3 hg0 d0 d1
  refine (HP1.out _ (disk_below HD.out HBw3.out)).mono ?_
  rintro e w4 ⟨rfl, hb4⟩
  have HB4 : Hid (Below wb.heap.size wb w4) := hide (HB3.out.trans (hb4.mono HB3.out.size))
  have HBw4 : Hid (Below w.heap.size w w4) := hide (HBw3.out.trans (hb4.mono HBw3.out.size))
  have HV4 := hide ((hb4.block g0 (Array.getElem?_eq_some_iff.1 HV0.out).1).trans HV0.out)
  have HM4 := hide (metaOwn_below HM3.out hb4)
  clear hb4
  go_wp2_with fail
  refine (HM1'.out w4).mono ?_
  rintro e w5 ⟨m1, v1, ok1, rfl, hrd1, hmo1, hb5⟩
  obtain ⟨vf1, l1, rfl, ho1⟩ := hmo1
  obtain ⟨tx1, r1, n1, f1⟩ := m1
  dsimp only at ho1 ⊢
  obtain ⟨a1, c1, rfl⟩ := own_slice ho1.1
  have HMo1 : Hid (MetaOwn w5 w4.heap.size (.agg #[.int .i64 tx1, .int .i64 r1, .int .i64 n1, .slice a1 f1.length c1]) ⟨tx1, r1, n1, f1⟩) := hide ⟨_, l1, rfl, ho1⟩
  obtain ⟨F1, hF1⟩ : ∃ F1, F1 = f1.length := ⟨_, rfl⟩
  rw [← hF1] at HMo1 ⊢
  have HR1 := hide hrd1
  obtain ⟨w6, hw6⟩ : ∃ w6, w6 = w5.alloc (.cells #[.int .i64 tx1, .int .i64 r1, .int .i64 n1, .slice a1 F1 c1] 26 (0, 0)) := ⟨_, rfl⟩
  have hb6 : Below w5.heap.size w5 w6 := by rw [hw6]; exact (Below.refl _ _).alloc (Nat.le_refl _) _
  obtain ⟨g1, hg1⟩ : ∃ g, g = w5.heap.size := ⟨_, rfl⟩
  have hV1 : w6.heap[g1]? = some (.cells #[.int .i64 tx1, .int .i64 r1, .int .i64 n1, .slice a1 F1 c1] 26 (0, 0)) := by rw [hw6, hg1]; exact heap_alloc_new w5 _
  have hV0 := (hb6.block g0 (Nat.lt_of_lt_of_le (Array.getElem?_eq_some_iff.1 HV4.out).1 hb5.size)).trans ((hb5.block g0 (Array.getElem?_eq_some_iff.1 HV4.out).1).trans HV4.out)
  have hB6 : Below wb.heap.size wb w6 := (HB4.out.trans (hb5.mono HB4.out.size)).trans (hb6.mono (by have := HB4.out.size; have := hb5.size; omega))
  have HM0 : Hid (MetaOwn w6 wb.heap.size (.agg #[.int .i64 tx0, .int .i64 r0, .int .i64 n0, .slice a0 F0 c0]) ⟨tx0, r0, n0, f0⟩) := hide (metaOwn_down (metaOwn_below (metaOwn_below HM4.out hb5) hb6) HL1.out)
  have HM1 : Hid (MetaOwn w6 wb.heap.size (.agg #[.int .i64 tx1, .int .i64 r1, .int .i64 n1, .slice a1 F1 c1]) ⟨tx1, r1, n1, f1⟩) := hide (metaOwn_down (metaOwn_below HMo1.out hb6) HB4.out.size)
  have HBw : Hid (Below w.heap.size w w6) := hide (HBb.out.trans (hB6.mono HBb.out.size))
  have ra := (hB6.block (w.heap.size + 1) (by have := HWb.out; omega)).trans HQr.out
  have y0 := (cell_at hV0 0).1
  have y1 := (cell_at hV0 1).1
  have y2 := (cell_at hV0 2).1
  have y3 := (cell_at hV0 3).1
  have a0' := (cell_at ra 0).1
  have a1' := (cell_at ra 1).1
  have a2' := (cell_at ra 2).1
  have a3' := (cell_at ra 3).1
  have z0 := (cell_at ra 0).2
  have z1 := (cell_at ra 1).2
  have z2 := (cell_at ra 2).2
  have z3 := (cell_at ra 3).2
  have x0 := (cell_at hV1 0).1
  have x1 := (cell_at hV1 1).1
  have x2 := (cell_at hV1 2).1
  have x3 := (cell_at hV1 3).1
  have HRA := hide ra
  have HW6 := hide hw6
  rw [hw6] at y0 y1 y2 y3 a0' a1' a2' a3' z0 z1 z2 z3 x0 x1 x2 x3
  rw [hg1] at x0 x1 x2 x3
  have n1' : g0 ≠ w.heap.size + 1 := by have h1 := HWb.out; have h2 := HB2.out.size; have h3 := HG0.out; omega
  clear hrd1 ho1 hb5 hb6 hF1 HMo1 hV0 hV1 ra hB6 hg1 hw6
  cases ok0 with
  | true =>
    cases ok1 with
    | true =>
      by_cases hle : tx1 ≤ tx0
      · have d1 : decide (tx1 ≤ tx0) = true := decide_eq_true hle
        have HBm : Hid (BestM t0 t1 ⟨tx0, r0, n0, f0⟩ true) := hide ⟨_, _, _, _, HR0.out, HR1.out, by rw [bestOf, if_pos ⟨rfl, Or.inr hle⟩]⟩
        clear hle
        go_wp2_with fail
        rw [← HW6.out]
        have hrt := ret_meta (m := ⟨tx0, r0, n0, f0⟩) HRA.out (metaOwn_down HM0.out (show w.heap.size + 1 + 1 ≤ wb.heap.size by have := HWb.out; omega)) (by omega)
        have t0 := (cell_at hrt.1 0).1
        have t1 := (cell_at hrt.1 1).1
        have t2 := (cell_at hrt.1 2).1
        have t3 := (cell_at hrt.1 3).1
        dsimp only at t0 t1 t2 t3
        refine bodyPost_ret (v := .tuple #[.agg #[.int .i64 tx0, .int .i64 r0, .int .i64 n0, .slice a0 F0 c0], .bool true]) (by simp [results, Tryd.results26, go_sem, t0, t1, t2, t3]) rfl ⟨⟨tx0, r0, n0, f0⟩, _, true, rfl, HBm.out, metaOwn_down hrt.2.1 (by omega), HBw.out.trans (hrt.2.2.mono (by have := HBw.out.size; omega))⟩
      · have d1 : decide (tx1 ≤ tx0) = false := decide_eq_false hle
        have HBm : Hid (BestM t0 t1 ⟨tx1, r1, n1, f1⟩ true) := hide ⟨_, _, _, _, HR0.out, HR1.out, by rw [bestOf, if_neg (fun h => by rcases h.2 with h | h; cases h; exact hle h), if_pos rfl]⟩
        clear hle
        go_wp2_with fail
        rw [← HW6.out]
        have hrt := ret_meta (m := ⟨tx1, r1, n1, f1⟩) HRA.out (metaOwn_down HM1.out (show w.heap.size + 1 + 1 ≤ wb.heap.size by have := HWb.out; omega)) (by omega)
        have t0 := (cell_at hrt.1 0).1
        have t1 := (cell_at hrt.1 1).1
        have t2 := (cell_at hrt.1 2).1
        have t3 := (cell_at hrt.1 3).1
        dsimp only at t0 t1 t2 t3
        refine bodyPost_ret (v := .tuple #[.agg #[.int .i64 tx1, .int .i64 r1, .int .i64 n1, .slice a1 F1 c1], .bool true]) (by simp [results, Tryd.results26, go_sem, t0, t1, t2, t3]) rfl ⟨⟨tx1, r1, n1, f1⟩, _, true, rfl, HBm.out, metaOwn_down hrt.2.1 (by omega), HBw.out.trans (hrt.2.2.mono (by have := HBw.out.size; omega))⟩
    | false =>
      have HBm : Hid (BestM t0 t1 ⟨tx0, r0, n0, f0⟩ true) := hide ⟨_, _, _, _, HR0.out, HR1.out, by rw [bestOf, if_pos ⟨rfl, Or.inl rfl⟩]⟩
      go_wp2_with fail
      rw [← HW6.out]
      have hrt := ret_meta (m := ⟨tx0, r0, n0, f0⟩) HRA.out (metaOwn_down HM0.out (show w.heap.size + 1 + 1 ≤ wb.heap.size by have := HWb.out; omega)) (by omega)
      have t0 := (cell_at hrt.1 0).1
      have t1 := (cell_at hrt.1 1).1
      have t2 := (cell_at hrt.1 2).1
      have t3 := (cell_at hrt.1 3).1
      dsimp only at t0 t1 t2 t3
      refine bodyPost_ret (v := .tuple #[.agg #[.int .i64 tx0, .int .i64 r0, .int .i64 n0, .slice a0 F0 c0], .bool true]) (by simp [results, Tryd.results26, go_sem, t0, t1, t2, t3]) rfl ⟨⟨tx0, r0, n0, f0⟩, _, true, rfl, HBm.out, metaOwn_down hrt.2.1 (by omega), HBw.out.trans (hrt.2.2.mono (by have := HBw.out.size; omega))⟩
  | false =>
    cases ok1 with
    | true =>
      have HBm : Hid (BestM t0 t1 ⟨tx1, r1, n1, f1⟩ true) := hide ⟨_, _, _, _, HR0.out, HR1.out, by rw [bestOf, if_neg (fun h => by cases h.1), if_pos rfl]⟩
      go_wp2_with fail
      rw [← HW6.out]
      have hrt := ret_meta (m := ⟨tx1, r1, n1, f1⟩) HRA.out (metaOwn_down HM1.out (show w.heap.size + 1 + 1 ≤ wb.heap.size by have := HWb.out; omega)) (by omega)
      have t0 := (cell_at hrt.1 0).1
      have t1 := (cell_at hrt.1 1).1
      have t2 := (cell_at hrt.1 2).1
      have t3 := (cell_at hrt.1 3).1
      dsimp only at t0 t1 t2 t3
      refine bodyPost_ret (v := .tuple #[.agg #[.int .i64 tx1, .int .i64 r1, .int .i64 n1, .slice a1 F1 c1], .bool true]) (by simp [results, Tryd.results26, go_sem, t0, t1, t2, t3]) rfl ⟨⟨tx1, r1, n1, f1⟩, _, true, rfl, HBm.out, metaOwn_down hrt.2.1 (by omega), HBw.out.trans (hrt.2.2.mono (by have := HBw.out.size; omega))⟩
    | false =>
      have HBm : Hid (BestM t0 t1 ⟨0, 0, 0, []⟩ false) := hide ⟨_, _, _, _, HR0.out, HR1.out, by rw [bestOf, if_neg (fun h => by cases h.1), if_neg (fun h => by cases h)]; rfl⟩
      go_wp2_with fail
      rw [← HW6.out]
      have hrt := ret_meta (m := ⟨0, 0, 0, []⟩) HRA.out (zero_own w6 (w.heap.size + 1 + 1)) (by omega)
      have t0 := (cell_at hrt.1 0).1
      have t1 := (cell_at hrt.1 1).1
      have t2 := (cell_at hrt.1 2).1
      have t3 := (cell_at hrt.1 3).1
      dsimp only at t0 t1 t2 t3
      refine bodyPost_ret (v := .tuple #[.agg #[.int .i64 0, .int .i64 0, .int .i64 0, .slice none 0 0], .bool false]) (by simp [results, Tryd.results26, go_sem, t0, t1, t2, t3]) rfl ⟨⟨0, 0, 0, []⟩, _, false, rfl, HBm.out, metaOwn_down hrt.2.1 (by omega), HBw.out.trans (hrt.2.2.mono (by have := HBw.out.size; omega))⟩

set_option maxHeartbeats 8000000 in
set_option maxRecDepth 100000 in
theorem implBestMeta_any (v : Value) (ps : List ByteArray) (ls : List (Int × ByteArray)) (hp : ps.length ≤ 1048576) (hl : ls.length ≤ 1048576) (hps : ∀ s ∈ ps, s.size ≤ 1048576) (hls : ∀ p ∈ ls, p.2.size ≤ 1048576) (w : World) (hT : SumTab w) (hE : ErrTab w) (hd : DiskAt w v ps ls) :
    Calls Tryd.prog 24 #[v] w fun e w' => BmPost w (readD ps ls 0) (readD ps ls 1) e w' := by
  have HT := hide (⟨hT, hE⟩ : _ ∧ _)
  clear hT hE
  have HP := hide (fun page wx h => implReadPage_any v ps ls hp hl hps hls page wx h)
  have HM := hide (fun page wx h h' => implReadMeta_any (readD ps ls page) (readD_small hps hls page) wx h h')
  have HD := hide hd
  obtain ⟨vp, vl, rfl, h1, h2⟩ := hd
  obtain ⟨xp, cp, rfl⟩ : ∃ a cap, vp = .slice a ps.length cap := by obtain ⟨-, a, cap, e, -⟩ := h1; exact ⟨a, cap, e⟩
  obtain ⟨xl, cl, rfl⟩ : ∃ a cap, vl = .slice a ls.length cap := by obtain ⟨-, a, cap, e, -⟩ := h2; exact ⟨a, cap, e⟩
  obtain ⟨t0, ht0⟩ : ∃ t, t = readD ps ls 0 := ⟨_, rfl⟩
  obtain ⟨t1, ht1⟩ : ∃ t, t = readD ps ls 1 := ⟨_, rfl⟩
  rw [← ht0, ← ht1]
  obtain ⟨np, hnp⟩ : ∃ n, n = ps.length := ⟨_, rfl⟩
  obtain ⟨nl, hnl⟩ : ∃ n, n = ls.length := ⟨_, rfl⟩
  rw [← hnp, ← hnl] at HD HP ⊢
  have HP0 := hide (fun wx h => HP.out 0 wx h)
  have HP1 := hide (fun wx h => HP.out 1 wx h)
  have HM0' := hide (HM.out 0)
  have HM1' := hide (HM.out 1)
  rw [← ht0] at HP0 HM0'
  rw [← ht1] at HP1 HM1'
  clear h1 h2 hp hl hps hls ht0 ht1 hnp hnl HP HM
  obtain ⟨wb, hwb⟩ : ∃ wb, wb = (w.alloc (.cells #[.slice xp np cp, .slice xl nl cl] 41 (0, 0))).alloc (.cells #[.int .i64 0, .int .i64 0, .int .i64 0, .slice none 0 0] 26 (0, 0)) := ⟨_, rfl⟩
  have hbb : Below w.heap.size w wb := by rw [hwb]; exact ((Below.refl _ _).alloc (Nat.le_refl _) _).alloc (by simp) _
  obtain ⟨qd, qr, hs⟩ := two_allocs w (.cells #[.slice xp np cp, .slice xl nl cl] 41 (0, 0)) (.cells #[.int .i64 0, .int .i64 0, .int .i64 0, .slice none 0 0] 26 (0, 0))
  rw [← hwb] at qd qr hs
  have HQd := hide qd
  have HQr := hide qr
  have HWb := hide hs
  have HBb := hide hbb
  clear qd qr hs hbb
  go_enter Tryd.func24, Tryd.ntmps24
  go_wp2_with fail
  rw [← hwb]
  clear hwb
  refine (HP0.out _ (disk_below HD.out HBb.out)).mono ?_
  rintro e w1 ⟨rfl, hb1⟩
  have HB1 : Hid (Below wb.heap.size wb w1) := hide hb1
  have HBw1 : Hid (Below w.heap.size w w1) := hide (HBb.out.trans (hb1.mono HBb.out.size))
  clear hb1
  go_wp2_with fail
  refine (HM0'.out w1 (sumTab_below HT.out.1 HBw1.out) (errTab_below HT.out.2 HBw1.out)).mono ?_
  rintro e w2 ⟨m0, v0, ok0, rfl, hrd0, hmo0, hb2⟩
  obtain ⟨vf0, l0, rfl, ho0⟩ := hmo0
  obtain ⟨tx0, r0, n0, f0⟩ := m0
  dsimp only at ho0 ⊢
  obtain ⟨a0, c0, rfl⟩ := own_slice ho0.1
  have HMo0 : Hid (MetaOwn w2 w1.heap.size (.agg #[.int .i64 tx0, .int .i64 r0, .int .i64 n0, .slice a0 f0.length c0]) ⟨tx0, r0, n0, f0⟩) := hide ⟨_, l0, rfl, ho0⟩
  obtain ⟨F0, hF0⟩ : ∃ F0, F0 = f0.length := ⟨_, rfl⟩
  rw [← hF0] at HMo0 ⊢
  have HR0 := hide hrd0
  have HB2 : Hid (Below wb.heap.size wb w2) := hide (HB1.out.trans (hb2.mono HB1.out.size))
  obtain ⟨w3, hw3⟩ : ∃ w3, w3 = w2.alloc (.cells #[.int .i64 tx0, .int .i64 r0, .int .i64 n0, .slice a0 F0 c0] 26 (0, 0)) := ⟨_, rfl⟩
  have hb3 : Below w2.heap.size w2 w3 := by rw [hw3]; exact (Below.refl _ _).alloc (Nat.le_refl _) _
  obtain ⟨g0, hg0⟩ : ∃ g, g = w2.heap.size := ⟨_, rfl⟩
  have HV0 : Hid (w3.heap[g0]? = some (.cells #[.int .i64 tx0, .int .i64 r0, .int .i64 n0, .slice a0 F0 c0] 26 (0, 0))) := hide (by rw [hw3, hg0]; exact heap_alloc_new w2 _)
  have HB3 : Hid (Below wb.heap.size wb w3) := hide (HB2.out.trans (hb3.mono HB2.out.size))
  have HM3 := hide (metaOwn_below HMo0.out hb3)
  have HBw3 : Hid (Below w.heap.size w w3) := hide (HBb.out.trans (HB3.out.mono HBb.out.size))
  have qd := (HB3.out.block w.heap.size (by have := HWb.out; omega)).trans HQd.out
  have d0 := (cell_at qd 0).1
  have d1 := (cell_at qd 1).1
  rw [hw3] at d0 d1
  have HG0 := hide hg0
  have HL1 : Hid (wb.heap.size ≤ w1.heap.size) := hide HB1.out.size
  clear hrd0 ho0 hb2 hb3 hF0 qd HMo0
  go_wp2_with fail
  rw [← HG0.out]
  try rw [← hw3]
  clear hw3 hg0 d0 d1
  refine (HP1.out _ (disk_below HD.out HBw3.out)).mono ?_
  rintro e w4 ⟨rfl, hb4⟩
  have HB4 : Hid (Below wb.heap.size wb w4) := hide (HB3.out.trans (hb4.mono HB3.out.size))
  have HBw4 : Hid (Below w.heap.size w w4) := hide (HBw3.out.trans (hb4.mono HBw3.out.size))
  have HV4 := hide ((hb4.block g0 (Array.getElem?_eq_some_iff.1 HV0.out).1).trans HV0.out)
  have HM4 := hide (metaOwn_below HM3.out hb4)
  clear hb4
  go_wp2_with fail
  refine (HM1'.out w4 (sumTab_below HT.out.1 HBw4.out) (errTab_below HT.out.2 HBw4.out)).mono ?_
  rintro e w5 ⟨m1, v1, ok1, rfl, hrd1, hmo1, hb5⟩
  obtain ⟨vf1, l1, rfl, ho1⟩ := hmo1
  obtain ⟨tx1, r1, n1, f1⟩ := m1
  dsimp only at ho1 ⊢
  obtain ⟨a1, c1, rfl⟩ := own_slice ho1.1
  have HMo1 : Hid (MetaOwn w5 w4.heap.size (.agg #[.int .i64 tx1, .int .i64 r1, .int .i64 n1, .slice a1 f1.length c1]) ⟨tx1, r1, n1, f1⟩) := hide ⟨_, l1, rfl, ho1⟩
  obtain ⟨F1, hF1⟩ : ∃ F1, F1 = f1.length := ⟨_, rfl⟩
  rw [← hF1] at HMo1 ⊢
  have HR1 := hide hrd1
  obtain ⟨w6, hw6⟩ : ∃ w6, w6 = w5.alloc (.cells #[.int .i64 tx1, .int .i64 r1, .int .i64 n1, .slice a1 F1 c1] 26 (0, 0)) := ⟨_, rfl⟩
  have hb6 : Below w5.heap.size w5 w6 := by rw [hw6]; exact (Below.refl _ _).alloc (Nat.le_refl _) _
  obtain ⟨g1, hg1⟩ : ∃ g, g = w5.heap.size := ⟨_, rfl⟩
  have hV1 : w6.heap[g1]? = some (.cells #[.int .i64 tx1, .int .i64 r1, .int .i64 n1, .slice a1 F1 c1] 26 (0, 0)) := by rw [hw6, hg1]; exact heap_alloc_new w5 _
  have hV0 := (hb6.block g0 (Nat.lt_of_lt_of_le (Array.getElem?_eq_some_iff.1 HV4.out).1 hb5.size)).trans ((hb5.block g0 (Array.getElem?_eq_some_iff.1 HV4.out).1).trans HV4.out)
  have hB6 : Below wb.heap.size wb w6 := (HB4.out.trans (hb5.mono HB4.out.size)).trans (hb6.mono (by have := HB4.out.size; have := hb5.size; omega))
  have HM0 : Hid (MetaOwn w6 wb.heap.size (.agg #[.int .i64 tx0, .int .i64 r0, .int .i64 n0, .slice a0 F0 c0]) ⟨tx0, r0, n0, f0⟩) := hide (metaOwn_down (metaOwn_below (metaOwn_below HM4.out hb5) hb6) HL1.out)
  have HM1 : Hid (MetaOwn w6 wb.heap.size (.agg #[.int .i64 tx1, .int .i64 r1, .int .i64 n1, .slice a1 F1 c1]) ⟨tx1, r1, n1, f1⟩) := hide (metaOwn_down (metaOwn_below HMo1.out hb6) HB4.out.size)
  have HBw : Hid (Below w.heap.size w w6) := hide (HBb.out.trans (hB6.mono HBb.out.size))
  have ra := (hB6.block (w.heap.size + 1) (by have := HWb.out; omega)).trans HQr.out
  have y0 := (cell_at hV0 0).1
  have y1 := (cell_at hV0 1).1
  have y2 := (cell_at hV0 2).1
  have y3 := (cell_at hV0 3).1
  have a0' := (cell_at ra 0).1
  have a1' := (cell_at ra 1).1
  have a2' := (cell_at ra 2).1
  have a3' := (cell_at ra 3).1
  have z0 := (cell_at ra 0).2
  have z1 := (cell_at ra 1).2
  have z2 := (cell_at ra 2).2
  have z3 := (cell_at ra 3).2
  have x0 := (cell_at hV1 0).1
  have x1 := (cell_at hV1 1).1
  have x2 := (cell_at hV1 2).1
  have x3 := (cell_at hV1 3).1
  have HRA := hide ra
  have HW6 := hide hw6
  rw [hw6] at y0 y1 y2 y3 a0' a1' a2' a3' z0 z1 z2 z3 x0 x1 x2 x3
  rw [hg1] at x0 x1 x2 x3
  have n1' : g0 ≠ w.heap.size + 1 := by have h1 := HWb.out; have h2 := HB2.out.size; have h3 := HG0.out; omega
  clear hrd1 ho1 hb5 hb6 hF1 HMo1 hV0 hV1 ra hB6 hg1 hw6
  cases ok1 with
  | true =>
    cases ok0 with
    | true =>
      by_cases hle : tx0 < tx1
      · have d1 : decide (tx0 < tx1) = true := decide_eq_true hle
        have HBm : Hid (BestM t0 t1 ⟨tx1, r1, n1, f1⟩ true) := hide ⟨_, _, _, _, HR0.out, HR1.out, by rw [bestOf, if_neg (fun h => by rcases h.2 with h | h; cases h; exact absurd hle (Int.not_lt.2 h)), if_pos rfl]⟩
        clear hle
        go_wp2_with fail
        rw [← HW6.out]
        have hrt := ret_meta (m := ⟨tx1, r1, n1, f1⟩) HRA.out (metaOwn_down HM1.out (show w.heap.size + 1 + 1 ≤ wb.heap.size by have := HWb.out; omega)) (by omega)
        have t0 := (cell_at hrt.1 0).1
        have t1 := (cell_at hrt.1 1).1
        have t2 := (cell_at hrt.1 2).1
        have t3 := (cell_at hrt.1 3).1
        dsimp only at t0 t1 t2 t3
        refine bodyPost_ret (v := .tuple #[.agg #[.int .i64 tx1, .int .i64 r1, .int .i64 n1, .slice a1 F1 c1], .bool true]) (by simp [results, Tryd.results24, go_sem, t0, t1, t2, t3]) rfl ⟨⟨tx1, r1, n1, f1⟩, _, true, rfl, HBm.out, metaOwn_down hrt.2.1 (by omega), HBw.out.trans (hrt.2.2.mono (by have := HBw.out.size; omega))⟩
      · have d1 : decide (tx0 < tx1) = false := decide_eq_false hle
        have HBm : Hid (BestM t0 t1 ⟨tx0, r0, n0, f0⟩ true) := hide ⟨_, _, _, _, HR0.out, HR1.out, by rw [bestOf, if_pos ⟨rfl, Or.inr (Int.not_lt.1 hle)⟩]⟩
        clear hle
        go_wp2_with fail
        rw [← HW6.out]
        have hrt := ret_meta (m := ⟨tx0, r0, n0, f0⟩) HRA.out (metaOwn_down HM0.out (show w.heap.size + 1 + 1 ≤ wb.heap.size by have := HWb.out; omega)) (by omega)
        have t0 := (cell_at hrt.1 0).1
        have t1 := (cell_at hrt.1 1).1
        have t2 := (cell_at hrt.1 2).1
        have t3 := (cell_at hrt.1 3).1
        dsimp only at t0 t1 t2 t3
        refine bodyPost_ret (v := .tuple #[.agg #[.int .i64 tx0, .int .i64 r0, .int .i64 n0, .slice a0 F0 c0], .bool true]) (by simp [results, Tryd.results24, go_sem, t0, t1, t2, t3]) rfl ⟨⟨tx0, r0, n0, f0⟩, _, true, rfl, HBm.out, metaOwn_down hrt.2.1 (by omega), HBw.out.trans (hrt.2.2.mono (by have := HBw.out.size; omega))⟩
    | false =>
      have HBm : Hid (BestM t0 t1 ⟨tx1, r1, n1, f1⟩ true) := hide ⟨_, _, _, _, HR0.out, HR1.out, by rw [bestOf, if_neg (fun h => by cases h.1), if_pos rfl]⟩
      go_wp2_with fail
      rw [← HW6.out]
      have hrt := ret_meta (m := ⟨tx1, r1, n1, f1⟩) HRA.out (metaOwn_down HM1.out (show w.heap.size + 1 + 1 ≤ wb.heap.size by have := HWb.out; omega)) (by omega)
      have t0 := (cell_at hrt.1 0).1
      have t1 := (cell_at hrt.1 1).1
      have t2 := (cell_at hrt.1 2).1
      have t3 := (cell_at hrt.1 3).1
      dsimp only at t0 t1 t2 t3
      refine bodyPost_ret (v := .tuple #[.agg #[.int .i64 tx1, .int .i64 r1, .int .i64 n1, .slice a1 F1 c1], .bool true]) (by simp [results, Tryd.results24, go_sem, t0, t1, t2, t3]) rfl ⟨⟨tx1, r1, n1, f1⟩, _, true, rfl, HBm.out, metaOwn_down hrt.2.1 (by omega), HBw.out.trans (hrt.2.2.mono (by have := HBw.out.size; omega))⟩
  | false =>
    cases ok0 with
    | true =>
      have HBm : Hid (BestM t0 t1 ⟨tx0, r0, n0, f0⟩ true) := hide ⟨_, _, _, _, HR0.out, HR1.out, by rw [bestOf, if_pos ⟨rfl, Or.inl rfl⟩]⟩
      go_wp2_with fail
      rw [← HW6.out]
      have hrt := ret_meta (m := ⟨tx0, r0, n0, f0⟩) HRA.out (metaOwn_down HM0.out (show w.heap.size + 1 + 1 ≤ wb.heap.size by have := HWb.out; omega)) (by omega)
      have t0 := (cell_at hrt.1 0).1
      have t1 := (cell_at hrt.1 1).1
      have t2 := (cell_at hrt.1 2).1
      have t3 := (cell_at hrt.1 3).1
      dsimp only at t0 t1 t2 t3
      refine bodyPost_ret (v := .tuple #[.agg #[.int .i64 tx0, .int .i64 r0, .int .i64 n0, .slice a0 F0 c0], .bool true]) (by simp [results, Tryd.results24, go_sem, t0, t1, t2, t3]) rfl ⟨⟨tx0, r0, n0, f0⟩, _, true, rfl, HBm.out, metaOwn_down hrt.2.1 (by omega), HBw.out.trans (hrt.2.2.mono (by have := HBw.out.size; omega))⟩
    | false =>
      have HBm : Hid (BestM t0 t1 ⟨tx0, r0, n0, f0⟩ false) := hide ⟨_, _, _, _, HR0.out, HR1.out, by rw [bestOf, if_neg (fun h => by cases h.1), if_neg (fun h => by cases h), readM_false HR0.out]⟩
      go_wp2_with fail
      rw [← HW6.out]
      have hrt := ret_meta (m := ⟨tx0, r0, n0, f0⟩) HRA.out (metaOwn_down HM0.out (show w.heap.size + 1 + 1 ≤ wb.heap.size by have := HWb.out; omega)) (by omega)
      have t0 := (cell_at hrt.1 0).1
      have t1 := (cell_at hrt.1 1).1
      have t2 := (cell_at hrt.1 2).1
      have t3 := (cell_at hrt.1 3).1
      dsimp only at t0 t1 t2 t3
      refine bodyPost_ret (v := .tuple #[.agg #[.int .i64 tx0, .int .i64 r0, .int .i64 n0, .slice a0 F0 c0], .bool false]) (by simp [results, Tryd.results24, go_sem, t0, t1, t2, t3]) rfl ⟨⟨tx0, r0, n0, f0⟩, _, false, rfl, HBm.out, metaOwn_down hrt.2.1 (by omega), HBw.out.trans (hrt.2.2.mono (by have := HBw.out.size; omega))⟩
end Go.Proofs.YthpfjfacjlpbdaaDoor

namespace Go.Proofs.YthpfjfacjlpbdaaDoor
open Go.RowKit

/-- the mark of the i-th free's number -/
def kAt (k0 : Nat) (fs : List (Int × List Int)) (i : Nat) : Nat := k0 + i + sumF fs i

def marksF (k0 : Nat) (fs : List (Int × List Int)) : List (Int × List Int) := (List.range fs.length).map fun i => (((kAt k0 fs i : Nat) : Int), marksI (kAt k0 fs i + 1) (fs.getD i (0, [])).2.length)

theorem marksF_length (k0 : Nat) (fs : List (Int × List Int)) : (marksF k0 fs).length = fs.length := by simp [marksF]

theorem marksF_at {k0 : Nat} {fs : List (Int × List Int)} {k : Nat} {tx : Int} {ps : List Int} (h : fs[k]? = some (tx, ps)) : (marksF k0 fs)[k]? = some (((kAt k0 fs k : Nat) : Int), marksI (kAt k0 fs k + 1) ps.length) := by
  have hk : k < fs.length := (List.getElem?_eq_some_iff.1 h).1
  simp [marksF, hk]
  have : fs[k] = (tx, ps) := by have := List.getElem?_eq_getElem hk; rw [h] at this; exact (Option.some.inj this).symm
  rw [this]

theorem kAt_next {k0 : Nat} {fs : List (Int × List Int)} {k : Nat} {tx : Int} {ps : List Int} (h : fs[k]? = some (tx, ps)) : kAt k0 fs (k + 1) = kAt k0 fs k + 1 + ps.length := by
  unfold kAt
  rw [sumF_succ fs k h]
  omega

theorem kAt_le (k0 : Nat) (fs : List (Int × List Int)) (k : Nat) (hk : k ≤ fs.length) : kAt k0 fs k ≤ k0 + bulkF fs := by
  unfold kAt bulkF
  have := sumF_mono fs k
  omega

theorem ownF_setTx {w : World} {B g n cap k : Nat} {m : List (Int × Value)} {fs : List (Int × List Int)} {tx x : Int} {ps : List Int} {p : Int × Value} (h : OwnF w B (.slice (some ⟨g, 0, none⟩) n cap) m fs) (hn : n = fs.length) (hf : fs[k]? = some (tx, ps)) (hp : m[k]? = some p) :
    OwnF (w.setCell ⟨g, k * 2, none⟩ (.int .i64 x)) B (.slice (some ⟨g, 0, none⟩) n cap) (m.set k (x, p.2)) (fs.set k (x, ps)) := by
  subst hn
  have hkf : k < fs.length := (List.getElem?_eq_some_iff.1 hf).1
  have hkm : k < m.length := (List.getElem?_eq_some_iff.1 hp).1
  have kp : Kept w (w.setCell ⟨g, k * 2, none⟩ (.int .i64 x)) (fun b => b = g) := kept_setCell _ _ _ _
  refine ⟨?_, ?_⟩
  · have h1 := (h.1.stored (k * 2) (.int .i64 x)).1
    rw [frs_set0 m k x p hp] at h1
    rw [List.length_set]
    exact h1
  · have hto : OwnTo (w.setCell ⟨g, k * 2, none⟩ (.int .i64 x)) B m fs fs.length := ownTo_kept h.2 kp (fun i q b hi hq hb e => by
      subst e
      exact one_type h.1 (h.2.2.1 i q _ hi hq (List.getElem?_eq_getElem hi)).2 Tryd.free_int b rfl hb)
    refine ⟨by rw [List.length_set, List.length_set]; exact hto.1, fun i q f hi hq hf' => ?_, fun i j q r b hi hj hq hr h1 h2 => ?_⟩
    · rw [List.length_set] at hi
      by_cases e : k = i
      · subst e
        rw [List.getElem?_set_self hkm] at hq
        rw [List.getElem?_set_self hkf] at hf'
        injection hq with hq
        injection hf' with hf'
        subst hq hf'
        exact ⟨rfl, (hto.2.1 k p _ hi hp hf).2⟩
      · rw [List.getElem?_set_ne e] at hq hf'
        exact hto.2.1 i q f hi hq hf'
    · rw [List.length_set] at hi hj
      have back : ∀ (i : Nat) (q : Int × Value), (m.set k (x, p.2))[i]? = some q → ∃ q' : Int × Value, m[i]? = some q' ∧ q'.2 = q.2 := fun i q h => by
        by_cases e : k = i
        · subst e
          rw [List.getElem?_set_self hkm] at h
          injection h with h
          exact ⟨p, hp, by rw [← h]⟩
        · rw [List.getElem?_set_ne e] at h
          exact ⟨q, h, rfl⟩
      obtain ⟨q', a1, a2⟩ := back i q hq
      obtain ⟨r', b1, b2⟩ := back j r hr
      exact hto.2.2 i j q' r' b hi hj a1 b1 (by rw [a2]; exact h1) (by rw [b2]; exact h2)

theorem ownF_setPg {w w' : World} {B k : Nat} {v : Value} {m : List (Int × Value)} {fs : List (Int × List Int)} {x : Int} {ps qs : List Int} {p : Int × Value} (h : OwnF w B v m fs) (hf : fs[k]? = some (x, ps)) (hp : m[k]? = some p)
    (hown : w'.ownsRow B 3 1 p.2 ps.length (ints qs)) (hq : qs.length = ps.length) (hk : Kept w w' (fun b => p.2.ownBlock = some b)) : OwnF w' B v m (fs.set k (x, qs)) := by
  have hkf : k < fs.length := (List.getElem?_eq_some_iff.1 hf).1
  have hpr := h.2.2.1 k p _ hkf hp hf
  refine ⟨?_, by rw [List.length_set]; exact h.2.1, fun i q f hi hq' hf' => ?_, fun i j q r b hi hj => ?_⟩
  · rw [List.length_set]
    exact own_kept h.1 hk (fun b hb e => one_type h.1 hpr.2 Tryd.free_int b hb e)
  · rw [List.length_set] at hi
    by_cases e : k = i
    · subst e
      rw [hp] at hq'
      rw [List.getElem?_set_self hkf] at hf'
      injection hq' with hq'
      injection hf' with hf'
      subst hq' hf'
      exact ⟨hpr.1, by rw [hq]; exact hown⟩
    · rw [List.getElem?_set_ne e] at hf'
      obtain ⟨g1, g2⟩ := h.2.2.1 i q f hi hq' hf'
      exact ⟨g1, own_kept g2 hk (fun b hb e' => e (h.2.2.2 k i p q b hkf hi hp hq' e' hb))⟩
  · rw [List.length_set] at hi hj
    exact h.2.2.2 i j q r b hi hj

theorem freeBlocks_same {v : Value} {m m' : List (Int × Value)} (h : m'.map Prod.snd = m.map Prod.snd) (b : Nat) : freeBlocks v m' b → freeBlocks v m b := by
  rintro (hb | ⟨i, p, hp, hb⟩)
  · exact Or.inl hb
  · have h1 : (m'.map Prod.snd)[i]? = some p.2 := by rw [List.getElem?_map, hp]; rfl
    rw [h, List.getElem?_map] at h1
    obtain ⟨q, h2, h3⟩ := Option.map_eq_some_iff.1 h1
    exact Or.inr ⟨i, q, h2, by rw [h3]; exact hb⟩

set_option maxHeartbeats 4000000 in
set_option maxRecDepth 100000 in
theorem markFreeS_any (fs : List (Int × List Int)) (hl : fs.length ≤ 1000) (hs : ∀ f ∈ fs, f.2.length ≤ 1000) (v : Value) (B k0 : Nat) (hk0 : k0 ≤ 1000) (hbk : bulkF fs ≤ 1000000) (m : List (Int × Value)) (w : World) (ha : OwnF w B v m fs) :
    Calls Tryd.prog 63 #[v, .int .i64 (k0 : Int)] w fun e w' => e = .returned (.int .i64 ((kAt k0 fs fs.length : Nat) : Int)) ∧ ∃ m', m'.map Prod.snd = m.map Prod.snd ∧ OwnF w' B v m' (marksF k0 fs) ∧ Kept w w' (freeBlocks v m) := by
  obtain ⟨a, cap, rfl⟩ := own_slice ha.1
  have HA := hide ha
  have HS := hide hs
  have HKl := hide (fun k hk => kAt_le k0 fs k hk)
  obtain ⟨L, hL⟩ : ∃ L, L = fs.length := ⟨_, rfl⟩
  rw [← hL] at HA HKl hl ⊢
  have HL := hide hL
  clear ha hs hL
  go_enter Tryd.func63, Tryd.ntmps63
  go_wp2
  go_loopg [1, 5] L (fun q kv iv wr => ∃ (k K : Nat) (m' : List (Int × Value)) (gs : List (Int × List Int)), k ≤ L ∧ K ≤ 1001000 ∧ kv = .int .i64 (K : Int) ∧ iv = .int .i64 (k : Int) ∧ q + k = L ∧ Hid (K = kAt k0 fs k) ∧ Hid (m'.map Prod.snd = m.map Prod.snd) ∧ Hid (OwnF wr B (.slice a L cap) m' gs) ∧ Hid (gs.length = L ∧ (∀ j, j < k → gs[j]? = (marksF k0 fs)[j]?) ∧ ∀ j, k ≤ j → gs[j]? = fs[j]?) ∧ Hid (Kept w wr (freeBlocks (.slice a L cap) m)))
  case atStart => exact ⟨0, k0, m, fs, Nat.zero_le _, by omega, rfl, rfl, by omega, hide (by simp [kAt, sumF_zero]), hide rfl, HA, hide ⟨HL.out.symm, fun j h => by omega, fun j _ => rfl⟩, hide (kept_refl _ _)⟩
  case round =>
    obtain ⟨k, K, m', gs, hk, hKl, rfl, rfl, hg, HK, HMm, HOwn, HGs, HKp⟩ := hrel
    have HG := hide hg
    clear hg
    by_cases hlt : k < L
    · obtain ⟨tx, ps, hf⟩ : ∃ tx ps, fs[k]? = some (tx, ps) := ⟨_, _, List.getElem?_eq_getElem (by rw [← HL.out]; exact hlt)⟩
      have hgk : gs[k]? = some (tx, ps) := by rw [HGs.out.2.2 k (Nat.le_refl _)]; exact hf
      have hkg : k < gs.length := (List.getElem?_eq_some_iff.1 hgk).1
      obtain ⟨p, hp⟩ : ∃ p, m'[k]? = some p := ⟨_, List.getElem?_eq_getElem (by rw [HOwn.out.2.1]; exact hkg)⟩
      have hpo := HOwn.out.2.2.1 k p _ hkg hp hgk
      obtain ⟨g, rfl⟩ : ∃ g, a = some ⟨g, 0, none⟩ := by
        rcases HOwn.out.1.2 with ⟨e, h0⟩ | ⟨g, c, cur, e, _⟩
        · have := HGs.out.1; omega
        · injection e with e1; exact ⟨g, e1⟩
      have HO1 := hide (ownF_setTx (x := (K : Int)) HOwn.out HGs.out.1.symm hgk hp)
      have hO := HOwn.out.1
      rw [HGs.out.1] at hO
      have hps : ps.length ≤ 1000 := HS.out _ (List.mem_of_getElem? hf)
      have hkm : k < m'.length := (List.getElem?_eq_some_iff.1 hp).1
      have hp1 : (m'.set k ((K : Int), p.2))[k]? = some ((K : Int), p.2) := List.getElem?_set_self hkm
      have hg1 : (gs.set k ((K : Int), ps))[k]? = some ((K : Int), ps) := List.getElem?_set_self hkg
      have hro := (HO1.out.2.2.1 k _ _ (by rw [List.length_set]; exact hkg) hp1 hg1).2
      have HC := hide (markIntS_row ps (by omega) p.2 B (K + 1) (by omega) _ hro)
      have c0 : wr.cell? ⟨g, k * 2, none⟩ = some (.int .i64 p.1) := by rw [hO.cellAt (k * 2) (by omega), (frs_at m' k p hp).1]
      have c1 : wr.cell? ⟨g, k * 2 + 1, none⟩ = some p.2 := by rw [hO.cellAt (k * 2 + 1) (by omega), (frs_at m' k p hp).2]
      have f0 : wr.frozen? ⟨g, k * 2, none⟩ = false := hO.frozenAt _
      obtain ⟨px, pv⟩ := p
      dsimp only at hpo hro HC c0 c1 hp1 HO1
      obtain ⟨ap, cp, rfl⟩ := own_slice hpo.2
      rw [show ((K + 1 : Nat) : Int) = (K : Int) + 1 from by omega] at HC
      obtain ⟨PL, hPL⟩ : ∃ PL, PL = ps.length := ⟨_, rfl⟩
      have HPL := hide hPL
      have HF := hide (⟨hf, hgk, hp, hp1, hg1⟩ : _ ∧ _ ∧ _ ∧ _ ∧ _)
      have HLm := hide (⟨hkm, hkg⟩ : _ ∧ _)
      have HKn := hide (kAt_next (k0 := k0) hf)
      have HMt := hide (marksF_at (k0 := k0) hf)
      have HKb := hide (HKl.out (k + 1) (by omega))
      rw [← hPL] at HC c1 hps
      have hi0 : (0 : Int) ≤ (k : Int) := by omega
      have hi1 : (k : Int) < (L : Int) := by omega
      clear hf hgk hp hpo hp1 hg1 hro hkm hkg hPL hO
      go_wp2_with fail
      refine HC.out.mono ?_
      rintro e w3 ⟨rfl, hown3, hk3⟩
      have HO3 : Hid (OwnF w3 B (.slice (some ⟨g, 0, none⟩) L cap) (m'.set k ((K : Int), .slice ap ps.length cp)) ((gs.set k ((K : Int), ps)).set k ((K : Int), marksI (K + 1) ps.length))) := hide (ownF_setPg HO1.out HF.out.2.2.2.2 HF.out.2.2.2.1 (by rw [← HPL.out]; exact hown3) (by rw [marksI_length]) (by rw [← HPL.out]; exact hk3))
      have HM3 : Hid ((m'.set k ((K : Int), .slice ap ps.length cp)).map Prod.snd = m.map Prod.snd) := hide (by
        rw [← HMm.out, List.map_set]
        apply List.ext_getElem?
        intro i
        by_cases e : k = i
        · subst e
          rw [List.getElem?_set_self (by rw [List.length_map]; exact HLm.out.1), List.getElem?_map, HF.out.2.2.1]
          rfl
        · rw [List.getElem?_set_ne e])
      have HG3 : Hid (((gs.set k ((K : Int), ps)).set k ((K : Int), marksI (K + 1) ps.length)).length = L ∧ (∀ j, j < k + 1 → ((gs.set k ((K : Int), ps)).set k ((K : Int), marksI (K + 1) ps.length))[j]? = (marksF k0 fs)[j]?) ∧ ∀ j, k + 1 ≤ j → ((gs.set k ((K : Int), ps)).set k ((K : Int), marksI (K + 1) ps.length))[j]? = fs[j]?) := hide (by
        refine ⟨by rw [List.length_set, List.length_set]; exact HGs.out.1, fun j hj => ?_, fun j hj => ?_⟩
        · by_cases e : k = j
          · subst e
            rw [List.getElem?_set_self (by rw [List.length_set]; exact HLm.out.2), HMt.out, HK.out]
          · rw [List.getElem?_set_ne e, List.getElem?_set_ne e]
            exact HGs.out.2.1 j (by omega)
        · rw [List.getElem?_set_ne (by omega), List.getElem?_set_ne (by omega)]
          exact HGs.out.2.2 j (by omega))
      have HK3 : Hid (Kept w w3 (freeBlocks (.slice (some ⟨g, 0, none⟩) L cap) m)) := hide (kept_trans (kept_trans HKp.out (kept_setCell wr g (k * 2) _) (fun j _ h => Or.inl (by rw [h]; rfl))) hk3 (fun j _ h => freeBlocks_same HMm.out j (Or.inr ⟨k, _, HF.out.2.2.1, by rw [← HPL.out]; exact h⟩)))
      have HKe : Hid (K + 1 + PL = kAt k0 fs (k + 1)) := hide (by have h1 := HKn.out; have h2 := HK.out; have h3 := HPL.out; omega)
      have hK2 : K + 1 + PL ≤ 1001000 := by have h1 := HKe.out; have h2 := HKb.out; omega
      clear hown3 hk3 c0 c1 f0
      go_wp2_with fail
      go_roundg (gk - 1)
      case measure => have := HG.out; omega
      case rel => exact ⟨k + 1, K + 1 + PL, _, _, by omega, hK2, by go_num, by go_num, by have := HG.out; omega, HKe, HM3, HO3, HG3, HK3⟩
    · have HE : Hid (K = kAt k0 fs L) := hide (by rw [HK.out, show k = L from by omega])
      have HGe : Hid (gs = marksF k0 fs) := hide (by
        apply List.ext_getElem?
        intro j
        by_cases e : j < k
        · exact HGs.out.2.1 j e
        · rw [List.getElem?_eq_none (by have := HGs.out.1; omega), List.getElem?_eq_none (by rw [marksF_length, ← HL.out]; omega)])
      go_wp2_with fail
      go_ret
      exact ⟨by rw [HE.out]; rfl, m', HMm.out, by rw [← HGe.out]; exact HOwn.out, HKp.out⟩

set_option maxHeartbeats 4000000 in
set_option maxRecDepth 100000 in
theorem heldFreeS_any (fs : List (Int × List Int)) (hl : fs.length ≤ 1000) (hs : ∀ f ∈ fs, f.2.length ≤ 1000) (v : Value) (k0 : Nat) (hk0 : k0 ≤ 1000) (hbk : bulkF fs ≤ 1000000) (w : World) (ha : FreesAt w v (marksF k0 fs)) :
    Calls Tryd.prog 64 #[v, .int .i64 (k0 : Int)] w fun e w' => e = .returned (.int .i64 ((kAt k0 fs fs.length : Nat) : Int)) ∧ Below w.heap.size w w' := by
  obtain ⟨a, cap, rfl⟩ := frees_slice ha
  rw [marksF_length] at ha ⊢
  have HA := hide ha
  have HS := hide hs
  have HKl := hide (fun k hk => kAt_le k0 fs k hk)
  obtain ⟨L, hL⟩ : ∃ L, L = fs.length := ⟨_, rfl⟩
  rw [← hL] at HA HKl hl ⊢
  have HL := hide hL
  clear ha hs hL
  go_enter Tryd.func64, Tryd.ntmps64
  go_wp2
  go_loopg [1, 5] L (fun q kv iv wr => ∃ (k K : Nat), k ≤ L ∧ K ≤ 1001000 ∧ kv = .int .i64 (K : Int) ∧ iv = .int .i64 (k : Int) ∧ q + k = L ∧ Hid (K = kAt k0 fs k) ∧ Below w.heap.size w wr)
  case atStart => exact ⟨0, k0, Nat.zero_le _, by omega, rfl, rfl, by omega, hide (by simp [kAt, sumF_zero]), Below.refl _ _⟩
  case round =>
    obtain ⟨k, K, hk, hKl, rfl, rfl, hg, HK, hb⟩ := hrel
    have HG := hide hg
    clear hg
    by_cases hlt : k < L
    · obtain ⟨tx, ps, hf⟩ : ∃ tx ps, fs[k]? = some (tx, ps) := ⟨_, _, List.getElem?_eq_getElem (by rw [← HL.out]; exact hlt)⟩
      have hm := marksF_at (k0 := k0) hf
      rw [← HK.out] at hm
      obtain ⟨b, off, x, c, rfl, hbl, hc0, hc1, hrow⟩ := frees_at (frees_below HA.out hb) hm
      rw [marksI_length] at hc1 hrow
      have hps : ps.length ≤ 1000 := HS.out _ (List.mem_of_getElem? hf)
      have HC := hide (heldIntS_row ps.length (by omega) (.slice x ps.length c) (K + 1) (by omega) wr hrow)
      rw [show ((K + 1 : Nat) : Int) = (K : Int) + 1 from by omega] at HC
      have HKn := hide (kAt_next (k0 := k0) hf)
      have HKb := hide (HKl.out (k + 1) (by omega))
      obtain ⟨PL, hPL⟩ : ∃ PL, PL = ps.length := ⟨_, rfl⟩
      rw [← hPL] at HC hc1 hps HKn
      have hi0 : (0 : Int) ≤ (k : Int) := by omega
      have hi1 : (k : Int) < (L : Int) := by omega
      have dn : ((K : Int) != (K : Int)) = false := by simp
      clear hf hm hrow hPL
      go_wp2_with fail
      refine HC.out.mono ?_
      rintro e w3 ⟨rfl, hb3⟩
      have hb4 : Below w.heap.size w w3 := hb.trans (hb3.mono hb.size)
      have HKe : Hid (K + 1 + PL = kAt k0 fs (k + 1)) := hide (by have h1 := HKn.out; have h2 := HK.out; omega)
      have hK2 : K + 1 + PL ≤ 1001000 := by have h1 := HKe.out; have h2 := HKb.out; omega
      have dneg : decide (((K + 1 + PL : Nat) : Int) < 0) = false := decide_eq_false (by omega)
      clear hb3
      go_wp2_with fail
      go_roundg (gk - 1)
      case measure => have := HG.out; omega
      case rel => exact ⟨k + 1, K + 1 + PL, by omega, hK2, by go_num, by go_num, by have := HG.out; omega, HKe, hb4⟩
    · have HE : Hid (K = kAt k0 fs L) := hide (by rw [HK.out, show k = L from by omega])
      go_wp2_with fail
      go_ret
      exact ⟨by rw [HE.out]; rfl, hb⟩

set_option maxHeartbeats 1000000 in
theorem markMeta_any (tx root next : Int) (vf : Value) (l : List (Int × Value)) (fs : List (Int × List Int)) (hl : fs.length ≤ 1000) (hs : ∀ f ∈ fs, f.2.length ≤ 1000) (hbk : bulkF fs ≤ 1000000) (B : Nat) (w : World) (ha : OwnF w B vf l fs) :
    Calls Tryd.prog 30 #[.agg #[.int .i64 tx, .int .i64 root, .int .i64 next, vf], .int .i64 1] w fun e w' => e = .returned (.int .i64 ((kAt 1 fs fs.length : Nat) : Int)) ∧ ∃ l', l'.map Prod.snd = l.map Prod.snd ∧ OwnF w' B vf l' (marksF 1 fs) ∧ Kept w w' (freeBlocks vf l) := by
  obtain ⟨w0, hw0⟩ : ∃ w0, w0 = w.alloc (.cells #[.int .i64 tx, .int .i64 root, .int .i64 next, vf] 26 (0, 0)) := ⟨_, rfl⟩
  have hb0 : Below w.heap.size w w0 := by rw [hw0]; exact (Below.refl _ _).alloc (Nat.le_refl _) _
  have HC := hide (markFreeS_any fs hl hs vf B 1 (by omega) hbk l w0 (ownF_stays ha hb0))
  have HB := hide hb0
  obtain ⟨K, hK⟩ : ∃ K, K = kAt 1 fs fs.length := ⟨_, rfl⟩
  rw [← hK] at HC ⊢
  clear ha hb0 hl hs hbk hK
  go_enter Tryd.func30, Tryd.ntmps30
  go_wp2_with fail
  rw [← hw0]
  clear hw0
  refine HC.out.mono ?_
  rintro e w1 ⟨rfl, l', h1, h2, h3⟩
  have HE : Hid (l'.map Prod.snd = l.map Prod.snd ∧ OwnF w1 B vf l' (marksF 1 fs) ∧ Kept w w1 (freeBlocks vf l)) := hide ⟨h1, h2, kept_trans (kept_of_all HB.out _) h3 (fun j _ h => h)⟩
  clear h1 h2 h3
  go_wp2_with fail
  go_ret
  exact ⟨rfl, l', HE.out⟩

set_option maxHeartbeats 1000000 in
theorem heldMeta_any (tx root next : Int) (vf : Value) (fs : List (Int × List Int)) (hl : fs.length ≤ 1000) (hs : ∀ f ∈ fs, f.2.length ≤ 1000) (hbk : bulkF fs ≤ 1000000) (w : World) (ha : FreesAt w vf (marksF 1 fs)) :
    Calls Tryd.prog 31 #[.agg #[.int .i64 tx, .int .i64 root, .int .i64 next, vf], .int .i64 1] w fun e w' => e = .returned (.int .i64 ((kAt 1 fs fs.length : Nat) : Int)) ∧ Below w.heap.size w w' := by
  obtain ⟨w0, hw0⟩ : ∃ w0, w0 = w.alloc (.cells #[.int .i64 tx, .int .i64 root, .int .i64 next, vf] 26 (0, 0)) := ⟨_, rfl⟩
  have hb0 : Below w.heap.size w w0 := by rw [hw0]; exact (Below.refl _ _).alloc (Nat.le_refl _) _
  have HC := hide (heldFreeS_any fs hl hs vf 1 (by omega) hbk w0 (frees_below ha hb0))
  have HB := hide hb0
  obtain ⟨K, hK⟩ : ∃ K, K = kAt 1 fs fs.length := ⟨_, rfl⟩
  rw [← hK] at HC ⊢
  have d1 : decide ((K : Int) < 0) = false := decide_eq_false (by omega)
  clear ha hb0 hl hs hbk hK
  go_enter Tryd.func31, Tryd.ntmps31
  go_wp2_with fail
  rw [← hw0]
  clear hw0
  refine HC.out.mono ?_
  rintro e w1 ⟨rfl, h1⟩
  have HE : Hid (Below w.heap.size w w1) := hide (HB.out.trans (h1.mono HB.out.size))
  clear h1
  go_wp2_with fail
  go_ret
  exact ⟨rfl, HE.out⟩
end Go.Proofs.YthpfjfacjlpbdaaDoor

namespace Go.Proofs.YthpfjfacjlpbdaaDoor
open Go.RowKit

theorem staysM {w w' : World} {g : Nat} {o : Obj} (h : w.heap[g]? = some o) (hb : Below w.heap.size w w') : w'.heap[g]? = some o := (hb.block g (Array.getElem?_eq_some_iff.1 h).1).trans h

theorem readM_small {t : ByteArray} {m : Mt} {ok : Bool} (h : ReadM t m ok) : m.fs.length ≤ 20 ∧ (∀ f ∈ m.fs, f.2.length ≤ 40) ∧ bulkF m.fs ≤ 1000000 := by
  rcases h with ⟨-, h, -⟩ | ⟨-, rfl, -⟩
  · obtain ⟨h1, h2⟩ := ok_parts (good_ok h.1)
    have h3 : ∀ f ∈ m.fs, f.2.length ≤ 40 := fun f hf => (h2 f hf).2.2.2.1
    have h4 := freeNums_len m.fs h3
    refine ⟨h1.2.2.2.2.2, h3, ?_⟩
    have h5 : ∀ fs : List (Int × List Int), bulkF fs ≤ (freeNums fs).length := fun fs => by
      have h6 : ∀ fs : List (Int × List Int), fs.length + (fs.map fun p => p.2.length).sum ≤ (freeNums fs).length := fun fs => by
        induction fs with
        | nil => simp [freeNums]
        | cons f fs ih => rw [freeNums_cons]; simp; omega
      unfold bulkF sumF
      rw [List.take_length]
      exact h6 fs
    have := h5 m.fs
    omega
  · exact ⟨by simp [Mt.none], (fun f hf => by cases hf), by simp [Mt.none, bulkF, sumF]⟩

set_option maxHeartbeats 8000000 in
set_option maxRecDepth 100000 in
theorem lawReadMeta (t : ByteArray) (htm : t.size ≤ maxLen) (w : World) (hT : SumTab w) (hE : ErrTab w) :
    Calls Tryd.prog 6 #[.string t] w fun e w' => e = .returned (.bool true) ∧ Below w.heap.size w w' := by
  unfold maxLen at htm
  by_cases htb : t.size ≤ 1048576
  · have HT := hide (⟨hT, hE⟩ : _ ∧ _)
    have HIm := hide (fun wx h h' => implReadMeta_any t htb wx h h')
    clear hT hE
    go_enter Tryd.func6, Tryd.ntmps6
    go_wp2_with fail
    refine (specReadMeta_any t htb w).mono ?_
    rintro e w1 ⟨m, v, ok, rfl, hrd, hown, hb1⟩
    obtain ⟨hl1, hl2, hl3⟩ := readM_small hrd
    have HRd := hide hrd
    have dok : (ok != ok) = false := by cases ok <;> rfl
    obtain ⟨vf, l1, rfl, ho1⟩ := hown
    obtain ⟨tx, htx⟩ : ∃ tx, tx = m.tx := ⟨_, rfl⟩
    obtain ⟨root, hro⟩ : ∃ tx, tx = m.root := ⟨_, rfl⟩
    obtain ⟨next, hne⟩ : ∃ tx, tx = m.next := ⟨_, rfl⟩
    have HNm := hide (⟨htx, hro, hne⟩ : tx = m.tx ∧ root = m.root ∧ next = m.next)
    obtain ⟨a1, c1, rfl⟩ := own_slice ho1.1
    obtain ⟨FL, hFL⟩ : ∃ FL, FL = m.fs.length := ⟨_, rfl⟩
    have HFL := hide hFL
    rw [← htx, ← hro, ← hne, ← hFL]
    have HO1 : Hid (OwnF w1 w.heap.size (.slice a1 FL c1) l1 m.fs) := hide (by rw [hFL]; exact ho1)
    have HB1 := hide hb1
    obtain ⟨wA, hwA⟩ : ∃ wA, wA = w1.alloc (.cells #[.int .i64 tx, .int .i64 root, .int .i64 next, .slice a1 FL c1] 26 (0, 0)) := ⟨_, rfl⟩
    have hbA : Below w1.heap.size w1 wA := by rw [hwA]; exact (Below.refl _ _).alloc (Nat.le_refl _) _
    have HVA : Hid (wA.heap[w1.heap.size]? = some (.cells #[.int .i64 tx, .int .i64 root, .int .i64 next, .slice a1 FL c1] 26 (0, 0))) := hide (by rw [hwA]; exact heap_alloc_new w1 _)
    have HSA : Hid (wA.heap.size = w1.heap.size + 1) := hide (by rw [hwA]; simp)
    have HOA := hide (ownF_stays HO1.out hbA)
    have HBA : Hid (Below w.heap.size w wA) := hide (HB1.out.trans (hbA.mono HB1.out.size))
    have HAt : Hid (∀ wx a n c l B, OwnF wx B (.slice a n c) l m.fs → MetaAt wx (.agg #[.int .i64 tx, .int .i64 root, .int .i64 next, .slice a n c]) m) := hide (fun wx a n c l B h => ⟨_, by rw [htx, hro, hne], frees_of_own h⟩)
    have HEq := hide (fun u u' wx h h' => eqMeta_same u u' m (by omega) (fun f hf => by have := hl2 f hf; omega) wx h h')
    have HMk := hide (fun vf l B wx h => markMeta_any tx root next vf l m.fs (by omega) (fun f hf => by have := hl2 f hf; omega) hl3 B wx h)
    have HHd := hide (fun vf wx h => heldMeta_any tx root next vf m.fs (by omega) (fun f hf => by have := hl2 f hf; omega) hl3 wx h)
    obtain ⟨K, hK⟩ : ∃ K, K = kAt 1 m.fs m.fs.length := ⟨_, rfl⟩
    rw [← hK] at HMk HHd
    have dK : decide ((K : Int) < 0) = false := decide_eq_false (by omega)
    have nK : ((K : Int) != (K : Int)) = false := by simp
    clear ho1 hb1 hbA hrd hl1 hl2 hl3 htx hro hne hFL hK
    go_wp2_with fail
    rw [← hwA]
    clear hwA
    refine (HIm.out wA (sumTab_below HT.out.1 HBA.out) (errTab_below HT.out.2 HBA.out)).mono ?_
    rintro e w2 ⟨m2, v2, ok2, rfl, hrd2, hown2, hb2⟩
    obtain ⟨e1, e2⟩ := readM_one hrd2 HRd.out
    subst e1 e2
    obtain ⟨vf2, l2, rfl, ho2⟩ := hown2
    obtain ⟨a2, c2, rfl⟩ := own_slice ho2.1
    rw [← HNm.out.1, ← HNm.out.2.1, ← HNm.out.2.2, ← HFL.out]
    have HO2 : Hid (OwnF w2 wA.heap.size (.slice a2 FL c2) l2 m2.fs) := hide (by rw [HFL.out]; exact ho2)
    obtain ⟨wB, hwB⟩ : ∃ wB, wB = w2.alloc (.cells #[.int .i64 tx, .int .i64 root, .int .i64 next, .slice a2 FL c2] 26 (0, 0)) := ⟨_, rfl⟩
    have hbB : Below w2.heap.size w2 wB := by rw [hwB]; exact (Below.refl _ _).alloc (Nat.le_refl _) _
    have HVb : Hid (wB.heap[w2.heap.size]? = some (.cells #[.int .i64 tx, .int .i64 root, .int .i64 next, .slice a2 FL c2] 26 (0, 0))) := hide (by rw [hwB]; exact heap_alloc_new w2 _)
    have HVa := hide (staysM (staysM HVA.out hb2) hbB)
    have HOb := hide (ownF_stays HO2.out hbB)
    have HOv := hide (ownF_stays (ownF_stays HOA.out hb2) hbB)
    have HLu : Hid (∀ b, freeBlocks (.slice a2 FL c2) l2 b → wA.heap.size ≤ b ∧ b < w2.heap.size) := hide (ownF_lt HO2.out)
    have HLv : Hid (∀ b, freeBlocks (.slice a1 FL c1) l1 b → b < w1.heap.size) := hide (fun b hb => (ownF_lt HO1.out b hb).2)
    have HBB : Hid (Below w.heap.size w wB) := hide ((HBA.out.trans (hb2.mono HBA.out.size)).trans (hbB.mono (by have := HBA.out.size; have := hb2.size; omega)))
    have x0 := (cell_at HVa.out 0).1
    have x1 := (cell_at HVa.out 1).1
    have x2 := (cell_at HVa.out 2).1
    have x3 := (cell_at HVa.out 3).1
    rw [hwB] at x0 x1 x2 x3
    clear hb2 hbB hrd2 ho2
    go_wp2_with fail
    rw [← hwB]
    clear hwB
    refine (HEq.out _ _ _ (HAt.out _ _ _ _ _ _ HOb.out) (HAt.out _ _ _ _ _ _ HOv.out)).mono ?_
    rintro e w3 ⟨rfl, hb3⟩
    have HB3 : Hid (Below w.heap.size w w3) := hide (HBB.out.trans (hb3.mono HBB.out.size))
    have HVa3 := hide (staysM HVa.out hb3)
    have HVb3 := hide (staysM HVb.out hb3)
    have HOb3 := hide (ownF_stays HOb.out hb3)
    have HOv3 := hide (ownF_stays HOv.out hb3)
    have y0 := (cell_at HVb3.out 0).1
    have y1 := (cell_at HVb3.out 1).1
    have y2 := (cell_at HVb3.out 2).1
    have y3 := (cell_at HVb3.out 3).1
    clear hb3 x0 x1 x2 x3
    go_wp2_with fail
    refine (HMk.out _ _ _ _ HOb3.out).mono ?_
    rintro e w4 ⟨rfl, l4, hl4, ho4, hk4⟩
    have HVa4 : Hid (w4.heap[w1.heap.size]? = some (.cells #[.int .i64 tx, .int .i64 root, .int .i64 next, .slice a1 FL c1] 26 (0, 0))) := hide ((hk4.2.2.2.2 _ (Array.getElem?_eq_some_iff.1 HVa3.out).1 (fun h => by have := (HLu.out _ h).1; rw [HSA.out] at this; omega)).trans HVa3.out)
    have HVb4 : Hid (w4.heap[w2.heap.size]? = some (.cells #[.int .i64 tx, .int .i64 root, .int .i64 next, .slice a2 FL c2] 26 (0, 0))) := hide ((hk4.2.2.2.2 _ (Array.getElem?_eq_some_iff.1 HVb3.out).1 (fun h => by have := (HLu.out _ h).2; omega)).trans HVb3.out)
    have HOv4 := hide (ownF_kept HOv3.out hk4 (fun b h1 h2 => by have a := HLv.out b h1; have b := (HLu.out b h2).1; rw [HSA.out] at b; omega))
    have HO4 := hide ho4
    have HB4 : Hid (Below w.heap.size w w4) := hide (HB3.out.trans (below_of_kept hk4 HB3.out.size (fun b h => by have := (HLu.out b h).1; have := HBA.out.size; omega)))
    have y0 := (cell_at HVb4.out 0).1
    have y1 := (cell_at HVb4.out 1).1
    have y2 := (cell_at HVb4.out 2).1
    have y3 := (cell_at HVb4.out 3).1
    clear hl4 ho4 hk4
    go_wp2_with fail
    refine (HHd.out _ _ (frees_of_own HO4.out)).mono ?_
    rintro e w5 ⟨rfl, hb5⟩
    have HVa5 := hide (staysM HVa4.out hb5)
    have HVb5 := hide (staysM HVb4.out hb5)
    have HO5 := hide (ownF_stays HO4.out hb5)
    have HOv5 := hide (ownF_stays HOv4.out hb5)
    have HB5 : Hid (Below w.heap.size w w5) := hide (HB4.out.trans (hb5.mono HB4.out.size))
    clear hb5 y0 y1 y2 y3
    go_wp2_with fail
    refine (HIm.out w5 (sumTab_below HT.out.1 HB5.out) (errTab_below HT.out.2 HB5.out)).mono ?_
    rintro e w6 ⟨m6, v6, ok6, rfl, hrd6, hown6, hb6⟩
    obtain ⟨e1, e2⟩ := readM_one hrd6 HRd.out
    subst e1 e2
    obtain ⟨vf6, l6, rfl, ho6⟩ := hown6
    obtain ⟨a6, c6, rfl⟩ := own_slice ho6.1
    rw [← HNm.out.1, ← HNm.out.2.1, ← HNm.out.2.2, ← HFL.out]
    have HO6 : Hid (OwnF w6 w5.heap.size (.slice a6 FL c6) l6 m6.fs) := hide (by rw [HFL.out]; exact ho6)
    obtain ⟨wC, hwC⟩ : ∃ wC, wC = w6.alloc (.cells #[.int .i64 tx, .int .i64 root, .int .i64 next, .slice a6 FL c6] 26 (0, 0)) := ⟨_, rfl⟩
    have hbC : Below w6.heap.size w6 wC := by rw [hwC]; exact (Below.refl _ _).alloc (Nat.le_refl _) _
    have HVa7 := hide (staysM (staysM HVa5.out hb6) hbC)
    have HVb7 := hide (staysM (staysM HVb5.out hb6) hbC)
    have HOc := hide (ownF_stays HO6.out hbC)
    have HOv7 := hide (ownF_stays (ownF_stays HOv5.out hb6) hbC)
    have HO7 := hide (ownF_stays (ownF_stays HO5.out hb6) hbC)
    have HBC : Hid (Below w.heap.size w wC) := hide ((HB5.out.trans (hb6.mono HB5.out.size)).trans (hbC.mono (by have := HB5.out.size; have := hb6.size; omega)))
    have x0 := (cell_at HVa7.out 0).1
    have x1 := (cell_at HVa7.out 1).1
    have x2 := (cell_at HVa7.out 2).1
    have x3 := (cell_at HVa7.out 3).1
    rw [hwC] at x0 x1 x2 x3
    clear hb6 hbC hrd6 ho6
    go_wp2_with fail
    rw [← hwC]
    clear hwC
    refine (HEq.out _ _ _ (HAt.out _ _ _ _ _ _ HOc.out) (HAt.out _ _ _ _ _ _ HOv7.out)).mono ?_
    rintro e w8 ⟨rfl, hb8⟩
    have HVb8 := hide (staysM HVb7.out hb8)
    have HO8 := hide (ownF_stays HO7.out hb8)
    have HB8 : Hid (Below w.heap.size w w8) := hide (HBC.out.trans (hb8.mono HBC.out.size))
    have y0 := (cell_at HVb8.out 0).1
    have y1 := (cell_at HVb8.out 1).1
    have y2 := (cell_at HVb8.out 2).1
    have y3 := (cell_at HVb8.out 3).1
    clear hb8 x0 x1 x2 x3
    go_wp2_with fail
    refine (HHd.out _ _ (frees_of_own HO8.out)).mono ?_
    rintro e w9 ⟨rfl, hb9⟩
    have HB9 : Hid (Below w.heap.size w w9) := hide (HB8.out.trans (hb9.mono HB8.out.size))
    clear hb9 y0 y1 y2 y3
    go_wp2_with fail
    go_ret
    exact ⟨rfl, HB9.out⟩
  · have d0 : decide ((1048576 : Int) < (t.size : Int)) = true := decide_eq_true (by omega)
    clear hT hE
    go_enter Tryd.func6, Tryd.ntmps6
    go_wp2_with fail
    go_ret
    exact ⟨rfl, Below.refl _ _⟩
end Go.Proofs.YthpfjfacjlpbdaaDoor

namespace Go.Proofs.YthpfjfacjlpbdaaDoor
open Go.RowKit

theorem bulk_inB {ps : List ByteArray} {ls : List (Int × ByteArray)} (h : bulkS ps + bulkP ls ≤ 1048576) : ps.length ≤ 1048576 ∧ (∀ s ∈ ps, s.size ≤ 1048576) ∧ ls.length ≤ 1048576 ∧ ∀ p ∈ ls, p.2.size ≤ 1048576 := by
  rw [bulkS_eq] at h
  unfold bulkP at h
  refine ⟨by omega, fun s hs => ?_, by omega, fun p hp => ?_⟩
  · obtain ⟨i, hi, rfl⟩ := List.getElem_of_mem hs
    have h1 := sumS_succ ps i hi
    have h2 := sumS_mono ps (i + 1)
    omega
  · obtain ⟨i, hi, rfl⟩ := List.getElem_of_mem hp
    have h1 := sumP_succ ls i hi
    have h2 := sumP_mono ls (i + 1)
    omega

theorem best_small {t0 t1 : ByteArray} {m : Mt} {ok : Bool} (h : BestM t0 t1 m ok) : m.fs.length ≤ 20 ∧ (∀ f ∈ m.fs, f.2.length ≤ 40) ∧ bulkF m.fs ≤ 1000000 := by
  obtain ⟨m0, b0, m1, b1, h0, h1, h2⟩ := h
  unfold bestOf at h2
  split at h2
  · injection h2 with e1 e2
    subst e1
    exact readM_small h0
  · split at h2
    · injection h2 with e1 e2
      subst e1
      exact readM_small h1
    · injection h2 with e1 e2
      subst e1
      exact ⟨by simp [Mt.none], (fun f hf => by cases hf), by simp [Mt.none, bulkF, sumF]⟩

theorem disk_slices {w : World} {B : Nat} {v : Value} {ps : List ByteArray} {ls : List (Int × ByteArray)} (h : DiskOwn w B v ps ls) : ∃ a c b d, v = .agg #[.slice a ps.length c, .slice b ls.length d] := by
  obtain ⟨vp, vl, rfl, h1, h2⟩ := h
  obtain ⟨a, c, rfl⟩ := own_slice h1
  obtain ⟨b, d, rfl⟩ := own_slice h2
  exact ⟨a, c, b, d, rfl⟩

set_option maxHeartbeats 16000000 in
set_option maxRecDepth 100000 in
theorem lawBestMeta (v : Value) (ps : List ByteArray) (ls : List (Int × ByteArray)) (bp : ps.length ≤ maxLen) (bq : ∀ s ∈ ps, s.size ≤ maxLen) (bl : ls.length ≤ maxLen) (bm : ∀ p ∈ ls, p.2.size ≤ maxLen) (w : World) (hT : SumTab w) (hE : ErrTab w) (hd : DiskAt w v ps ls) :
    Calls Tryd.prog 7 #[v] w fun e w' => e = .returned (.bool true) ∧ Below w.heap.size w w' := by
  have HSz := hide (fun wx h => szDisk_any v ps ls bp bq bl bm 1048576 (Nat.le_refl _) wx h)
  have HD := hide hd
  have HT := hide (⟨hT, hE⟩ : _ ∧ _)
  clear hT hE bp bq bl bm
  obtain ⟨vp, vl, rfl, -, -⟩ := hd
  obtain ⟨w0, hw0⟩ : ∃ w0, w0 = w.alloc (.cells #[vp, vl] 58 (0, 0)) := ⟨_, rfl⟩
  have HB0 : Hid (Below w.heap.size w w0) := hide (by rw [hw0]; exact (Below.refl w.heap.size w).alloc (Nat.le_refl _) _)
  have HV0 : Hid (w0.heap[w.heap.size]? = some (.cells #[vp, vl] 58 (0, 0))) := hide (by rw [hw0]; exact heap_alloc_new w _)
  by_cases hbk : bulkS ps + bulkP ls ≤ 1048576
  · obtain ⟨h1, h2, h3, h4⟩ := bulk_inB hbk
    obtain ⟨r, hr⟩ : ∃ r : Nat, szOut 1048576 (bulkS ps + bulkP ls) = (r : Int) := ⟨_, szOut_yes hbk⟩
    rw [hr] at HSz
    have HTo := hide (fun wx h => toDisk_any (.agg #[vp, vl]) ps ls h1 h3 wx h)
    have HSp := hide (fun u wx h => specBestMeta_any u ps ls h1 h3 h2 h4 wx h)
    have HIm := hide (fun u wx a b h => implBestMeta_any u ps ls h1 h3 h2 h4 wx a b h)
    have HDq := hide (fun u u' wx h h' => eqDisk_any u u' ps ps ls ls (by omega) (by omega) (by omega) (by omega) wx h h')
    rw [decide_eq_true rfl] at HDq
    have HMd := hide (fun u B wx h => markDisk_any u ps ls B 1 h1 h3 (by omega) (by omega) wx h)
    obtain ⟨DK, hDK⟩ : ∃ K, K = 1 + ps.length + ls.length * 2 := ⟨_, rfl⟩
    rw [← hDK] at HMd
    have dDK : decide ((DK : Int) < 0) = false := decide_eq_false (by omega)
    obtain ⟨t0, ht0⟩ : ∃ t, t = readD ps ls 0 := ⟨_, rfl⟩
    obtain ⟨t1, ht1⟩ : ∃ t, t = readD ps ls 1 := ⟨_, rfl⟩
    rw [← ht0, ← ht1] at HSp HIm
    have dr : decide ((r : Int) < 0) = false := decide_eq_false (by omega)
    clear hbk h1 h2 h3 h4 hr hDK ht0 ht1
    go_enter Tryd.func7, Tryd.ntmps7
    go_wp2_with fail
    rw [← hw0]
    clear hw0
    refine (HSz.out _ (disk_below HD.out HB0.out)).mono ?_
    rintro e w1 ⟨rfl, hb1⟩
    have HB1 : Hid (Below w.heap.size w w1) := hide (HB0.out.trans (hb1.mono HB0.out.size))
    have HV1 := hide (staysM HV0.out hb1)
    have p0 := (cell_at HV1.out 0).1
    have p1 := (cell_at HV1.out 1).1
    clear hb1
    go_wp2_with fail
    refine (HTo.out _ (disk_below HD.out HB1.out)).mono ?_
    rintro e w2 ⟨u2, rfl, hown2, hb2⟩
    have HO2 := hide hown2
    have HB2 : Hid (Below w.heap.size w w2) := hide (HB1.out.trans (hb2.mono HB1.out.size))
    have HV2 := hide (staysM HV1.out hb2)
    clear hb2 hown2 p0 p1
    go_wp2_with fail
    refine (HSp.out _ _ (disk_of_own HO2.out)).mono ?_
    rintro e w3 ⟨m, v3, ok, rfl, hbm, hmo3, hb3⟩
    obtain ⟨hl1, hl2, hl3⟩ := best_small hbm
    have HBm := hide hbm
    have dok : (ok != ok) = false := by cases ok <;> rfl
    obtain ⟨vf, l1, rfl, ho1⟩ := hmo3
    obtain ⟨tx, htx⟩ : ∃ tx, tx = m.tx := ⟨_, rfl⟩
    obtain ⟨root, hro⟩ : ∃ tx, tx = m.root := ⟨_, rfl⟩
    obtain ⟨next, hne⟩ : ∃ tx, tx = m.next := ⟨_, rfl⟩
    have HNm := hide (⟨htx, hro, hne⟩ : tx = m.tx ∧ root = m.root ∧ next = m.next)
    obtain ⟨a1, c1, rfl⟩ := own_slice ho1.1
    obtain ⟨FL, hFL⟩ : ∃ FL, FL = m.fs.length := ⟨_, rfl⟩
    have HFL := hide hFL
    rw [← htx, ← hro, ← hne, ← hFL]
    have HO3 : Hid (OwnF w3 w2.heap.size (.slice a1 FL c1) l1 m.fs) := hide (by rw [hFL]; exact ho1)
    have HB3 : Hid (Below w.heap.size w w3) := hide (HB2.out.trans (hb3.mono HB2.out.size))
    have HV3 := hide (staysM HV2.out hb3)
    obtain ⟨wA, hwA⟩ : ∃ wA, wA = w3.alloc (.cells #[.int .i64 tx, .int .i64 root, .int .i64 next, .slice a1 FL c1] 26 (0, 0)) := ⟨_, rfl⟩
    have hbA : Below w3.heap.size w3 wA := by rw [hwA]; exact (Below.refl _ _).alloc (Nat.le_refl _) _
    obtain ⟨g4, hg4⟩ : ∃ g, g = w3.heap.size := ⟨_, rfl⟩
    have HMA : Hid (wA.heap[g4]? = some (.cells #[.int .i64 tx, .int .i64 root, .int .i64 next, .slice a1 FL c1] 26 (0, 0))) := hide (by rw [hwA, hg4]; exact heap_alloc_new w3 _)
    have HSA : Hid (wA.heap.size = g4 + 1) := hide (by rw [hwA, hg4]; simp)
    have HVA := hide (staysM HV3.out hbA)
    have HOA := hide (ownF_stays HO3.out hbA)
    have HBA : Hid (Below w.heap.size w wA) := hide (HB3.out.trans (hbA.mono HB3.out.size))
    have HLv : Hid (∀ b, freeBlocks (.slice a1 FL c1) l1 b → b < g4) := hide (fun b hb => by rw [hg4]; exact (ownF_lt HO3.out b hb).2)
    have HAt : Hid (∀ wx a n c l B, OwnF wx B (.slice a n c) l m.fs → MetaAt wx (.agg #[.int .i64 tx, .int .i64 root, .int .i64 next, .slice a n c]) m) := hide (fun wx a n c l B h => ⟨_, by rw [htx, hro, hne], frees_of_own h⟩)
    have HEq := hide (fun u u' wx h h' => eqMeta_same u u' m (by omega) (fun f hf => by have := hl2 f hf; omega) wx h h')
    have HMk := hide (fun vf l B wx h => markMeta_any tx root next vf l m.fs (by omega) (fun f hf => by have := hl2 f hf; omega) hl3 B wx h)
    have HHd := hide (fun vf wx h => heldMeta_any tx root next vf m.fs (by omega) (fun f hf => by have := hl2 f hf; omega) hl3 wx h)
    obtain ⟨K, hK⟩ : ∃ K, K = kAt 1 m.fs m.fs.length := ⟨_, rfl⟩
    rw [← hK] at HMk HHd
    have dK : decide ((K : Int) < 0) = false := decide_eq_false (by omega)
    have nK : ((K : Int) != (K : Int)) = false := by simp
    have p0 := (cell_at HVA.out 0).1
    have p1 := (cell_at HVA.out 1).1
    rw [hwA] at p0 p1
    have HG4 := hide hg4
    clear ho1 hb3 hbA hbm hl1 hl2 hl3 htx hro hne hFL hK
    go_wp2_with fail
    rw [← HG4.out]
    try rw [← hwA]
    clear hwA hg4 p0 p1
    refine (HTo.out _ (disk_below HD.out HBA.out)).mono ?_
    rintro e w5 ⟨u5, rfl, hown5, hb5⟩
    obtain ⟨xa, xc, xb, xd, rfl⟩ := disk_slices hown5
    obtain ⟨np, hnp⟩ : ∃ n, n = ps.length := ⟨_, rfl⟩
    obtain ⟨nl, hnl⟩ : ∃ n, n = ls.length := ⟨_, rfl⟩
    have HX5 : Hid (DiskOwn w5 wA.heap.size (.agg #[.slice xa np xc, .slice xb nl xd]) ps ls) := hide (by rw [hnp, hnl]; exact hown5)
    rw [← hnp, ← hnl]
    obtain ⟨wB, hwB⟩ : ∃ wB, wB = w5.alloc (.cells #[.slice xa np xc, .slice xb nl xd] 41 (0, 0)) := ⟨_, rfl⟩
    have hbB : Below w5.heap.size w5 wB := by rw [hwB]; exact (Below.refl _ _).alloc (Nat.le_refl _) _
    obtain ⟨g6, hg6⟩ : ∃ g, g = w5.heap.size := ⟨_, rfl⟩
    have HXB : Hid (wB.heap[g6]? = some (.cells #[.slice xa np xc, .slice xb nl xd] 41 (0, 0))) := hide (by rw [hwB, hg6]; exact heap_alloc_new w5 _)
    have HSB : Hid (wB.heap.size = g6 + 1) := hide (by rw [hwB, hg6]; simp)
    have HVB := hide (staysM (staysM HVA.out hb5) hbB)
    have HMB := hide (staysM (staysM HMA.out hb5) hbB)
    have HOB := hide (ownF_stays (ownF_stays HOA.out hb5) hbB)
    have HX6 := hide (diskOwn_below HX5.out hbB)
    have HLx : Hid (∀ b, diskBlocks (.agg #[.slice xa np xc, .slice xb nl xd]) b → wA.heap.size ≤ b ∧ b < g6) := hide (fun b hb => by rw [hg6]; exact diskOwn_lt HX5.out b hb)
    have HBB : Hid (Below w.heap.size w wB) := hide ((HBA.out.trans (hb5.mono HBA.out.size)).trans (hbB.mono (by have := HBA.out.size; have := hb5.size; omega)))
    have HG6 := hide hg6
    clear hown5 hb5 hbB hnp hnl
    go_wp2_with fail
    rw [← HG6.out]
    try rw [← hwB]
    clear hwB hg6
    refine (HIm.out _ _ (sumTab_below HT.out.1 HBB.out) (errTab_below HT.out.2 HBB.out) (disk_of_own HX6.out)).mono ?_
    rintro e w7 ⟨m7, v7, ok7, rfl, hbm7, hmo7, hb7⟩
    obtain ⟨e1, e2⟩ := bestM_one hbm7 HBm.out
    subst e1 e2
    obtain ⟨vf7, l7, rfl, ho7⟩ := hmo7
    obtain ⟨a7, c7, rfl⟩ := own_slice ho7.1
    rw [← HNm.out.1, ← HNm.out.2.1, ← HNm.out.2.2, ← HFL.out]
    have HO7 : Hid (OwnF w7 wB.heap.size (.slice a7 FL c7) l7 m7.fs) := hide (by rw [HFL.out]; exact ho7)
    obtain ⟨wC, hwC⟩ : ∃ wC, wC = w7.alloc (.cells #[.int .i64 tx, .int .i64 root, .int .i64 next, .slice a7 FL c7] 26 (0, 0)) := ⟨_, rfl⟩
    have hbC : Below w7.heap.size w7 wC := by rw [hwC]; exact (Below.refl _ _).alloc (Nat.le_refl _) _
    obtain ⟨g7, hg7⟩ : ∃ g, g = w7.heap.size := ⟨_, rfl⟩
    have HGC : Hid (wC.heap[g7]? = some (.cells #[.int .i64 tx, .int .i64 root, .int .i64 next, .slice a7 FL c7] 26 (0, 0))) := hide (by rw [hwC, hg7]; exact heap_alloc_new w7 _)
    have HVC := hide (staysM (staysM HVB.out hb7) hbC)
    have HMC := hide (staysM (staysM HMB.out hb7) hbC)
    have HXC := hide (staysM (staysM HXB.out hb7) hbC)
    have HOC := hide (ownF_stays (ownF_stays HOB.out hb7) hbC)
    have HX7 := hide (diskOwn_below (diskOwn_below HX6.out hb7) hbC)
    have HQC := hide (ownF_stays HO7.out hbC)
    have HLu : Hid (∀ b, freeBlocks (.slice a7 FL c7) l7 b → wB.heap.size ≤ b ∧ b < g7) := hide (fun b hb => by rw [hg7]; exact ownF_lt HO7.out b hb)
    have HL7 : Hid (wB.heap.size ≤ g7) := hide (by rw [hg7]; exact hb7.size)
    have HBC : Hid (Below w.heap.size w wC) := hide ((HBB.out.trans (hb7.mono HBB.out.size)).trans (hbC.mono (by have := HBB.out.size; have := hb7.size; omega)))
    have x0 := (cell_at HMC.out 0).1
    have x1 := (cell_at HMC.out 1).1
    have x2 := (cell_at HMC.out 2).1
    have x3 := (cell_at HMC.out 3).1
    rw [hwC] at x0 x1 x2 x3
    have HG7 := hide hg7
    clear hb7 hbC hbm7 ho7
    go_wp2_with fail
    rw [← HG7.out]
    try rw [← hwC]
    clear hwC hg7
    refine (HEq.out _ _ _ (HAt.out _ _ _ _ _ _ HQC.out) (HAt.out _ _ _ _ _ _ HOC.out)).mono ?_
    rintro e w8 ⟨rfl, hb8⟩
    have HV8 := hide (staysM HVC.out hb8)
    have HM8 := hide (staysM HMC.out hb8)
    have HX8 := hide (staysM HXC.out hb8)
    have HG8 := hide (staysM HGC.out hb8)
    have HO8 := hide (ownF_stays HOC.out hb8)
    have HDo8 := hide (diskOwn_below HX7.out hb8)
    have HQ8 := hide (ownF_stays HQC.out hb8)
    have HB8 : Hid (Below w.heap.size w w8) := hide (HBC.out.trans (hb8.mono HBC.out.size))
    have HSt : Hid (∀ wx, Below w8.heap.size w8 wx → wx.cell? ⟨w.heap.size, 0, none⟩ = some vp ∧ wx.cell? ⟨w.heap.size, 1, none⟩ = some vl ∧ wx.cell? ⟨g6, 0, none⟩ = some (.slice xa np xc) ∧ wx.cell? ⟨g6, 1, none⟩ = some (.slice xb nl xd)) := hide (fun wx h => ⟨(cell_at (staysM HV8.out h) 0).1, (cell_at (staysM HV8.out h) 1).1, (cell_at (staysM HX8.out h) 0).1, (cell_at (staysM HX8.out h) 1).1⟩)
    have hS0 := HSt.out w8 (Below.refl _ _)
    clear hb8 x0 x1 x2 x3
    go_wp2_with fail
    go_region_held3 (fun wx => wx.cell? ⟨w.heap.size, 0, none⟩ = some vp ∧ wx.cell? ⟨w.heap.size, 1, none⟩ = some vl ∧ wx.cell? ⟨g6, 0, none⟩ = some (.slice xa np xc) ∧ wx.cell? ⟨g6, 1, none⟩ = some (.slice xb nl xd)) (first | exact hS0 | exact hSa | exact hSb) (first | (go_at_call 33; refine (HTo.out _ ?_).mono ?_; exact disk_below HD.out HB8.out.drew; rintro e wa ⟨ua, rfl, howna, hba⟩; have hAa : Below w8.heap.size w8 wa := (Below.refl _ _).drew.trans hba; have hSa := HSt.out _ hAa) | (go_at_call 34; refine (HDq.out _ _ _ ?_ ?_).mono ?_; exact disk_of_own (diskOwn_below HDo8.out hAa); exact disk_of_own howna; rintro e wz ⟨rfl, hbz⟩; have hAb : Below w8.heap.size w8 wz := hAa.trans (hbz.mono hAa.size); have hSb := HSt.out _ hAb))
    have HVz := hide (staysM HV8.out hAb)
    have HMz := hide (staysM HM8.out hAb)
    have HXz := hide (staysM HX8.out hAb)
    have HGz := hide (staysM HG8.out hAb)
    have HOz := hide (ownF_stays HO8.out hAb)
    have HDoz := hide (diskOwn_below HDo8.out hAb)
    have HQz := hide (ownF_stays HQ8.out hAb)
    have HBz : Hid (Below w.heap.size w wz) := hide (HB8.out.trans (hAb.mono HB8.out.size))
    have q0 := (cell_at HXz.out 0).1
    have q1 := (cell_at HXz.out 1).1
    clear hba hAa hSa hbz hAb hSb hS0 howna
    go_wp2_with fail
    refine (HMd.out _ _ _ HDoz.out).mono ?_
    rintro e w9 ⟨rfl, hown9, hk9⟩
    have HV9 : Hid (w9.heap[w.heap.size]? = some (.cells #[vp, vl] 58 (0, 0))) := hide ((hk9.2.2.2.2 _ (Array.getElem?_eq_some_iff.1 HVz.out).1 (fun h => by have h1 := (HLx.out _ h).1; have h2 := HBA.out.size; have h3 := (Array.getElem?_eq_some_iff.1 HVA.out).1; omega)).trans HVz.out)
    have HM9 : Hid (w9.heap[g4]? = some (.cells #[.int .i64 tx, .int .i64 root, .int .i64 next, .slice a1 FL c1] 26 (0, 0))) := hide ((hk9.2.2.2.2 _ (Array.getElem?_eq_some_iff.1 HMz.out).1 (fun h => by have h1 := (HLx.out _ h).1; have h2 := HSA.out; omega)).trans HMz.out)
    have HG9 : Hid (w9.heap[g7]? = some (.cells #[.int .i64 tx, .int .i64 root, .int .i64 next, .slice a7 FL c7] 26 (0, 0))) := hide ((hk9.2.2.2.2 _ (Array.getElem?_eq_some_iff.1 HGz.out).1 (fun h => by have h1 := (HLx.out _ h).2; have h2 := HL7.out; have h3 := HSB.out; omega)).trans HGz.out)
    have HO9 := hide (ownF_kept HOz.out hk9 (fun b h1 h2 => by have a := HLv.out b h1; have c := (HLx.out b h2).1; have d := HSA.out; omega))
    have HQ9 := hide (ownF_kept HQz.out hk9 (fun b h1 h2 => by have a := (HLu.out b h1).1; have c := (HLx.out b h2).2; have d := HSB.out; omega))
    have HB9 : Hid (Below w.heap.size w w9) := hide (HBz.out.trans (below_of_kept hk9 HBz.out.size (fun b h => by have h1 := (HLx.out b h).1; have h2 := HBA.out.size; omega)))
    have x0 := (cell_at HM9.out 0).1
    have x1 := (cell_at HM9.out 1).1
    have x2 := (cell_at HM9.out 2).1
    have x3 := (cell_at HM9.out 3).1
    have y0 := (cell_at HG9.out 0).1
    have y1 := (cell_at HG9.out 1).1
    have y2 := (cell_at HG9.out 2).1
    have y3 := (cell_at HG9.out 3).1
    clear hown9 hk9 q0 q1
    go_wp2_with fail
    refine (HEq.out _ _ _ (HAt.out _ _ _ _ _ _ HQ9.out) (HAt.out _ _ _ _ _ _ HO9.out)).mono ?_
    rintro e wd ⟨rfl, hbd⟩
    have HVd := hide (staysM HV9.out hbd)
    have HMd' := hide (staysM HM9.out hbd)
    have HGd := hide (staysM HG9.out hbd)
    have HOd := hide (ownF_stays HO9.out hbd)
    have HQd := hide (ownF_stays HQ9.out hbd)
    have HBd : Hid (Below w.heap.size w wd) := hide (HB9.out.trans (hbd.mono HB9.out.size))
    have y0 := (cell_at HGd.out 0).1
    have y1 := (cell_at HGd.out 1).1
    have y2 := (cell_at HGd.out 2).1
    have y3 := (cell_at HGd.out 3).1
    clear hbd x0 x1 x2 x3
    go_wp2_with fail
    refine (HMk.out _ _ _ _ HQd.out).mono ?_
    rintro e we ⟨rfl, le, hle, hoe, hke⟩
    have HVe : Hid (we.heap[w.heap.size]? = some (.cells #[vp, vl] 58 (0, 0))) := hide ((hke.2.2.2.2 _ (Array.getElem?_eq_some_iff.1 HVd.out).1 (fun h => by have h1 := (HLu.out _ h).1; have h2 := (Array.getElem?_eq_some_iff.1 HVB.out).1; omega)).trans HVd.out)
    have HMe : Hid (we.heap[g4]? = some (.cells #[.int .i64 tx, .int .i64 root, .int .i64 next, .slice a1 FL c1] 26 (0, 0))) := hide ((hke.2.2.2.2 _ (Array.getElem?_eq_some_iff.1 HMd'.out).1 (fun h => by have h1 := (HLu.out _ h).1; have h2 := (Array.getElem?_eq_some_iff.1 HMB.out).1; omega)).trans HMd'.out)
    have HGe : Hid (we.heap[g7]? = some (.cells #[.int .i64 tx, .int .i64 root, .int .i64 next, .slice a7 FL c7] 26 (0, 0))) := hide ((hke.2.2.2.2 _ (Array.getElem?_eq_some_iff.1 HGd.out).1 (fun h => by have h1 := (HLu.out _ h).2; omega)).trans HGd.out)
    have HOe := hide (ownF_kept HOd.out hke (fun b h1 h2 => by have a := HLv.out b h1; have c := (HLu.out b h2).1; have d := (Array.getElem?_eq_some_iff.1 HMB.out).1; omega))
    have HQe := hide hoe
    have HBe : Hid (Below w.heap.size w we) := hide (HBd.out.trans (below_of_kept hke HBd.out.size (fun b h => by have h1 := (HLu.out b h).1; have h2 := HBB.out.size; omega)))
    have y0 := (cell_at HGe.out 0).1
    have y1 := (cell_at HGe.out 1).1
    have y2 := (cell_at HGe.out 2).1
    have y3 := (cell_at HGe.out 3).1
    clear hle hoe hke
    go_wp2_with fail
    refine (HHd.out _ _ (frees_of_own HQe.out)).mono ?_
    rintro e wf ⟨rfl, hbf⟩
    have HVf := hide (staysM HVe.out hbf)
    have HMf := hide (staysM HMe.out hbf)
    have HGf := hide (staysM HGe.out hbf)
    have HOf := hide (ownF_stays HOe.out hbf)
    have HQf := hide (ownF_stays HQe.out hbf)
    have HBf : Hid (Below w.heap.size w wf) := hide (HBe.out.trans (hbf.mono HBe.out.size))
    have p0 := (cell_at HVf.out 0).1
    have p1 := (cell_at HVf.out 1).1
    clear hbf y0 y1 y2 y3
    go_wp2_with fail
    refine (HTo.out _ (disk_below HD.out HBf.out)).mono ?_
    rintro e wg ⟨ug, rfl, howng, hbg⟩
    have HDg := hide howng
    have HMg := hide (staysM HMf.out hbg)
    have HGg := hide (staysM HGf.out hbg)
    have HOg := hide (ownF_stays HOf.out hbg)
    have HQg := hide (ownF_stays HQf.out hbg)
    have HBg : Hid (Below w.heap.size w wg) := hide (HBf.out.trans (hbg.mono HBf.out.size))
    clear howng hbg p0 p1
    go_wp2_with fail
    refine (HIm.out _ _ (sumTab_below HT.out.1 HBg.out) (errTab_below HT.out.2 HBg.out) (disk_of_own HDg.out)).mono ?_
    rintro e wh ⟨mh, vh, okh, rfl, hbmh, hmoh, hbh⟩
    obtain ⟨e1, e2⟩ := bestM_one hbmh HBm.out
    subst e1 e2
    obtain ⟨vfh, lh, rfl, hoh⟩ := hmoh
    obtain ⟨ah, ch, rfl⟩ := own_slice hoh.1
    rw [← HNm.out.1, ← HNm.out.2.1, ← HNm.out.2.2, ← HFL.out]
    have HOh : Hid (OwnF wh wg.heap.size (.slice ah FL ch) lh mh.fs) := hide (by rw [HFL.out]; exact hoh)
    obtain ⟨wk, hwk⟩ : ∃ wk, wk = wh.alloc (.cells #[.int .i64 tx, .int .i64 root, .int .i64 next, .slice ah FL ch] 26 (0, 0)) := ⟨_, rfl⟩
    have hbk : Below wh.heap.size wh wk := by rw [hwk]; exact (Below.refl _ _).alloc (Nat.le_refl _) _
    have HMk' := hide (staysM (staysM HMg.out hbh) hbk)
    have HGk := hide (staysM (staysM HGg.out hbh) hbk)
    have HOk := hide (ownF_stays (ownF_stays HOg.out hbh) hbk)
    have HQk := hide (ownF_stays (ownF_stays HQg.out hbh) hbk)
    have HHk := hide (ownF_stays HOh.out hbk)
    have HBk : Hid (Below w.heap.size w wk) := hide ((HBg.out.trans (hbh.mono HBg.out.size)).trans (hbk.mono (by have := HBg.out.size; have := hbh.size; omega)))
    have x0 := (cell_at HMk'.out 0).1
    have x1 := (cell_at HMk'.out 1).1
    have x2 := (cell_at HMk'.out 2).1
    have x3 := (cell_at HMk'.out 3).1
    rw [hwk] at x0 x1 x2 x3
    clear hbh hbk hbmh hoh
    go_wp2_with fail
    rw [← hwk]
    clear hwk
    refine (HEq.out _ _ _ (HAt.out _ _ _ _ _ _ HHk.out) (HAt.out _ _ _ _ _ _ HOk.out)).mono ?_
    rintro e wl ⟨rfl, hbl⟩
    have HGl := hide (staysM HGk.out hbl)
    have HQl := hide (ownF_stays HQk.out hbl)
    have HBl : Hid (Below w.heap.size w wl) := hide (HBk.out.trans (hbl.mono HBk.out.size))
    have y0 := (cell_at HGl.out 0).1
    have y1 := (cell_at HGl.out 1).1
    have y2 := (cell_at HGl.out 2).1
    have y3 := (cell_at HGl.out 3).1
    clear hbl x0 x1 x2 x3
    go_wp2_with fail
    refine (HHd.out _ _ (frees_of_own HQl.out)).mono ?_
    rintro e wn ⟨rfl, hbn⟩
    have HBn : Hid (Below w.heap.size w wn) := hide (HBl.out.trans (hbn.mono HBl.out.size))
    clear hbn y0 y1 y2 y3
    go_wp2_with fail
    go_ret
    exact ⟨rfl, HBn.out⟩
  · rw [szOut_no (by omega)] at HSz
    go_enter Tryd.func7, Tryd.ntmps7
    go_wp2_with fail
    rw [← hw0]
    clear hw0
    refine (HSz.out _ (disk_below HD.out HB0.out)).mono ?_
    rintro e w1 ⟨rfl, hb⟩
    go_wp2_with fail
    go_ret
    exact ⟨rfl, HB0.out.trans (hb.mono HB0.out.size)⟩
end Go.Proofs.YthpfjfacjlpbdaaDoor

namespace Go.Proofs.YthpfjfacjlpbdaaDoor
open Go.RowKit Go.ChangeShapes Go.WideShapes Go.Deep

theorem row_strs {H : Type} {enc : TypeId × Value → H} {W : World} {base : Nat} {spare : Nat → Bool} {held : Bool} {fuel : Nat} {v : Value} {x : DataW H × List MemPlace}
    (h : DataW.trod enc Tryd.prog W base spare held fuel 38 [v] = some x) : ∃ ps : List ByteArray, RowAt W 1 v ps.length (strs ps) ∧ ps.length ≤ maxLen ∧ ∀ s ∈ ps, s.size ≤ maxLen := by
  rcases open_strs Tryd.underlying38 Tryd.underlying9 (by kernel_rfl) h with ⟨hcs, -⟩ | ⟨a, len, cap, m, Sx, hcs, -, hl, hm, hmm, -, hx⟩
  · injection hcs with hcs
    subst hcs
    exact ⟨[], ⟨rfl, none, 0, rfl, Or.inl rfl⟩, by unfold maxLen; simp, fun s hs => by cases hs⟩
  · injection hcs with hcs
    subst hcs
    have hlm : len ≤ m := by rw [hmm]; split <;> omega
    refine ⟨(List.range len).map Sx, ?_, by simp; omega, fun s hs => ?_⟩
    · rw [List.length_map, List.length_range]
      refine ⟨by rw [strs_length]; simp, some a, cap, rfl, ?_⟩
      by_cases h0 : len = 0
      · exact Or.inl h0
      · obtain ⟨b, off, spot⟩ := a
        have hc := (hx 0 (by omega)).1
        obtain rfl : spot = none := by simpa [Addr.add] using World.cell?_spot hc
        refine Or.inr ⟨b, off, rfl, World.block_lt_of_cell? W _ (by simpa [Addr.add] using hc : W.cell? ⟨b, off, none⟩ = _), fun j hj => ?_⟩
        have hj' : j < len := by omega
        have := (hx j (by omega)).1
        rw [Addr.add_lit] at this
        rw [this, strs_at _ j (by simpa using hj')]
        simp
    · obtain ⟨i, hi, rfl⟩ := List.mem_map.1 hs
      exact (hx i (by have := List.mem_range.1 hi; omega)).2

theorem row_puts {H : Type} {enc : TypeId × Value → H} {W : World} {base : Nat} {spare : Nat → Bool} {held : Bool} {fuel : Nat} {v : Value} {x : DataW H × List MemPlace}
    (h : DataW.trod enc Tryd.prog W base spare held fuel 56 [v] = some x) : ∃ ls : List (Int × ByteArray), RowAt W 2 v ls.length (puts ls) ∧ ls.length ≤ maxLen ∧ ∀ p ∈ ls, p.2.size ≤ maxLen := by
  rcases open_slice_pairs Tryd.underlying56 Tryd.underlying135 (by kernel_rfl) rfl rfl (by kernel_rfl) (by kernel_rfl) h with ⟨hcs, -⟩ | ⟨a, len, cap, m, n, V0, V1, D0, D1, P0, P1, hcs, -, hl, hm, hmm, -, hx⟩
  · injection hcs with hcs
    subst hcs
    exact ⟨[], ⟨rfl, none, 0, rfl, Or.inl rfl⟩, by unfold maxLen; simp, fun s hs => by cases hs⟩
  · injection hcs with hcs
    subst hcs
    have hlm : len ≤ m := by rw [hmm]; split <;> omega
    have each : ∀ i, i < m → ∃ q : Int × ByteArray, V0 i = .int .i64 q.1 ∧ V1 i = .string q.2 ∧ q.2.size ≤ maxLen := fun i hi => by
      obtain ⟨h1, h2, h3, h4⟩ := hx i hi
      obtain ⟨k, e1, e2, -⟩ := DataW.trod_int Tryd.underlying3 h3
      obtain ⟨s, g1, g2, g3⟩ := DataW.trod_string Tryd.underlying9 h4
      exact ⟨(k, s), by simpa using e1, by simpa using g1, g3⟩
    obtain ⟨q, hq⟩ := choose_lt each
    refine ⟨(List.range len).map q, ?_, by simp; omega, fun s hs => ?_⟩
    · rw [List.length_map, List.length_range]
      refine ⟨by rw [puts_length]; simp, some a, cap, rfl, ?_⟩
      by_cases h0 : len = 0
      · exact Or.inl h0
      · obtain ⟨b, off, spot⟩ := a
        have hc := (hx 0 (by omega)).1
        obtain rfl : spot = none := by simpa [Addr.add] using World.cell?_spot hc
        refine Or.inr ⟨b, off, rfl, World.block_lt_of_cell? W _ (by simpa [Addr.add] using hc : W.cell? ⟨b, off, none⟩ = _), fun j hj => ?_⟩
        have hi : j / 2 < len := by omega
        obtain ⟨h1, h2, -, -⟩ := hx (j / 2) (by omega)
        rw [Addr.add_lit] at h1 h2
        have hp := puts_at ((List.range len).map q) (j / 2) (by simpa using hi)
        rcases Nat.mod_two_eq_zero_or_one j with e | e
        · rw [show j = j / 2 * 2 from by omega, hp.1, h1, (hq (j / 2) (by omega)).1]
          simp
        · rw [show j = j / 2 * 2 + 1 from by omega, hp.2, h2, (hq (j / 2) (by omega)).2.1]
          simp
    · obtain ⟨i, hi, rfl⟩ := List.mem_map.1 hs
      exact (hq i (by have := List.mem_range.1 hi; omega)).2.2

set_option maxRecDepth 100000 in
theorem open_disk {H : Type} {enc : TypeId × Value → H} {W : World} {r : Reach} {b0 base : Nat} {spare : Nat → Bool} {held : Bool} {v : Value} {d : DataW H} {p : List MemPlace}
    (hv : Value.okWide Tryd.prog W r b0 58 v) (h : DataW.Trod enc Tryd.prog W base spare held 58 v d p) :
    ∃ ps ls, DiskAt W v ps ls ∧ ps.length ≤ maxLen ∧ (∀ s ∈ ps, s.size ≤ maxLen) ∧ ls.length ≤ maxLen ∧ ∀ p ∈ ls, p.2.size ≤ maxLen := by
  obtain ⟨v0, v1, y0, y1, n, rfl, -, -, h0, h1⟩ := Joins.open_agg2 Tryd.underlying58 (by kernel_rfl) (by kernel_rfl) hv h
  obtain ⟨ps, hp1, hp2, hp3⟩ := row_strs h0
  obtain ⟨ls, hl1, hl2, hl3⟩ := row_puts h1
  exact ⟨ps, ls, ⟨v0, v1, rfl, hp1, hl1⟩, hp2, hp3, hl2, hl3⟩
end Go.Proofs.YthpfjfacjlpbdaaDoor
