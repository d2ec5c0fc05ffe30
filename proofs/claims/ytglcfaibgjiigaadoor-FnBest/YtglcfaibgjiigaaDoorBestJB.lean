/-
  Several texts in one. Disks (pages and what is late), read only ('DiskAt') or in new memory ('DiskOwn'), and the laws' own helpers over them by contracts: szDisk, toDisk, eqDisk, markDisk, heldDisk. · Plain facts on disks, without any program: what is read of a page, when a disk is right, what is kept, what falls. · spec's functions over disks by contracts: ReadPage, DiskOk, SyncDisk, FallDisk, WritePage, DiskNew. · spec.SyncDisk, spec.l03Copy and spec.FallDisk by contracts. · spec.l03Copy by its contract: a disk that reads the same, in new memory. · What a law holds over its calls: facts on blocks of an interval ('Held'), which stay where nothing of that interval is turned. · A disk that is laid into the variable of an answer, and rows that lie apart by their types. No function of the program. · Plain facts on disks, without any program: a new disk, a put that is taken, what falls. · spec.DiskNew and spec.WritePage by contracts. · Which of two metas counts. No program. · Plain facts on disks, without any program: what is read behind a write, behind a sync, behind a fall. · MetaPage by contracts, the specification's and the program's: the lowest bit. · Which meta counts of those that were written: plain facts for FnBest. No program but pgOf's name. · spec.DrawBestMeta by a contract: a disk of few and short texts. · The three disks of FnBest: which meta counts. Plain. · The program's functions over disks by contracts: hasPage, DiskOk, ReadPage, DiskNew. · BestMeta by contracts, the specification's and the program's. · laws.sameInts, laws.sameMeta by contracts. · Rows of frees marked and held by contracts: markFreeS, heldFreeS, markMeta, heldMeta. · FnExactReadMeta by contracts. · A region that draws its order, where two operations may come up either way round and leave the same behind them: both ways are walked to one goal. No program. · FnBest by contracts.
-/
import Derived.Test.YtglcfaibgjiigaaDoorNode
import Derived.WalkKit
import Derived.Test.YtglcfaibgjiigaaDoorVar
import Derived.Test.YtglcfaibgjiigaaDoorAppRow
import Derived.Deep.RegionLaw
import Derived.Test.YtglcfaibgjiigaaDoorSpecReadMeta
import Derived.Test.YtglcfaibgjiigaaDoorOwn
import Derived.Test.YtglcfaibgjiigaaDoorBestJA
import Derived.Deep.RegionWith
import Derived.Test.YtglcfaibgjiigaaDoorClone
import Derived.Test.YtglcfaibgjiigaaDoorImplReadMeta
import Derived.Test.YtglcfaibgjiigaaDoorIntRow
import Derived.Test.YtglcfaibgjiigaaDoorMeta
import Derived.Deep.RegionHeld3
import Derived.Test.YtglcfaibgjiigaaDoorMetaGrow
import Derived.Test.YtglcfaibgjiigaaDoorStepCall
import Derived.Test.YtglcfaibgjiigaaDoorMetaSpecText
import Derived.Test.YtglcfaibgjiigaaDoorStepDie
namespace Go.Proofs.YtglcfaibgjiigaaDoor
open Go.RowKit

/-- a disk that reads so -/
def DiskAt (w : World) (v : Value) (ps : List ByteArray) (ls : List (Int × ByteArray)) : Prop :=
  ∃ vp vl, v = .agg #[vp, vl] ∧ RowAt w 1 vp ps.length (strs ps) ∧ RowAt w 2 vl ls.length (puts ls)

/-- a disk in memory of its own -/
def DiskOwn (w : World) (B : Nat) (v : Value) (ps : List ByteArray) (ls : List (Int × ByteArray)) : Prop :=
  ∃ vp vl, v = .agg #[vp, vl] ∧ w.ownsRow B 9 1 vp ps.length (strs ps) ∧ w.ownsRow B 115 2 vl ls.length (puts ls)

theorem disk_of_own {w : World} {B : Nat} {v : Value} {ps : List ByteArray} {ls : List (Int × ByteArray)} (h : DiskOwn w B v ps ls) : DiskAt w v ps ls := by
  obtain ⟨vp, vl, e, h1, h2⟩ := h
  exact ⟨vp, vl, e, row_of_own h1, row_of_own h2⟩

theorem disk_below {w w' : World} {v : Value} {ps : List ByteArray} {ls : List (Int × ByteArray)} (h : DiskAt w v ps ls) (hb : Below w.heap.size w w') : DiskAt w' v ps ls := by
  obtain ⟨vp, vl, e, h1, h2⟩ := h
  exact ⟨vp, vl, e, row_below h1 hb, row_below h2 hb⟩

theorem diskOwn_below {w w' : World} {B : Nat} {v : Value} {ps : List ByteArray} {ls : List (Int × ByteArray)} (h : DiskOwn w B v ps ls) (hb : Below w.heap.size w w') : DiskOwn w' B v ps ls := by
  obtain ⟨vp, vl, e, h1, h2⟩ := h
  exact ⟨vp, vl, e, own_stays h1 hb, own_stays h2 hb⟩

/-- the blocks of a disk's two rows -/
def diskBlocks (v : Value) (k : Nat) : Prop := ∃ vp vl, v = .agg #[vp, vl] ∧ (vp.ownBlock = some k ∨ vl.ownBlock = some k)

theorem disk_kept {w w' : World} {v : Value} {ps : List ByteArray} {ls : List (Int × ByteArray)} {S : Nat → Prop} (h : DiskAt w v ps ls) (hk : Kept w w' S) (hS : ∀ k, k < w.heap.size → diskBlocks v k → ¬ S k) : DiskAt w' v ps ls := by
  obtain ⟨vp, vl, rfl, h1, h2⟩ := h
  exact ⟨vp, vl, rfl, row_kept h1 hk (Or.inr fun k hlt e => hS k hlt ⟨vp, vl, rfl, Or.inl e⟩), row_kept h2 hk (Or.inr fun k hlt e => hS k hlt ⟨vp, vl, rfl, Or.inr e⟩)⟩

theorem diskOwn_kept {w w' : World} {B : Nat} {v : Value} {ps : List ByteArray} {ls : List (Int × ByteArray)} {S : Nat → Prop} (h : DiskOwn w B v ps ls) (hk : Kept w w' S) (hS : ∀ k, diskBlocks v k → ¬ S k) : DiskOwn w' B v ps ls := by
  obtain ⟨vp, vl, rfl, h1, h2⟩ := h
  exact ⟨vp, vl, rfl, own_kept h1 hk (fun k e => hS k ⟨vp, vl, rfl, Or.inl e⟩), own_kept h2 hk (fun k e => hS k ⟨vp, vl, rfl, Or.inr e⟩)⟩

theorem diskOwn_lt {w : World} {B : Nat} {v : Value} {ps : List ByteArray} {ls : List (Int × ByteArray)} (h : DiskOwn w B v ps ls) : ∀ k, diskBlocks v k → B ≤ k ∧ k < w.heap.size := by
  obtain ⟨vp, vl, rfl, h1, h2⟩ := h
  rintro k ⟨vp', vl', e, hk⟩
  have e2 : vp = vp' ∧ vl = vl' := by injection e with e; injection e with e; injection e with e1 e; injection e with e2; exact ⟨e1, e2⟩
  obtain ⟨rfl, rfl⟩ := e2
  rcases hk with hk | hk
  · exact h1.lt k hk
  · exact h2.lt k hk

set_option maxHeartbeats 400000 in
theorem szDisk_any (v : Value) (ps : List ByteArray) (ls : List (Int × ByteArray)) (hp : ps.length ≤ maxLen) (hps : ∀ s ∈ ps, s.size ≤ maxLen) (hl : ls.length ≤ maxLen) (hls : ∀ p ∈ ls, p.2.size ≤ maxLen) (left : Nat) (hleft : left ≤ 1048576) (w : World) (hd : DiskAt w v ps ls) :
    Calls Tryd.prog 38 #[v, .int .i64 (left : Int)] w fun e w' => e = .returned (.int .i64 (szOut left (bulkS ps + bulkP ls))) ∧ Below w.heap.size w w' := by
  obtain ⟨vp, vl, rfl, h1, h2⟩ := hd
  have hbB : ∀ o : Obj, Below w.heap.size w (w.alloc o) := fun o => (Below.refl w.heap.size w).alloc (Nat.le_refl _) _
  have HB := hide hbB
  have HC1 := hide (fun wx h => szStringS_any ps hp hps vp left hleft wx h)
  have H1 := hide h1
  have H2 := hide h2
  have HP := hide (⟨hl, hls⟩ : ls.length ≤ maxLen ∧ ∀ p ∈ ls, p.2.size ≤ maxLen)
  clear hp hps hl hls h1 h2 hbB
  by_cases hn : left < bulkS ps
  · have HO : Hid (szOut left (bulkS ps + bulkP ls) = -1) := hide (szOut_no (by omega))
    rw [szOut_no hn] at HC1
    go_enter Tryd.func38, Tryd.ntmps38
    go_wp2_with fail
    refine (HC1.out _ (row_below H1.out (HB.out _))).mono ?_
    rintro e w1 ⟨rfl, rfl⟩
    go_wp2_with fail
    go_ret
    rw [HO.out]
    exact ⟨rfl, HB.out _⟩
  · obtain ⟨m, hm⟩ : ∃ m, m = left - bulkS ps := ⟨_, rfl⟩
    rw [szOut_yes (by omega), ← hm] at HC1
    have hml : m ≤ 1048576 := by omega
    have HC2 := hide (fun wx h => szPutS_any ls HP.out.1 HP.out.2 vl m hml wx h)
    by_cases hn2 : m < bulkP ls
    · have HO : Hid (szOut left (bulkS ps + bulkP ls) = -1) := hide (szOut_no (by omega))
      rw [szOut_no hn2] at HC2
      clear hm hn hn2
      go_enter Tryd.func38, Tryd.ntmps38
      go_wp2_with fail
      refine (HC1.out _ (row_below H1.out (HB.out _))).mono ?_
      rintro e w1 ⟨rfl, rfl⟩
      go_wp2_with fail
      refine (HC2.out _ (row_below H2.out (HB.out _))).mono ?_
      rintro e w2 ⟨rfl, hb2⟩
      go_wp2_with fail
      go_ret
      rw [HO.out]
      exact ⟨rfl, (HB.out _).trans (hb2.mono (HB.out _).size)⟩
    · obtain ⟨r, hr⟩ : ∃ r, r = m - bulkP ls := ⟨_, rfl⟩
      rw [szOut_yes (by omega), ← hr] at HC2
      have hrl : r ≤ 1048576 := by omega
      have HO : Hid (szOut left (bulkS ps + bulkP ls) = (r : Int)) := hide (by rw [szOut_yes (by omega)]; congr 1; omega)
      clear hm hn hn2 hr
      go_enter Tryd.func38, Tryd.ntmps38
      go_wp2_with fail
      refine (HC1.out _ (row_below H1.out (HB.out _))).mono ?_
      rintro e w1 ⟨rfl, rfl⟩
      go_wp2_with fail
      refine (HC2.out _ (row_below H2.out (HB.out _))).mono ?_
      rintro e w2 ⟨rfl, hb2⟩
      go_wp2_with fail
      go_ret
      rw [HO.out]
      exact ⟨rfl, (HB.out _).trans (hb2.mono (HB.out _).size)⟩

set_option maxHeartbeats 1000000 in
theorem toDisk_any (v : Value) (ps : List ByteArray) (ls : List (Int × ByteArray)) (hp : ps.length ≤ 1048576) (hl : ls.length ≤ 1048576) (w : World) (hd : DiskAt w v ps ls) :
    Calls Tryd.prog 40 #[v] w fun e w' => ∃ v', e = .returned v' ∧ DiskOwn w' w.heap.size v' ps ls ∧ Below w.heap.size w w' := by
  obtain ⟨vp, vl, rfl, h1, h2⟩ := hd
  have HC1 := hide (fun wx h => toStringS_any ps hp vp wx h)
  have HC2 := hide (fun wx h => toPutS_any ls hl vl wx h)
  have H1 := hide h1
  have H2 := hide h2
  clear h1 h2 hp hl
  obtain ⟨w0, hw0⟩ : ∃ w0, w0 = ((w.alloc (Obj.cells #[vp, vl] 58)).alloc (Obj.cells #[.slice none 0 0, .slice none 0 0] 49)).alloc (Obj.cells #[.slice none 0 0, .slice none 0 0] 49) := ⟨_, rfl⟩
  have hb0 : Below w.heap.size w w0 := by rw [hw0]; exact (((Below.refl w.heap.size w).alloc (Nat.le_refl _) _).alloc (by simp) _).alloc (by simp; omega) _
  go_enter Tryd.func40, Tryd.ntmps40
  go_wp2_with fail
  rw [← hw0]
  refine (HC1.out _ (row_below H1.out hb0)).mono ?_
  rintro e w1 ⟨u1, rfl, hown1, hb1⟩
  obtain ⟨x1, c1, rfl⟩ := own_slice hown1
  obtain ⟨q0, q1, q2, hs0⟩ := three_allocs w (Obj.cells #[vp, vl] 58) (Obj.cells #[.slice none 0 0, .slice none 0 0] 49) (Obj.cells #[.slice none 0 0, .slice none 0 0] 49)
  rw [← hw0] at q0 q1 q2 hs0
  obtain ⟨a0, ha0⟩ : ∃ a, a = w.heap.size := ⟨_, rfl⟩
  rw [← ha0] at q0 q1 q2 hs0 ⊢
  obtain ⟨a1, ha1⟩ : ∃ a, a = a0 + 1 := ⟨_, rfl⟩
  obtain ⟨a2, ha2⟩ : ∃ a, a = a0 + 1 + 1 := ⟨_, rfl⟩
  rw [← ha2, ← ha1]
  rw [← ha1] at q1
  rw [← ha2] at q2
  have HW0 := hide hw0
  have HA := hide (⟨ha0, ha1, ha2, hs0⟩ : a0 = w.heap.size ∧ a1 = a0 + 1 ∧ a2 = a0 + 1 + 1 ∧ w0.heap.size = a0 + 3)
  have HB0 := hide hb0
  have r0 := (hb1.block a0 (by omega)).trans q0
  have r1 := (hb1.block a1 (by omega)).trans q1
  have r2 := (hb1.block a2 (by omega)).trans q2
  have hn20 : a2 ≠ a0 := by omega
  have hn21 : a2 ≠ a1 := by omega
  have hn10 : a1 ≠ a0 := by omega
  have HN := hide (⟨hn20, hn21, hn10⟩ : a2 ≠ a0 ∧ a2 ≠ a1 ∧ a1 ≠ a0)
  clear hw0 ha0 ha1 ha2 hs0 hb0 q0 q1 q2
  have s2 : (w1.setCell ⟨a2, 0, none⟩ (.slice x1 ps.length c1)).heap[a2]? = some (Obj.cells #[(.slice x1 ps.length c1), .slice none 0 0] 49) := heap_setCell_same w1 a2 0 _ _ _ r2
  have s0 : (w1.setCell ⟨a2, 0, none⟩ (.slice x1 ps.length c1)).heap[a0]? = some (Obj.cells #[vp, vl] 58) := (heap_setCell_other w1 ⟨a2, 0, none⟩ a0 (.slice x1 ps.length c1) (by exact fun e => hn20 e.symm)).trans r0
  have s1 : (w1.setCell ⟨a2, 0, none⟩ (.slice x1 ps.length c1)).heap[a1]? = some (Obj.cells #[.slice none 0 0, .slice none 0 0] 49) := (heap_setCell_other w1 ⟨a2, 0, none⟩ a1 (.slice x1 ps.length c1) (by exact fun e => hn21 e.symm)).trans r1
  have c20 : w1.cell? ⟨a2, 0, none⟩ = some (.slice none 0 0) := (cell_at r2 0).1
  have f20 := (cell_at r2 0).2
  have c01 : (w1.setCell ⟨a2, 0, none⟩ (.slice x1 ps.length c1)).cell? ⟨a0, 1, none⟩ = some vl := (cell_at s0 1).1
  have HB1 := hide hb1
  have HO1 := hide hown1
  have HR := hide (⟨s0, s1, s2⟩ : (w1.setCell ⟨a2, 0, none⟩ (.slice x1 ps.length c1)).heap[a0]? = some (Obj.cells #[vp, vl] 58) ∧ (w1.setCell ⟨a2, 0, none⟩ (.slice x1 ps.length c1)).heap[a1]? = some (Obj.cells #[.slice none 0 0, .slice none 0 0] 49) ∧ (w1.setCell ⟨a2, 0, none⟩ (.slice x1 ps.length c1)).heap[a2]? = some (Obj.cells #[(.slice x1 ps.length c1), .slice none 0 0] 49))
  clear hb1 hown1 r0 r1 r2 s0 s1 s2 hn20 hn21 hn10
  go_wp2_with fail
  have HB2 : Hid (Below w.heap.size w (w1.setCell ⟨a2, 0, none⟩ (.slice x1 ps.length c1))) := hide ((HB0.out.trans (HB1.out.mono HB0.out.size)).setCell (by have := HA.out; show _ ≤ a2; omega) _)
  refine (HC2.out _ (row_below H2.out HB2.out)).mono ?_
  rintro e w3 ⟨u2, rfl, hown2, hb3⟩
  obtain ⟨x2, c2, rfl⟩ := own_slice hown2
  have hsz : (w1.setCell ⟨a2, 0, none⟩ (.slice x1 ps.length c1)).heap.size = w1.heap.size := by simp
  have hlt2 : a2 < (w1.setCell ⟨a2, 0, none⟩ (.slice x1 ps.length c1)).heap.size := (Array.getElem?_eq_some_iff.1 HR.out.2.2).1
  have hlt1 : a1 < (w1.setCell ⟨a2, 0, none⟩ (.slice x1 ps.length c1)).heap.size := (Array.getElem?_eq_some_iff.1 HR.out.2.1).1
  have t1 := (hb3.block a1 hlt1).trans HR.out.2.1
  have t2 := (hb3.block a2 hlt2).trans HR.out.2.2
  have d21 : w3.cell? ⟨a2, 1, none⟩ = some (.slice none 0 0) := (cell_at t2 1).1
  have f21 := (cell_at t2 1).2
  have v2 : (w3.setCell ⟨a2, 1, none⟩ (.slice x2 ls.length c2)).heap[a2]? = some (Obj.cells #[.slice x1 ps.length c1, .slice x2 ls.length c2] 49) := heap_setCell_same w3 a2 1 _ _ _ t2
  have v1 : (w3.setCell ⟨a2, 1, none⟩ (.slice x2 ls.length c2)).heap[a1]? = some (Obj.cells #[.slice none 0 0, .slice none 0 0] 49) := (heap_setCell_other w3 ⟨a2, 1, none⟩ a1 _ (by exact fun e => HN.out.2.1 e.symm)).trans t1
  have e20 : (w3.setCell ⟨a2, 1, none⟩ (.slice x2 ls.length c2)).cell? ⟨a2, 0, none⟩ = some (.slice x1 ps.length c1) := (cell_at v2 0).1
  have e21 : (w3.setCell ⟨a2, 1, none⟩ (.slice x2 ls.length c2)).cell? ⟨a2, 1, none⟩ = some (.slice x2 ls.length c2) := (cell_at v2 1).1
  have e10 : (w3.setCell ⟨a2, 1, none⟩ (.slice x2 ls.length c2)).cell? ⟨a1, 0, none⟩ = some (.slice none 0 0) := (cell_at v1 0).1
  have e11 : (w3.setCell ⟨a2, 1, none⟩ (.slice x2 ls.length c2)).cell? ⟨a1, 1, none⟩ = some (.slice none 0 0) := (cell_at v1 1).1
  have g10 := (cell_at v1 0).2
  have g11 := (cell_at v1 1).2
  have HB3 := hide hb3
  have HO2 := hide hown2
  have HV := hide v1
  clear hb3 hown2 t1 t2 v1 v2 hlt1 hlt2 hsz
  go_wp2_with fail
  have y1 : ((w3.setCell ⟨a2, 1, none⟩ (.slice x2 ls.length c2)).setCell ⟨a1, 0, none⟩ (.slice x1 ps.length c1)).heap[a1]? = some (Obj.cells #[.slice x1 ps.length c1, .slice none 0 0] 49) := heap_setCell_same _ a1 0 _ _ _ HV.out
  have y2 : (((w3.setCell ⟨a2, 1, none⟩ (.slice x2 ls.length c2)).setCell ⟨a1, 0, none⟩ (.slice x1 ps.length c1)).setCell ⟨a1, 1, none⟩ (.slice x2 ls.length c2)).heap[a1]? = some (Obj.cells #[.slice x1 ps.length c1, .slice x2 ls.length c2] 49) := heap_setCell_same _ a1 1 _ _ _ y1
  have z0 := (cell_at y2 0).1
  have z1 := (cell_at y2 1).1
  have hA := HA.out
  have k1 : Kept w1 (w1.setCell ⟨a2, 0, none⟩ (.slice x1 ps.length c1)) (fun k => k = a1 ∨ k = a2) := kept_mono (kept_setCell _ _ _ _) (fun j _ h => Or.inr h)
  have k2 : Kept w3 (((w3.setCell ⟨a2, 1, none⟩ (.slice x2 ls.length c2)).setCell ⟨a1, 0, none⟩ (.slice x1 ps.length c1)).setCell ⟨a1, 1, none⟩ (.slice x2 ls.length c2)) (fun k => k = a1 ∨ k = a2) := kept_trans (kept_trans (kept_mono (kept_setCell _ _ _ _) (fun j _ h => Or.inr h)) (kept_setCell _ _ _ _) (fun j _ h => Or.inl h)) (kept_setCell _ _ _ _) (fun j _ h => Or.inl h)
  have k3 := kept_trans (kept_trans k1 (kept_of_all HB3.out (fun _ => False)) (fun j _ h => h.elim)) k2 (fun j _ h => h)
  refine bodyPost_ret (v := .agg #[.slice x1 ps.length c1, .slice x2 ls.length c2]) (by simp [results, Tryd.results40, go_sem, z0, z1]) rfl ⟨_, rfl, ⟨_, _, rfl, ?_, ?_⟩, ?_⟩
  · exact own_down (own_kept HO1.out k3 (fun k hk => by have := (HO1.out.lt k hk).1; omega)) (by omega)
  · refine own_down (own_kept HO2.out k2 (fun k hk => by have h1 := (HO2.out.lt k hk).1; have h2 := HB1.out.size; simp at h1; omega)) (by have h2 := HB1.out.size; simp; omega)
  · refine ((((HB2.out.trans (HB3.out.mono HB2.out.size)).setCell ?_ _).setCell ?_ _).setCell ?_ _)
    · show _ ≤ a2; omega
    · show _ ≤ a1; omega
    · show _ ≤ a1; omega

set_option maxHeartbeats 1000000 in
theorem eqDisk_any (v u : Value) (ps qs : List ByteArray) (ls ms : List (Int × ByteArray)) (hp : ps.length ≤ 9223372036854775807) (hq : qs.length ≤ 9223372036854775807) (hl : ls.length ≤ 9223372036854775807) (hm : ms.length ≤ 9223372036854775807) (w : World) (hd : DiskAt w v ps ls) (hu : DiskAt w u qs ms) :
    Calls Tryd.prog 42 #[v, u] w fun e w' => e = .returned (.bool (decide ((ps, ls) = (qs, ms)))) ∧ Below w.heap.size w w' := by
  obtain ⟨vp, vl, rfl, h1, h2⟩ := hd
  obtain ⟨up, ul, rfl, h3, h4⟩ := hu
  have HC1 := hide (fun wx h h' => eqStringS_row ps qs hp hq vp up wx h h')
  have HC2 := hide (fun wx h h' => eqPutS_row ls ms hl hm vl ul wx h h')
  have HR := hide (⟨h1, h2, h3, h4⟩ : RowAt w 1 vp ps.length (strs ps) ∧ RowAt w 2 vl ls.length (puts ls) ∧ RowAt w 1 up qs.length (strs qs) ∧ RowAt w 2 ul ms.length (puts ms))
  clear h1 h2 h3 h4 hp hq hl hm
  obtain ⟨w0, hw0⟩ : ∃ w0, w0 = (w.alloc (Obj.cells #[vp, vl] 49)).alloc (Obj.cells #[up, ul] 49) := ⟨_, rfl⟩
  have hb0 : Below w.heap.size w w0 := by rw [hw0]; exact ((Below.refl w.heap.size w).alloc (Nat.le_refl _) _).alloc (by simp) _
  obtain ⟨q0, q1, hs0⟩ := two_allocs w (Obj.cells #[vp, vl] 49) (Obj.cells #[up, ul] 49)
  rw [← hw0] at q0 q1 hs0
  have HB0 := hide hb0
  have HQ := hide (⟨q0, q1, hs0⟩ : w0.heap[w.heap.size]? = some (Obj.cells #[vp, vl] 49) ∧ w0.heap[w.heap.size + 1]? = some (Obj.cells #[up, ul] 49) ∧ w0.heap.size = w.heap.size + 2)
  clear hb0 q0 q1 hs0
  by_cases h1 : ps = qs
  · rw [decide_eq_true h1] at HC1
    go_enter Tryd.func42, Tryd.ntmps42
    go_wp2_with fail
    rw [← hw0]
    refine (HC1.out _ (row_below HR.out.1 HB0.out) (row_below HR.out.2.2.1 HB0.out)).mono ?_
    rintro e w1 ⟨rfl, hb1⟩
    have HB1 : Hid (Below w.heap.size w w1) := hide (HB0.out.trans (hb1.mono HB0.out.size))
    have c0 : w1.cell? ⟨w.heap.size, 1, none⟩ = some vl := (cell_at ((hb1.block _ (by rw [HQ.out.2.2]; omega)).trans HQ.out.1) 1).1
    have c1 : w1.cell? ⟨w.heap.size + 1, 1, none⟩ = some ul := (cell_at ((hb1.block _ (by rw [HQ.out.2.2]; omega)).trans HQ.out.2.1) 1).1
    have HW := hide hw0
    clear hb1 hw0
    by_cases h2 : ls = ms
    · rw [decide_eq_true h2] at HC2
      have HD : Hid (decide ((ps, ls) = (qs, ms)) = true) := hide (by rw [h1, h2]; simp)
      clear h1 h2
      go_wp2_with fail
      refine (HC2.out _ (row_below HR.out.2.1 HB1.out) (row_below HR.out.2.2.2 HB1.out)).mono ?_
      rintro e w2 ⟨rfl, hb2⟩
      go_wp2_with fail
      go_ret
      rw [HD.out]
      exact ⟨rfl, HB1.out.trans (hb2.mono HB1.out.size)⟩
    · rw [decide_eq_false h2] at HC2
      have HD : Hid (decide ((ps, ls) = (qs, ms)) = false) := hide (by simp [h2])
      clear h1 h2
      go_wp2_with fail
      refine (HC2.out _ (row_below HR.out.2.1 HB1.out) (row_below HR.out.2.2.2 HB1.out)).mono ?_
      rintro e w2 ⟨rfl, hb2⟩
      go_wp2_with fail
      go_ret
      rw [HD.out]
      exact ⟨rfl, HB1.out.trans (hb2.mono HB1.out.size)⟩
  · rw [decide_eq_false h1] at HC1
    have HD : Hid (decide ((ps, ls) = (qs, ms)) = false) := hide (by simp [h1])
    clear h1
    go_enter Tryd.func42, Tryd.ntmps42
    go_wp2_with fail
    rw [← hw0]
    refine (HC1.out _ (row_below HR.out.1 HB0.out) (row_below HR.out.2.2.1 HB0.out)).mono ?_
    rintro e w1 ⟨rfl, hb1⟩
    have HW := hide hw0
    clear hw0
    go_wp2_with fail
    go_ret
    rw [HD.out]
    exact ⟨rfl, HB0.out.trans (hb1.mono HB0.out.size)⟩

theorem Tryd.types_part : (9 : Nat) ≠ 115 := by decide

set_option maxHeartbeats 1000000 in
theorem markDisk_any (v : Value) (ps : List ByteArray) (ls : List (Int × ByteArray)) (B k0 : Nat) (hn : ps.length ≤ 1048576) (hm : ls.length ≤ 1048576) (hk0 : 0 < k0) (hk1 : k0 ≤ 1000000000) (w : World) (hd : DiskOwn w B v ps ls) :
    Calls Tryd.prog 46 #[v, .int .i64 (k0 : Int)] w fun e w' => e = .returned (.int .i64 ((k0 + ps.length + ls.length * 2 : Nat) : Int)) ∧ DiskOwn w' B v (marksS k0 ps.length) (marksP (k0 + ps.length) ls.length) ∧ Kept w w' (diskBlocks v) := by
  obtain ⟨vp, vl, rfl, h1, h2⟩ := hd
  have HC1 := hide (fun wx h => markStringS_row ps hn vp B k0 hk0 (by omega) wx h)
  have HC2 := hide (fun wx h => markPutS_row ls hm vl B (k0 + ps.length) (by omega) (by omega) wx h)
  have H1 := hide h1
  have H2 := hide h2
  have hb0 : ∀ o, Below w.heap.size w (w.alloc o) := fun o => (Below.refl w.heap.size w).alloc (Nat.le_refl _) _
  have HB0 := hide hb0
  obtain ⟨r, hr⟩ : ∃ r, r = k0 + ps.length := ⟨_, rfl⟩
  have hrl : r ≤ 1002000000 := by omega
  rw [← hr] at HC1 HC2 ⊢
  obtain ⟨z, hz⟩ : ∃ z, z = r + ls.length * 2 := ⟨_, rfl⟩
  rw [← hz] at HC2 ⊢
  have hzl : z ≤ 1010000000 := by omega
  clear h1 h2 hb0 hr hz hn hm hk0
  go_enter Tryd.func46, Tryd.ntmps46
  go_wp2_with fail
  refine (HC1.out _ (own_stays H1.out (HB0.out _))).mono ?_
  rintro e w1 ⟨rfl, hown1, hk⟩
  have hlt : ∀ k, vp.ownBlock = some k → k < w.heap.size := fun k h => (H1.out.lt k h).2
  have hlt2 : ∀ k, vl.ownBlock = some k → k < w.heap.size := fun k h => (H2.out.lt k h).2
  have c0 : w1.cell? ⟨w.heap.size, 1, none⟩ = some vl := (cell_at ((hk.2.2.2.2 w.heap.size (by simp) (fun e => by have := hlt _ e; omega)).trans (heap_alloc_new w _)) 1).1
  have HO2 := hide (own_kept (own_stays H2.out (HB0.out (Obj.cells #[vp, vl] 49))) hk (fun k h => one_type H2.out H1.out Tryd.types_part.symm k h))
  have HO1 := hide hown1
  have HK := hide (kept_trans (kept_of_all (HB0.out (Obj.cells #[vp, vl] 49)) (fun k => diskBlocks (.agg #[vp, vl]) k)) hk (fun j _ h => ⟨vp, vl, rfl, Or.inl h⟩))
  clear hk hown1 hlt hlt2
  go_wp2_with fail
  refine (HC2.out _ HO2.out).mono ?_
  rintro e w2 ⟨rfl, hown2, hk2⟩
  go_wp2_with fail
  go_ret
  refine ⟨rfl, ⟨vp, vl, rfl, ?_, ?_⟩, kept_trans HK.out hk2 (fun j _ h => ⟨vp, vl, rfl, Or.inr h⟩)⟩
  · rw [marksS_length]; exact own_kept HO1.out hk2 (fun k h => one_type HO1.out HO2.out Tryd.types_part k h)
  · rw [marksP_length]; exact hown2
end Go.Proofs.YtglcfaibgjiigaaDoor

namespace Go.Proofs.YtglcfaibgjiigaaDoor
open Go.RowKit

/-- among the first k puts the text of the last one to this page -/
def lateAt (ls : List (Int × ByteArray)) (page : Int) : Nat → Option ByteArray
  | 0 => none
  | k + 1 => match ls[k]? with
    | some p => if p.1 = page then some p.2 else lateAt ls page k
    | none => lateAt ls page k

theorem lateAt_hit {ls : List (Int × ByteArray)} {page : Int} {k : Nat} {t : ByteArray} (h : ls[k]? = some (page, t)) : lateAt ls page (k + 1) = some t := by
  rw [lateAt, h]; simp

theorem lateAt_miss {ls : List (Int × ByteArray)} {page q : Int} {k : Nat} {t : ByteArray} (h : ls[k]? = some (q, t)) (hne : q ≠ page) : lateAt ls page (k + 1) = lateAt ls page k := by
  rw [lateAt, h]; simp [hne]

/-- what is read of a page -/
def readD (ps : List ByteArray) (ls : List (Int × ByteArray)) (page : Int) : ByteArray :=
  if 0 ≤ page ∧ page < (ps.length : Int) then
    match lateAt ls page ls.length with
    | some t => t
    | none => ps.getD page.toNat ⟨#[]⟩
  else ⟨#[]⟩

theorem readD_out {ps : List ByteArray} {ls : List (Int × ByteArray)} {page : Int} (h : page < 0 ∨ (ps.length : Int) ≤ page) : readD ps ls page = ⟨#[]⟩ := if_neg (by omega)

theorem readD_late {ps : List ByteArray} {ls : List (Int × ByteArray)} {page : Int} {t : ByteArray} (h : 0 ≤ page ∧ page < (ps.length : Int)) (hl : lateAt ls page ls.length = some t) : readD ps ls page = t := by
  rw [readD, if_pos h, hl]

theorem readD_page {ps : List ByteArray} {ls : List (Int × ByteArray)} {page : Int} (h : 0 ≤ page ∧ page < (ps.length : Int)) (hl : lateAt ls page ls.length = none) : readD ps ls page = ps.getD page.toNat ⟨#[]⟩ := by
  rw [readD, if_pos h, hl]

/-- when a disk is right -/
def diskOkB (ps : List ByteArray) (ls : List (Int × ByteArray)) : Bool :=
  ps.all (fun s => decide (s.size ≤ 240)) && ls.all (fun p => decide (0 ≤ p.1 ∧ p.1 < (ps.length : Int) ∧ p.2.size ≤ 240)) && decide (4 ≤ ps.length ∧ ps.length ≤ 40 ∧ ls.length ≤ 200)

theorem diskOk_page {ps : List ByteArray} {ls : List (Int × ByteArray)} {k : Nat} (h : k < ps.length) (hb : 240 < ps[k].size) : diskOkB ps ls = false := by
  have : ps.all (fun s => decide (s.size ≤ 240)) = false := by
    rw [List.all_eq_false]
    exact ⟨ps[k], List.getElem_mem h, by simp; omega⟩
  rw [diskOkB, this]; rfl

theorem diskOk_late {ps : List ByteArray} {ls : List (Int × ByteArray)} {k : Nat} (h : k < ls.length) (hb : ¬ (0 ≤ ls[k].1 ∧ ls[k].1 < (ps.length : Int) ∧ ls[k].2.size ≤ 240)) : diskOkB ps ls = false := by
  have : ls.all (fun p => decide (0 ≤ p.1 ∧ p.1 < (ps.length : Int) ∧ p.2.size ≤ 240)) = false := by
    rw [List.all_eq_false]
    exact ⟨ls[k], List.getElem_mem h, by simpa using hb⟩
  rw [diskOkB, this]; simp

theorem diskOk_all {ps : List ByteArray} {ls : List (Int × ByteArray)} (h1 : ∀ i (h : i < ps.length), ps[i].size ≤ 240) (h2 : ∀ i (h : i < ls.length), 0 ≤ ls[i].1 ∧ ls[i].1 < (ps.length : Int) ∧ ls[i].2.size ≤ 240) : diskOkB ps ls = decide (4 ≤ ps.length ∧ ps.length ≤ 40 ∧ ls.length ≤ 200) := by
  have e1 : ps.all (fun s => decide (s.size ≤ 240)) = true := by
    rw [List.all_eq_true]
    intro s hs
    obtain ⟨i, hi, rfl⟩ := List.getElem_of_mem hs
    simpa using h1 i hi
  have e2 : ls.all (fun p => decide (0 ≤ p.1 ∧ p.1 < (ps.length : Int) ∧ p.2.size ≤ 240)) = true := by
    rw [List.all_eq_true]
    intro s hs
    obtain ⟨i, hi, rfl⟩ := List.getElem_of_mem hs
    simpa using h2 i hi
  rw [diskOkB, e1, e2]; rfl

theorem diskOk_yes {ps : List ByteArray} {ls : List (Int × ByteArray)} (h : diskOkB ps ls = true) : (∀ s ∈ ps, s.size ≤ 240) ∧ (∀ p ∈ ls, 0 ≤ p.1 ∧ p.1 < (ps.length : Int) ∧ p.2.size ≤ 240) ∧ 4 ≤ ps.length ∧ ps.length ≤ 40 ∧ ls.length ≤ 200 := by
  unfold diskOkB at h
  simp only [Bool.and_eq_true, List.all_eq_true, decide_eq_true_eq] at h
  obtain ⟨⟨h1, h2⟩, h3⟩ := h
  exact ⟨h1, h2, h3⟩

/-- a put is kept -/
def putD (ps : List ByteArray) (p : Int × ByteArray) : List ByteArray := if 0 ≤ p.1 ∧ p.1 < (ps.length : Int) then ps.set p.1.toNat p.2 else ps

/-- all that is late is kept, in order -/
def syncD (ps : List ByteArray) (ls : List (Int × ByteArray)) : List ByteArray := ls.foldl putD ps

theorem putD_length (ps : List ByteArray) (p : Int × ByteArray) : (putD ps p).length = ps.length := by
  unfold putD
  split
  · rw [List.length_set]
  · rfl

theorem syncD_length (ls : List (Int × ByteArray)) : ∀ ps : List ByteArray, (syncD ps ls).length = ps.length := by
  induction ls with
  | nil => intro ps; rfl
  | cons p ls ih => intro ps; rw [syncD, List.foldl_cons]; exact (ih _).trans (putD_length ps p)

theorem syncD_succ (ps : List ByteArray) (ls : List (Int × ByteArray)) (k : Nat) (h : k < ls.length) : syncD ps (ls.take (k + 1)) = putD (syncD ps (ls.take k)) ls[k] := by
  rw [List.take_succ_eq_append_getElem h, syncD, List.foldl_append]
  rfl

end Go.Proofs.YtglcfaibgjiigaaDoor

namespace Go.Proofs.YtglcfaibgjiigaaDoor
open Go.RowKit

theorem l01In_any (x a b : Int) (w : World) : Calls Tryd.prog 67 #[.int .i64 x, .int .i64 a, .int .i64 b] w fun e w' => e = .returned (.bool (decide (a ≤ x ∧ x ≤ b))) ∧ w = w' := by
  by_cases h : a ≤ x ∧ x ≤ b
  · rw [decide_eq_true h]; exact l01In_yes x a b w h.1 h.2
  · rw [decide_eq_false h]; exact l01In_no x a b w (by omega)

set_option maxHeartbeats 1000000 in
theorem specReadPage_any (v : Value) (ps : List ByteArray) (ls : List (Int × ByteArray)) (hp : ps.length ≤ 1048576) (hl : ls.length ≤ 1048576) (page : Int) (w : World) (hd : DiskAt w v ps ls) :
    Calls Tryd.prog 93 #[v, .int .i64 page] w fun e w' => e = .returned (.string (readD ps ls page)) ∧ Below w.heap.size w w' := by
  obtain ⟨vp, vl, rfl, h1, h2⟩ := hd
  obtain ⟨x1, c1, rfl⟩ : ∃ a cap, vp = .slice a ps.length cap := by obtain ⟨-, a, cap, e, -⟩ := h1; exact ⟨a, cap, e⟩
  obtain ⟨x2, c2, rfl⟩ : ∃ a cap, vl = .slice a ls.length cap := by obtain ⟨-, a, cap, e, -⟩ := h2; exact ⟨a, cap, e⟩
  have H1 := hide h1
  have H2 := hide h2
  clear h1 h2
  have HC := hide (l01In_any page 0 ((ps.length : Int) - 1))
  have hb0 : Below w.heap.size w (w.alloc (Obj.cells #[.slice x1 ps.length c1, .slice x2 ls.length c2] 49)) := (Below.refl w.heap.size w).alloc (Nat.le_refl _) _
  have HB0 := hide hb0
  clear hb0
  by_cases hin : 0 ≤ page ∧ page ≤ (ps.length : Int) - 1
  · rw [decide_eq_true hin] at HC
    go_enter Tryd.func93, Tryd.ntmps93
    go_wp2_with fail
    refine (HC.out _).mono ?_
    rintro e w1 ⟨rfl, rfl⟩
    go_wp2_with fail
    obtain ⟨w0, hw0⟩ : ∃ w0, w0 = w.alloc (Obj.cells #[.slice x1 ps.length c1, .slice x2 ls.length c2] 49) := ⟨_, rfl⟩
    rw [← hw0]
    rw [← hw0] at HB0
    have hblk : w0.heap[w.heap.size]? = some (Obj.cells #[.slice x1 ps.length c1, .slice x2 ls.length c2] 49) := by rw [hw0]; exact heap_alloc_new w _
    have cb0 : w0.cell? ⟨w.heap.size, 0, none⟩ = some (.slice x1 ps.length c1) := (cell_at hblk 0).1
    have cb1 : w0.cell? ⟨w.heap.size, 1, none⟩ = some (.slice x2 ls.length c2) := (cell_at hblk 1).1
    clear hw0 hblk
    go_loopg [5] ls.length (fun q iv wr => ∃ k : Nat, k ≤ ls.length ∧ iv = .int .i64 ((k : Int) - 1) ∧ q = k ∧ Hid (lateAt ls page ls.length = lateAt ls page k) ∧ w0 = wr)
    case atStart => exact ⟨ls.length, Nat.le_refl _, rfl, rfl, hide rfl, rfl⟩
    case round =>
      obtain ⟨k, hk, rfl, hgk, HL, rfl⟩ := hrel
      have HGk := hide hgk
      clear hgk
      by_cases hk0 : k = 0
      · subst hk0
        have HO : Hid (readD ps ls page = ps.getD page.toNat ⟨#[]⟩) := hide (readD_page (by omega) (by rw [HL.out]; rfl))
        obtain ⟨n, hn⟩ := Int.eq_ofNat_of_zero_le hin.1
        have hnl : n < ps.length := by omega
        obtain ⟨x, hx⟩ : ∃ x, x = ps.getD page.toNat ⟨#[]⟩ := ⟨_, rfl⟩
        rcases H1.out.2 with ⟨a, cap, e, h0 | ⟨b, off, e2, hbl, hc⟩⟩
        · omega
        · injection e with e1 e3 e4
          subst e1 e4
          subst e2
          have hcell : w0.cell? ⟨b, off + n, none⟩ = some (.string x) := by
            rw [HB0.out.cell (by exact hbl), hc n (by omega), strs_at ps n hnl, hx, hn]
            simp [List.getD, hnl]
          rw [← hx] at HO
          subst hn
          have hi0 : (0 : Int) ≤ (n : Int) := by omega
          have hi1 : (n : Int) < (ps.length : Int) := by omega
          clear hx hc
          go_wp2_with fail
          go_ret
          rw [HO.out]
          exact ⟨rfl, HB0.out⟩
      · obtain ⟨j, rfl⟩ : ∃ j, k = j + 1 := ⟨k - 1, by omega⟩
        have hjl : j < ls.length := by omega
        rcases H2.out.2 with ⟨a, cap, e, h0 | ⟨b, off, e2, hbl, hc⟩⟩
        · omega
        · injection e with e1 e3 e4
          subst e1 e4
          subst e2
          obtain ⟨q, t, hqt⟩ : ∃ q t, (q, t) = ls[j] := ⟨_, _, rfl⟩
          have hget : ls[j]? = some (q, t) := by rw [List.getElem?_eq_getElem hjl, hqt]
          have hc0 : w0.cell? ⟨b, off + j * 2, none⟩ = some (.int .i64 q) := by rw [HB0.out.cell (by exact hbl), hc (j * 2) (by omega), (puts_at ls j hjl).1, ← hqt]
          have hc1 : w0.cell? ⟨b, off + j * 2 + 1, none⟩ = some (.string t) := by rw [HB0.out.cell (by exact hbl), Nat.add_assoc, hc (j * 2 + 1) (by omega), (puts_at ls j hjl).2, ← hqt]
          have hi0 : (0 : Int) ≤ (j : Int) := by omega
          have hi1 : (j : Int) < (ls.length : Int) := by omega
          have hij : ((j + 1 : Nat) : Int) - 1 = (j : Int) := by omega
          rw [hij]
          have HGet := hide hget
          clear hc hqt hget hij
          by_cases hq : q = page
          · subst hq
            have HO : Hid (readD ps ls q = t) := hide (readD_late (by omega) (by rw [HL.out]; exact lateAt_hit HGet.out))
            go_wp2_with fail
            go_ret
            rw [HO.out]
            exact ⟨rfl, HB0.out⟩
          · have HL2 : Hid (lateAt ls page ls.length = lateAt ls page j) := hide (by rw [HL.out]; exact lateAt_miss HGet.out hq)
            go_wp2_with fail
            go_roundg j
            case measure => have := HGk.out; omega
            case rel => exact ⟨j, by omega, by go_num, rfl, HL2, rfl⟩
  · rw [decide_eq_false hin] at HC
    have HO : Hid (readD ps ls page = ⟨#[]⟩) := hide (readD_out (by omega))
    go_enter Tryd.func93, Tryd.ntmps93
    go_wp2_with fail
    refine (HC.out _).mono ?_
    rintro e w1 ⟨rfl, rfl⟩
    go_wp2_with fail
    go_ret
    rw [HO.out]
    exact ⟨rfl, HB0.out⟩

set_option maxHeartbeats 2000000 in
set_option maxRecDepth 100000 in
theorem specDiskOk_any (v : Value) (ps : List ByteArray) (ls : List (Int × ByteArray)) (hp : ps.length ≤ 1048576) (hl : ls.length ≤ 1048576) (hps : ∀ s ∈ ps, s.size ≤ 1048576) (hls : ∀ p ∈ ls, p.2.size ≤ 1048576) (w : World) (hd : DiskAt w v ps ls) :
    Calls Tryd.prog 91 #[v] w fun e w' => e = .returned (.bool (diskOkB ps ls)) ∧ Below w.heap.size w w' := by
  obtain ⟨vp, vl, rfl, h1, h2⟩ := hd
  obtain ⟨x1, c1, rfl⟩ : ∃ a cap, vp = .slice a ps.length cap := by obtain ⟨-, a, cap, e, -⟩ := h1; exact ⟨a, cap, e⟩
  obtain ⟨x2, c2, rfl⟩ : ∃ a cap, vl = .slice a ls.length cap := by obtain ⟨-, a, cap, e, -⟩ := h2; exact ⟨a, cap, e⟩
  have H1 := hide h1
  have H2 := hide h2
  have HPs := hide hps
  have HLs := hide hls
  clear h1 h2 hps hls
  go_enter Tryd.func91, Tryd.ntmps91
  go_wp2_with fail
  obtain ⟨w0, hw0⟩ : ∃ w0, w0 = w.alloc (Obj.cells #[.slice x1 ps.length c1, .slice x2 ls.length c2] 49) := ⟨_, rfl⟩
  have hb0 : Below w.heap.size w w0 := by rw [hw0]; exact (Below.refl w.heap.size w).alloc (Nat.le_refl _) _
  have hblk : w0.heap[w.heap.size]? = some (Obj.cells #[.slice x1 ps.length c1, .slice x2 ls.length c2] 49) := by rw [hw0]; exact heap_alloc_new w _
  have hsz : w.heap.size < w0.heap.size := (Array.getElem?_eq_some_iff.1 hblk).1
  rw [← hw0]
  have HB0 := hide hb0
  have HBk := hide hblk
  have HSz := hide hsz
  clear hw0 hb0 hblk hsz
  go_loopg [3] ps.length (fun q iv wr => ∃ k : Nat, k ≤ ps.length ∧ iv = .int .i64 (k : Int) ∧ q + k = ps.length ∧ Hid (∀ i (h : i < ps.length), i < k → ps[i].size ≤ 240) ∧ w0 = wr)
  case atStart => exact ⟨0, Nat.zero_le _, rfl, rfl, hide (fun i h h0 => by omega), rfl⟩
  case round =>
    obtain ⟨k, hk, rfl, hg, HA, rfl⟩ := hrel
    have HG := hide hg
    clear hg
    have cb0 : w0.cell? ⟨w.heap.size, 0, none⟩ = some (.slice x1 ps.length c1) := (cell_at HBk.out 0).1
    have cb1 : w0.cell? ⟨w.heap.size, 1, none⟩ = some (.slice x2 ls.length c2) := (cell_at HBk.out 1).1
    by_cases hlt : k < ps.length
    · rcases H1.out.2 with ⟨a, cap, e, h0 | ⟨b, off, e2, hbl, hc⟩⟩
      · omega
      · injection e with e1 e3 e4
        subst e1 e4
        subst e2
        obtain ⟨x, hx⟩ : ∃ x, x = ps[k] := ⟨_, rfl⟩
        have hxs : x.size ≤ 1048576 := by rw [hx]; exact HPs.out _ (List.getElem_mem hlt)
        have hcell : w0.cell? ⟨b, off + k, none⟩ = some (.string x) := by rw [HB0.out.cell (by exact hbl), hc k (by omega), strs_at ps k hlt, hx]
        have HX := hide hx
        have hi0 : (0 : Int) ≤ (k : Int) := by omega
        have hi1 : (k : Int) < (ps.length : Int) := by omega
        clear hx hc
        by_cases hbig : 240 < x.size
        · have HO : Hid (diskOkB ps ls = false) := hide (diskOk_page hlt (by rw [← HX.out]; exact hbig))
          go_wp2_with fail
          go_ret
          rw [HO.out]
          exact ⟨rfl, HB0.out⟩
        · have HA2 : Hid (∀ i (h : i < ps.length), i < k + 1 → ps[i].size ≤ 240) := hide (fun i h hi => by
            by_cases e : i = k
            · subst e; rw [← HX.out]; omega
            · exact HA.out i h (by omega))
          go_wp2_with fail
          go_roundg (gk - 1)
          case measure => have := HG.out; omega
          case rel => exact ⟨k + 1, by omega, by go_num, by have := HG.out; omega, HA2, rfl⟩
    · have HAll : Hid (∀ i (h : i < ps.length), ps[i].size ≤ 240) := hide (fun i h => HA.out i h (by omega))
      have HCi := hide (l01In_any (ps.length : Int) 4 40)
      clear HA
      go_wp2_with fail
      go_loopg [4] ls.length (fun q iv wr => ∃ j : Nat, j ≤ ls.length ∧ iv = .int .i64 (j : Int) ∧ q + j = ls.length ∧ Hid (∀ i (h : i < ls.length), i < j → 0 ≤ ls[i].1 ∧ ls[i].1 < (ps.length : Int) ∧ ls[i].2.size ≤ 240) ∧ Below w0.heap.size w0 wr)
      case atStart => exact ⟨0, Nat.zero_le _, rfl, rfl, hide (fun i h h0 => by omega), Below.refl _ _⟩
      case round =>
        obtain ⟨j, hj, rfl, hg, HA, hbw⟩ := hrel
        have HG2 := hide hg
        have HBw := hide hbw
        have HBa : Hid (Below w.heap.size w wr) := hide (HB0.out.trans (hbw.mono HB0.out.size))
        have cd0 : wr.cell? ⟨w.heap.size, 0, none⟩ = some (.slice x1 ps.length c1) := (hbw.cell (by exact HSz.out)).trans cb0
        have cd1 : wr.cell? ⟨w.heap.size, 1, none⟩ = some (.slice x2 ls.length c2) := (hbw.cell (by exact HSz.out)).trans cb1
        clear hg hbw cb0 cb1
        by_cases hjl : j < ls.length
        · rcases H2.out.2 with ⟨a, cap, e, h0 | ⟨b, off, e2, hbl, hc⟩⟩
          · omega
          · injection e with e1 e3 e4
            subst e1 e4
            subst e2
            obtain ⟨q, t, hqt⟩ : ∃ q t, (q, t) = ls[j] := ⟨_, _, rfl⟩
            have hts : t.size ≤ 1048576 := by have := HLs.out _ (List.getElem_mem hjl); rw [← hqt] at this; exact this
            have hc0 : wr.cell? ⟨b, off + j * 2, none⟩ = some (.int .i64 q) := by rw [HBa.out.cell (by exact hbl), hc (j * 2) (by omega), (puts_at ls j hjl).1, ← hqt]
            have hc1 : wr.cell? ⟨b, off + j * 2 + 1, none⟩ = some (.string t) := by rw [HBa.out.cell (by exact hbl), Nat.add_assoc, hc (j * 2 + 1) (by omega), (puts_at ls j hjl).2, ← hqt]
            have hi0 : (0 : Int) ≤ (j : Int) := by omega
            have hi1 : (j : Int) < (ls.length : Int) := by omega
            have hw1 : IntKind.i64.wrap ((ps.length : Int) - 1) = (ps.length : Int) - 1 := IntWalk.i64_in _ ⟨by omega, by omega⟩
            have HQT := hide hqt
            have HC := hide (l01In_any q 0 ((ps.length : Int) - 1))
            clear hc hqt
            by_cases hin : 0 ≤ q ∧ q ≤ (ps.length : Int) - 1
            · rw [decide_eq_true hin] at HC
              by_cases hbig : 240 < t.size
              · have HO : Hid (diskOkB ps ls = false) := hide (diskOk_late hjl (by rw [← HQT.out]; show ¬ (0 ≤ q ∧ q < (ps.length : Int) ∧ t.size ≤ 240); omega))
                have hd1 : decide ((240 : Int) < (t.size : Int)) = true := by simp; omega
                go_wp2_with fail
                go_region_held3 (fun wx => wx.cell? ⟨w.heap.size, 0, none⟩ = some (.slice x1 ps.length c1) ∧ wx.cell? ⟨w.heap.size, 1, none⟩ = some (.slice (some ⟨b, off, none⟩) ls.length c2) ∧ wx.cell? ⟨b, off + j * 2, none⟩ = some (.int .i64 q) ∧ wx.cell? ⟨b, off + j * 2 + 1, none⟩ = some (.string t)) (exact ⟨cd0, cd1, hc0, hc1⟩) ((go_at_call 67; refine (HC.out _).mono ?_; rintro e wx ⟨rfl, rfl⟩))
                go_wp2_with fail
                go_ret
                rw [HO.out]
                exact ⟨rfl, HBa.out.drew⟩
              · have HA2 : Hid (∀ i (h : i < ls.length), i < j + 1 → 0 ≤ ls[i].1 ∧ ls[i].1 < (ps.length : Int) ∧ ls[i].2.size ≤ 240) := hide (fun i h hi => by
                  by_cases e : i = j
                  · subst e; rw [← HQT.out]; show 0 ≤ q ∧ q < (ps.length : Int) ∧ t.size ≤ 240; omega
                  · exact HA.out i h (by omega))
                have hd1 : decide ((240 : Int) < (t.size : Int)) = false := by simp; omega
                go_wp2_with fail
                go_region_held3 (fun wx => wx.cell? ⟨w.heap.size, 0, none⟩ = some (.slice x1 ps.length c1) ∧ wx.cell? ⟨w.heap.size, 1, none⟩ = some (.slice (some ⟨b, off, none⟩) ls.length c2) ∧ wx.cell? ⟨b, off + j * 2, none⟩ = some (.int .i64 q) ∧ wx.cell? ⟨b, off + j * 2 + 1, none⟩ = some (.string t)) (exact ⟨cd0, cd1, hc0, hc1⟩) ((go_at_call 67; refine (HC.out _).mono ?_; rintro e wx ⟨rfl, rfl⟩))
                go_wp2_with fail
                go_roundg (gk - 1)
                case measure => have := HG2.out; omega
                case rel => exact ⟨j + 1, by omega, by go_num, by have := HG2.out; omega, HA2, HBw.out.drew⟩
            · rw [decide_eq_false hin] at HC
              have HO : Hid (diskOkB ps ls = false) := hide (diskOk_late hjl (by rw [← HQT.out]; show ¬ (0 ≤ q ∧ q < (ps.length : Int) ∧ t.size ≤ 240); omega))
              go_wp2_with fail
              go_quiet ((go_at_call 67; exact Calls.quiet_of_same ((HC.out _).mono (fun _ _ h => ⟨h.1, h.2.symm⟩))))
              go_wp2_with fail
              go_ret
              rw [HO.out]
              exact ⟨rfl, below_drewN HBa.out _⟩
        · have HE : Hid (diskOkB ps ls = decide (4 ≤ ps.length ∧ ps.length ≤ 40 ∧ ls.length ≤ 200)) := hide (diskOk_all HAll.out (fun i h => HA.out i h (by omega)))
          by_cases h4 : 4 ≤ (ps.length : Int) ∧ (ps.length : Int) ≤ 40
          · rw [decide_eq_true h4] at HCi
            have HO : Hid (diskOkB ps ls = decide ((ls.length : Int) ≤ 200)) := hide (by rw [HE.out]; congr 1; simp; omega)
            go_wp2_with fail
            refine (HCi.out _).mono ?_
            rintro e w2 ⟨rfl, rfl⟩
            go_wp2_with fail
            go_ret
            rw [HO.out]
            exact ⟨rfl, HBa.out⟩
          · rw [decide_eq_false h4] at HCi
            have HO : Hid (diskOkB ps ls = false) := hide (by rw [HE.out, decide_eq_false (by omega)])
            go_wp2_with fail
            refine (HCi.out _).mono ?_
            rintro e w2 ⟨rfl, rfl⟩
            go_wp2_with fail
            go_ret
            rw [HO.out]
            exact ⟨rfl, HBa.out⟩
end Go.Proofs.YtglcfaibgjiigaaDoor

namespace Go.Proofs.YtglcfaibgjiigaaDoor
open Go.RowKit

/-- what a round of SyncDisk keeps: its argument's box, its answer's variable, the new disk's variable, the new pages; nothing that was there is turned -/
structure SyncIn (wr : World) (a0 a1 a3 : Nat) (vp vl u : Value) (n : Nat) (m : List ByteArray) (w : World) : Prop where
  box : wr.heap[a0]? = some (Obj.cells #[vp, vl] 49)
  res : wr.heap[a1]? = some (Obj.cells #[.slice none 0 0, .slice none 0 0] 49)
  out : wr.heap[a3]? = some (Obj.cells #[u, .slice none 0 0] 49)
  own : wr.ownsRow (a1 + 1) 9 1 u n (strs m)
  low : Below a0 w wr

theorem syncIn_drewN {wr : World} {a0 a1 a3 : Nat} {vp vl u : Value} {n : Nat} {m : List ByteArray} {w : World} (h : SyncIn wr a0 a1 a3 vp vl u n m w) (k : Nat) : SyncIn (wr.drewN k) a0 a1 a3 vp vl u n m w :=
  ⟨h.box, h.res, h.out, h.own, below_drewN h.low _⟩

theorem syncIn_set {wr : World} {a0 a1 a3 : Nat} {vp vl : Value} {n g c : Nat} {m : List ByteArray} {w : World} (h0 : a0 < g) (h1 : a1 < g) (h3 : g < a3) (h : SyncIn wr a0 a1 a3 vp vl (.slice (some ⟨g, 0, none⟩) n c) n m w) (k j : Nat) (t : ByteArray) :
    SyncIn ((wr.drewN k).setCell ⟨g, j, none⟩ (.string t)) a0 a1 a3 vp vl (.slice (some ⟨g, 0, none⟩) n c) n (m.set j t) w := by
  have h' := syncIn_drewN h k
  refine ⟨?_, ?_, ?_, ?_, ?_⟩
  · rw [heap_setCell_other _ ⟨g, j, none⟩ a0 _ (by show a0 ≠ g; omega)]; exact h'.box
  · rw [heap_setCell_other _ ⟨g, j, none⟩ a1 _ (by show a1 ≠ g; omega)]; exact h'.res
  · rw [heap_setCell_other _ ⟨g, j, none⟩ a3 _ (by show a3 ≠ g; omega)]; exact h'.out
  · have := (h'.own.stored j (.string t)).1
    rw [strs_set] at this
    exact this
  · exact h'.low.setCell (by show a0 ≤ g; omega) _

end Go.Proofs.YtglcfaibgjiigaaDoor

namespace Go.Proofs.YtglcfaibgjiigaaDoor
open Go.RowKit

theorem puts_one (l : List (Int × ByteArray)) : ∀ y ∈ puts l, y.oneCell' = true := fun y hy => by
  obtain ⟨p, _, hp⟩ := List.mem_flatMap.1 hy
  simp at hp
  rcases hp with rfl | rfl <;> rfl

theorem own_empty {w : World} {g e sz : Nat} (h : w.heap[g]? = some (.cells #[] e (0, 0))) : w.ownsRow g e sz (.slice (some ⟨g, 0, none⟩) 0 0) 0 [] :=
  ⟨by simp, Or.inr ⟨g, 0, #[], rfl, Nat.le_refl _, h, Nat.le_refl _, by unfold maxLen; omega, by simp, by simp⟩⟩

theorem heap_second (w : World) (a b : Obj) : ((w.alloc a).alloc b).drew.heap[w.heap.size + 1]? = some b := by
  have h := heap_alloc_new (w.alloc a) b
  rw [World.size_alloc] at h
  exact h

theorem k1 {w w' : World} {o : Obj} {g k : Nat} {x : Obj} (hg : (w.alloc o).drew.grownBy w' (some g)) (hq : w.heap[k]? = some x) (hlt : k < w.heap.size) (hne : k ≠ g) : w'.heap[k]? = some x :=
  ((hg.block k (by show k < (w.alloc o).heap.size; simp; omega) (by intro e; injection e with e; exact hne e)).trans (Below.heap_alloc w o k hlt)).trans hq

theorem k2 {w w' : World} {o o' : Obj} {g k : Nat} {x : Obj} (hg : ((w.alloc o).alloc o').drew.grownBy w' (some g)) (hq : w.heap[k]? = some x) (hlt : k < w.heap.size) (hne : k ≠ g) : w'.heap[k]? = some x :=
  (((hg.block k (by show k < ((w.alloc o).alloc o').heap.size; simp; omega) (by intro e; injection e with e; exact hne e)).trans (Below.heap_alloc (w.alloc o) o' k (by simp; omega))).trans (Below.heap_alloc w o k hlt)).trans hq

theorem k3 {w w' : World} {o : Obj} {g k : Nat} {x : Obj} (hg : (w.alloc o).grownBy w' (some g)) (hq : w.heap[k]? = some x) (hne : k ≠ g) : w'.heap[k]? = some x := by
  have hlt : k < w.heap.size := (Array.getElem?_eq_some_iff.1 hq).1
  exact ((hg.block k (by simp; omega) (by intro e; injection e with e; exact hne e)).trans (Below.heap_alloc w o k hlt)).trans hq

theorem k4 {w w' : World} {g k : Nat} {x : Obj} (hg : w.grownBy w' (some g)) (hq : w.heap[k]? = some x) (hne : k ≠ g) : w'.heap[k]? = some x :=
  (hg.block k (Array.getElem?_eq_some_iff.1 hq).1 (by intro e; injection e with e; exact hne e)).trans hq

theorem own_after {w w' : World} {B e sz n : Nat} {v : Value} {xs : List Value} (h : w.ownsRow B e sz v n xs) {g e' : Nat} (he : w.heap[g]? = some (.cells #[] e' (0, 0))) (hne : e ≠ e') (hg : w.grownBy w' (some g)) : w'.ownsRow B e sz v n xs :=
  h.kept hg (Or.inr (fun e1 => one_type h (own_empty (sz := 1) he) hne g e1 rfl))

theorem after_alloc {w : World} {g : Nat} {u0 u1 : Value} {t : TypeId} (h : w.heap[g]? = some (.cells #[u0, u1] t (0, 0))) : ∀ o, (w.alloc o).cell? ⟨g, 1, none⟩ = some u1 := fun o =>
  (cell_at ((Below.heap_alloc w o g (Array.getElem?_eq_some_iff.1 h).1).trans h) 1).1

theorem low_grown {B g : Nat} {w src w' : World} (hb : Below B w src) (hs : B ≤ src.heap.size) (hg : src.grownBy w' (some g)) (hB : B ≤ g) : Below B w w' :=
  hb.grown hg hs (fun j hj => by injection hj with hj; omega)

theorem copy_fin {w w0 wB : World} {a0 a1 g : Nat} {y1 y2 : Option Addr} {d1 d2 : Nat} {ps : List ByteArray} {ls : List (Int × ByteArray)} (eqB1 : wB.heap[a1]? = some (Obj.cells #[.slice none 0 0, .slice none 0 0] 49))
    (ownA : wB.ownsRow g 9 1 (.slice y1 ps.length d1) ps.length (strs ps)) {g2 : Nat} (ownB : wB.ownsRow g2 115 2 (.slice y2 ls.length d2) ls.length (puts ls)) (hl : Below w.heap.size w wB)
    (h0 : a0 = w.heap.size) (h1 : a1 = a0 + 1) (hb1 : a1 + 1 = w0.heap.size) (hg : w0.heap.size ≤ g) (hg2 : w0.heap.size ≤ g2) :
    ((wB.setCell ⟨a1, 0, none⟩ (.slice y1 ps.length d1)).setCell ⟨a1, 1, none⟩ (.slice y2 ls.length d2)).cell? ⟨a1, 0, none⟩ = some (.slice y1 ps.length d1) ∧
    ((wB.setCell ⟨a1, 0, none⟩ (.slice y1 ps.length d1)).setCell ⟨a1, 1, none⟩ (.slice y2 ls.length d2)).cell? ⟨a1, 1, none⟩ = some (.slice y2 ls.length d2) ∧
    DiskOwn ((wB.setCell ⟨a1, 0, none⟩ (.slice y1 ps.length d1)).setCell ⟨a1, 1, none⟩ (.slice y2 ls.length d2)) w.heap.size (.agg #[.slice y1 ps.length d1, .slice y2 ls.length d2]) ps ls ∧
    Below w.heap.size w ((wB.setCell ⟨a1, 0, none⟩ (.slice y1 ps.length d1)).setCell ⟨a1, 1, none⟩ (.slice y2 ls.length d2)) := by
  have y1' : (wB.setCell ⟨a1, 0, none⟩ (.slice y1 ps.length d1)).heap[a1]? = some (Obj.cells #[.slice y1 ps.length d1, .slice none 0 0] 49) := heap_setCell_same _ a1 0 _ _ _ eqB1
  have y2' : ((wB.setCell ⟨a1, 0, none⟩ (.slice y1 ps.length d1)).setCell ⟨a1, 1, none⟩ (.slice y2 ls.length d2)).heap[a1]? = some (Obj.cells #[.slice y1 ps.length d1, .slice y2 ls.length d2] 49) := heap_setCell_same _ a1 1 _ _ _ y1'
  have k2 : Kept wB ((wB.setCell ⟨a1, 0, none⟩ (.slice y1 ps.length d1)).setCell ⟨a1, 1, none⟩ (.slice y2 ls.length d2)) (fun k => k = a1) := kept_trans (kept_setCell _ _ _ _) (kept_setCell _ _ _ _) (fun j _ h => h)
  refine ⟨(cell_at y2' 0).1, (cell_at y2' 1).1, ⟨_, _, rfl, ?_, ?_⟩, ?_⟩
  · exact own_down (own_kept ownA k2 (fun k hk => by have := (ownA.lt k hk).1; omega)) (by omega)
  · exact own_down (own_kept ownB k2 (fun k hk => by have := (ownB.lt k hk).1; omega)) (by omega)
  · refine (hl.setCell ?_ _).setCell ?_ _
    · show _ ≤ a1; omega
    · show _ ≤ a1; omega

set_option maxHeartbeats 4000000 in
set_option maxRecDepth 100000 in
theorem specCopy_any (v : Value) (ps : List ByteArray) (ls : List (Int × ByteArray)) (hp : ps.length ≤ 1048576) (hl : ls.length ≤ 1048576) (w : World) (hd : DiskAt w v ps ls) :
    Calls Tryd.prog 90 #[v] w fun e w' => ∃ v', e = .returned v' ∧ DiskOwn w' w.heap.size v' ps ls ∧ Below w.heap.size w w' := by
  obtain ⟨i0, hi, hz0, hz1, hz2⟩ := info_parts Tryd.infoStrR
  obtain ⟨i1, hj, hy0, hy1, hy2⟩ := info_parts Tryd.infoPut
  obtain ⟨vp, vl, rfl, h1, h2⟩ := hd
  obtain ⟨x1, c1, rfl⟩ : ∃ a cap, vp = .slice a ps.length cap := by obtain ⟨-, a, cap, e, -⟩ := h1; exact ⟨a, cap, e⟩
  obtain ⟨x2, c2, rfl⟩ : ∃ a cap, vl = .slice a ls.length cap := by obtain ⟨-, a, cap, e, -⟩ := h2; exact ⟨a, cap, e⟩
  have H1 := hide h1
  have H2 := hide h2
  clear h1 h2
  obtain ⟨w0, hw0⟩ : ∃ w0, w0 = (w.alloc (Obj.cells #[.slice x1 ps.length c1, .slice x2 ls.length c2] 49)).alloc (Obj.cells #[.slice none 0 0, .slice none 0 0] 49) := ⟨_, rfl⟩
  have hb0 : Below w.heap.size w w0 := by rw [hw0]; exact ((Below.refl w.heap.size w).alloc (Nat.le_refl _) _).alloc (by simp) _
  obtain ⟨q0, q1, hs0⟩ := two_allocs w (Obj.cells #[.slice x1 ps.length c1, .slice x2 ls.length c2] 49) (Obj.cells #[.slice none 0 0, .slice none 0 0] 49)
  rw [← hw0] at q0 q1 hs0
  obtain ⟨a0, ha0⟩ : ∃ a, a = w.heap.size := ⟨_, rfl⟩
  obtain ⟨a1, ha1⟩ : ∃ a, a = a0 + 1 := ⟨_, rfl⟩
  rw [← ha0] at q0 q1 hs0
  rw [← ha1] at q1
  have hb1 : a1 + 1 = w0.heap.size := by omega
  have HN := hide (⟨by omega, by omega, by omega, by omega⟩ : a0 < w0.heap.size ∧ a0 ≠ w0.heap.size ∧ a1 < w0.heap.size ∧ a1 ≠ w0.heap.size)
  have HZ := hide (⟨fun o => by show w.heap.size ≤ (w0.alloc o).heap.size; simp; omega, fun o o' => by show w.heap.size ≤ ((w0.alloc o).alloc o').heap.size; simp; omega, by omega, by omega⟩ : (∀ o, w.heap.size ≤ (w0.alloc o).drew.heap.size) ∧ (∀ o o', w.heap.size ≤ ((w0.alloc o).alloc o').drew.heap.size) ∧ w.heap.size ≤ w0.heap.size ∧ w.heap.size ≤ w0.heap.size + 1)
  have HZ2 := hide (⟨fun o o' => by show w0.heap.size + 1 < ((w0.alloc o).alloc o').heap.size; simp, by intro e; injection e with e; omega, fun o o' => by show w0.heap.size < ((w0.alloc o).alloc o').heap.size; simp; omega, by omega, by omega⟩ : (∀ o o', w0.heap.size + 1 < ((w0.alloc o).alloc o').drew.heap.size) ∧ (some (w0.heap.size + 1) ≠ some w0.heap.size) ∧ (∀ o o', w0.heap.size < ((w0.alloc o).alloc o').drew.heap.size) ∧ a0 ≠ w0.heap.size + 1 ∧ a1 ≠ w0.heap.size + 1)
  have HZ3 : Hid (some w0.heap.size ≠ some (w0.heap.size + 1)) := hide (by intro e; injection e with e; omega)
  have HL1 : Hid (∀ o, Below w.heap.size w (w0.alloc o).drew) := hide (fun o => (hb0.alloc (by omega) _).drew)
  have HL2 : Hid (∀ o o', Below w.heap.size w ((w0.alloc o).alloc o').drew) := hide (fun o o' => ((hb0.alloc (by omega) _).alloc (by simp; omega) _).drew)
  have al1 : ∀ o, (w0.alloc o).drew.heap[a0]? = some (Obj.cells #[.slice x1 ps.length c1, .slice x2 ls.length c2] 49) := fun o => (Below.heap_alloc w0 o a0 (by omega)).trans q0
  have al2 : ∀ o o', ((w0.alloc o).alloc o').drew.heap[a0]? = some (Obj.cells #[.slice x1 ps.length c1, .slice x2 ls.length c2] 49) := fun o o' => (Below.heap_alloc (w0.alloc o) o' a0 (by simp; omega)).trans ((Below.heap_alloc w0 o a0 (by omega)).trans q0)
  have cl10 : ∀ o, (w0.alloc o).drew.cell? ⟨a0, 0, none⟩ = some (.slice x1 ps.length c1) := fun o => (cell_at (al1 o) 0).1
  have cl11 : ∀ o, (w0.alloc o).drew.cell? ⟨a0, 1, none⟩ = some (.slice x2 ls.length c2) := fun o => (cell_at (al1 o) 1).1
  have cl20 : ∀ o o', ((w0.alloc o).alloc o').drew.cell? ⟨a0, 0, none⟩ = some (.slice x1 ps.length c1) := fun o o' => (cell_at (al2 o o') 0).1
  have cl21 : ∀ o o', ((w0.alloc o).alloc o').drew.cell? ⟨a0, 1, none⟩ = some (.slice x2 ls.length c2) := fun o o' => (cell_at (al2 o o') 1).1
  clear al1 al2
  have c0 : w0.cell? ⟨a0, 0, none⟩ = some (.slice x1 ps.length c1) := (cell_at q0 0).1
  have c1' : w0.cell? ⟨a0, 1, none⟩ = some (.slice x2 ls.length c2) := (cell_at q0 1).1
  go_enter Tryd.func90, Tryd.ntmps90
  go_wp2_with fail
  rw [← hw0, ← ha0, ← ha1]
  have HA := hide (⟨ha0, ha1, hs0⟩ : a0 = w.heap.size ∧ a1 = a0 + 1 ∧ w0.heap.size = a0 + 2)
  have HB0 := hide hb0
  clear ha0 ha1 hw0 hs0 hb0
  go_region_law (first | (refine step_append_row _ ?_ (.tmp 3) (.tmp 5) 24 ?_ (w0.heap.size) 9 i0 (.string ⟨#[]⟩) 1 16 Tryd.underlying24 hi hz0 hz1 hz2 ?_ ?_ (.slice (some ⟨w0.heap.size, 0, none⟩) 0 0) 0 [] ?_ (own_empty ?_) (.slice x1 ps.length c1) ps.length (strs ps) ?_ (row_below H1.out ?_) (strs_one _) ?_ ?_ ?_ ?_; exact rfl; exact rfl; exact rfl; decide; exact rfl; exact heap_alloc_new w0 _; exact rfl; exact HL1.out _; (unfold maxLen; omega); omega; simp; intro y1 d1 wA hownA hgA; have eqA0 := k1 hgA q0 HN.out.1 HN.out.2.1; have eqA1 := k1 hgA q1 HN.out.2.2.1 HN.out.2.2.2; have HLA := low_grown (HL1.out _) (HZ.out.1 _) hgA (HZ.out.2.2.1); have pA1 := (cell_at eqA0 1).1; have pA2 := after_alloc eqA0) | (refine step_append_row _ ?_ (.tmp 3) (.tmp 5) 24 ?_ (w0.heap.size) 9 i0 (.string ⟨#[]⟩) 1 16 Tryd.underlying24 hi hz0 hz1 hz2 ?_ ?_ (.slice (some ⟨w0.heap.size, 0, none⟩) 0 0) 0 [] ?_ (own_empty ?_) (.slice x1 ps.length c1) ps.length (strs ps) ?_ (row_below H1.out ?_) (strs_one _) ?_ ?_ ?_ ?_; exact rfl; exact rfl; exact rfl; decide; exact rfl; exact (Below.heap_alloc (w0.alloc _) _ _ (by simp)).trans (heap_alloc_new w0 _); exact rfl; exact HL2.out _ _; (unfold maxLen; omega); omega; (simp; omega); intro y1 d1 wA hownA hgA; have eqA0 := k2 hgA q0 HN.out.1 HN.out.2.1; have eqA1 := k2 hgA q1 HN.out.2.2.1 HN.out.2.2.2; have HLA := low_grown (HL2.out _ _) (HZ.out.2.1 _ _) hgA (HZ.out.2.2.1); have pA1 := (cell_at eqA0 1).1; have pA2 := after_alloc eqA0; have eqE : wA.heap[w0.heap.size + 1]? = some (Obj.cells #[] 115) := (hgA.block _ (HZ2.out.1 _ _) HZ2.out.2.1).trans (heap_second w0 _ _)) | (refine step_append_row _ ?_ (.tmp 3) (.tmp 5) 24 ?_ (w0.heap.size + 1) 9 i0 (.string ⟨#[]⟩) 1 16 Tryd.underlying24 hi hz0 hz1 hz2 ?_ ?_ (.slice (some ⟨w0.heap.size + 1, 0, none⟩) 0 0) 0 [] ?_ (own_empty ?_) (.slice x1 ps.length c1) ps.length (strs ps) ?_ (row_below H1.out ?_) (strs_one _) ?_ ?_ ?_ ?_; exact rfl; exact rfl; exact rfl; decide; exact rfl; exact heap_second w0 _ _; exact rfl; exact HL2.out _ _; (unfold maxLen; omega); omega; simp; intro y1 d1 wA hownA hgA; have eqA0 := k2 hgA q0 HN.out.1 HZ2.out.2.2.2.1; have eqA1 := k2 hgA q1 HN.out.2.2.1 HZ2.out.2.2.2.2; have HLA := low_grown (HL2.out _ _) (HZ.out.2.1 _ _) hgA (HZ.out.2.2.2); have pA1 := (cell_at eqA0 1).1; have pA2 := after_alloc eqA0; have eqE : wA.heap[w0.heap.size]? = some (Obj.cells #[] 115) := (hgA.block _ (HZ2.out.2.2.1 _ _) HZ3.out).trans ((Below.heap_alloc (w0.alloc _) _ _ (by simp)).trans (heap_alloc_new w0 _))) | (refine step_append_row _ ?_ (.tmp 7) (.tmp 9) 47 ?_ (wA.heap.size) 115 i1 (.agg #[.int .i64 0, .string ⟨#[]⟩]) 2 24 Tryd.underlying47 hj hy0 hy1 hy2 ?_ ?_ (.slice (some ⟨wA.heap.size, 0, none⟩) 0 0) 0 [] ?_ (own_empty ?_) (.slice x2 ls.length c2) ls.length (puts ls) ?_ (row_below H2.out ?_) (puts_one _) ?_ ?_ ?_ ?_; exact rfl; exact rfl; exact rfl; decide; exact rfl; exact heap_alloc_new wA _; exact rfl; exact HLA.alloc HLA.size _; (unfold maxLen; omega); omega; simp; intro y2 d2 wB hownB hgB; have eqB1 := k3 hgB eqA1 (Nat.ne_of_lt (Array.getElem?_eq_some_iff.1 eqA1).1); have HLB := low_grown (HLA.alloc HLA.size _) (Nat.le_trans HLA.size (by simp)) hgB (HLA.size); have ownA2 := own_after (hownA.alloc _) (heap_alloc_new wA _) Tryd.types_part hgB; have pB0 := (cell_at eqB1 0).1; have pB1 := (cell_at eqB1 1).1; have pF0 := (cell_at eqB1 0).2; have pF1 := (cell_at eqB1 1).2) | (refine step_append_row _ ?_ (.tmp 7) (.tmp 9) 47 ?_ (w0.heap.size + 1) 115 i1 (.agg #[.int .i64 0, .string ⟨#[]⟩]) 2 24 Tryd.underlying47 hj hy0 hy1 hy2 ?_ ?_ (.slice (some ⟨w0.heap.size + 1, 0, none⟩) 0 0) 0 [] ?_ (own_empty ?_) (.slice x2 ls.length c2) ls.length (puts ls) ?_ (row_below H2.out ?_) (puts_one _) ?_ ?_ ?_ ?_; exact rfl; exact rfl; exact rfl; decide; exact rfl; exact eqE; exact rfl; exact HLA; (unfold maxLen; omega); omega; (have := hgA.size; simp at this; omega); intro y2 d2 wB hownB hgB; have eqB1 := k4 hgB eqA1 (HZ2.out.2.2.2.2); have HLB := low_grown (HLA) (HLA.size) hgB (HZ.out.2.2.2); have ownA2 := own_after (hownA) (eqE) Tryd.types_part hgB; have pB0 := (cell_at eqB1 0).1; have pB1 := (cell_at eqB1 1).1; have pF0 := (cell_at eqB1 0).2; have pF1 := (cell_at eqB1 1).2) | (refine step_append_row _ ?_ (.tmp 7) (.tmp 9) 47 ?_ (w0.heap.size) 115 i1 (.agg #[.int .i64 0, .string ⟨#[]⟩]) 2 24 Tryd.underlying47 hj hy0 hy1 hy2 ?_ ?_ (.slice (some ⟨w0.heap.size, 0, none⟩) 0 0) 0 [] ?_ (own_empty ?_) (.slice x2 ls.length c2) ls.length (puts ls) ?_ (row_below H2.out ?_) (puts_one _) ?_ ?_ ?_ ?_; exact rfl; exact rfl; exact rfl; decide; exact rfl; exact eqE; exact rfl; exact HLA; (unfold maxLen; omega); omega; (have := hgA.size; simp at this; omega); intro y2 d2 wB hownB hgB; have eqB1 := k4 hgB eqA1 (HN.out.2.2.2); have HLB := low_grown (HLA) (HLA.size) hgB (HZ.out.2.2.1); have ownA2 := own_after (hownA) (eqE) Tryd.types_part hgB; have pB0 := (cell_at eqB1 0).1; have pB1 := (cell_at eqB1 1).1; have pF0 := (cell_at eqB1 0).2; have pF1 := (cell_at eqB1 1).2))
  all_goals
    rw [Nat.zero_add] at ownA2 hownB
    have hfin := copy_fin eqB1 ownA2 hownB HLB HA.out.1 HA.out.2.1 hb1 (by omega) (by have := (Array.getElem?_eq_some_iff.1 eqA1).1; omega)
    go_wp2_with fail
    refine bodyPost_ret (v := .agg #[.slice y1 ps.length d1, .slice y2 ls.length d2]) (by simp [results, Tryd.results90, go_sem, hfin.1, hfin.2.1]) rfl ⟨_, rfl, hfin.2.2.1, hfin.2.2.2⟩
end Go.Proofs.YtglcfaibgjiigaaDoor

namespace Go.Proofs.YtglcfaibgjiigaaDoor
open Go.RowKit

/-- a fact that hangs on the blocks B .. U - 1 alone -/
def Loc (B U : Nat) (p : World → Prop) : Prop := ∀ w w' : World, w.heap.size ≤ w'.heap.size → U ≤ w.heap.size → (∀ k, B ≤ k → k < U → w'.heap[k]? = w.heap[k]?) → p w → p w'

structure Held (wr : World) (B U : Nat) (p : World → Prop) : Prop where
  loc : Loc B U p
  le : U ≤ wr.heap.size
  is : p wr

theorem held_below {wr wr' : World} {B U : Nat} {p : World → Prop} (h : Held wr B U p) (hb : Below wr.heap.size wr wr') : Held wr' B U p :=
  ⟨h.loc, Nat.le_trans h.le hb.size, h.loc wr wr' hb.size h.le (fun k _ hk => hb.block k (Nat.lt_of_lt_of_le hk h.le)) h.is⟩

theorem held_kept {wr wr' : World} {B U : Nat} {p : World → Prop} {S : Nat → Prop} (h : Held wr B U p) (hk : Kept wr wr' S) (hS : ∀ k, B ≤ k → k < U → ¬ S k) : Held wr' B U p :=
  ⟨h.loc, Nat.le_trans h.le hk.2.2.2.1, h.loc wr wr' hk.2.2.2.1 h.le (fun k h1 h2 => hk.2.2.2.2 k (Nat.lt_of_lt_of_le h2 h.le) (hS k h1 h2)) h.is⟩

/-- a variable of two cells -/
def IsVar (g : Nat) (u0 u1 : Value) (t : TypeId) (w : World) : Prop := w.heap[g]? = some (Obj.cells #[u0, u1] t)

theorem held_var {w : World} {g : Nat} {u0 u1 : Value} {t : TypeId} (h : w.heap[g]? = some (Obj.cells #[u0, u1] t)) : Held w g (g + 1) (IsVar g u0 u1 t) :=
  ⟨fun a b _ _ hk hp => (hk g (Nat.le_refl _) (by omega)).trans hp, (Array.getElem?_eq_some_iff.1 h).1, h⟩

theorem held_cells {w : World} {B U g : Nat} {u0 u1 : Value} {t : TypeId} (h : Held w B U (IsVar g u0 u1 t)) : w.cell? ⟨g, 0, none⟩ = some u0 ∧ w.cell? ⟨g, 1, none⟩ = some u1 := ⟨(cell_at h.is 0).1, (cell_at h.is 1).1⟩

/-- a disk of our own whose rows lie in B .. U - 1 -/
def IsDisk (B U : Nat) (v : Value) (ps : List ByteArray) (ls : List (Int × ByteArray)) (w : World) : Prop := DiskOwn w B v ps ls ∧ ∀ k, diskBlocks v k → k < U

theorem diskOwn_loc {w w' : World} {B U : Nat} {v : Value} {ps : List ByteArray} {ls : List (Int × ByteArray)} (h : IsDisk B U v ps ls w) (_hs : w.heap.size ≤ w'.heap.size) (hk : ∀ k, B ≤ k → k < U → w'.heap[k]? = w.heap[k]?) : IsDisk B U v ps ls w' := by
  refine ⟨?_, h.2⟩
  have hl := diskOwn_lt h.1
  have hu := h.2
  obtain ⟨⟨vp, vl, rfl, h1, h2⟩, -⟩ := h
  have key : ∀ {e sz n : Nat} {u : Value} {xs : List Value}, w.ownsRow B e sz u n xs → (∀ k, u.ownBlock = some k → k < U) → w'.ownsRow B e sz u n xs := fun {e sz n u xs} h hlt => by
    refine ⟨h.1, ?_⟩
    rcases h.2 with ⟨rfl, hn⟩ | ⟨g, cap, cur, rfl, hg, hh, rest⟩
    · exact Or.inl ⟨rfl, hn⟩
    · exact Or.inr ⟨g, cap, cur, rfl, hg, (hk g hg (hlt g rfl)).trans hh, rest⟩
  exact ⟨vp, vl, rfl, key h1 (fun k e => hu k ⟨vp, vl, rfl, Or.inl e⟩), key h2 (fun k e => hu k ⟨vp, vl, rfl, Or.inr e⟩)⟩

theorem held_disk {w : World} {B : Nat} {v : Value} {ps : List ByteArray} {ls : List (Int × ByteArray)} (h : DiskOwn w B v ps ls) : Held w B w.heap.size (IsDisk B w.heap.size v ps ls) :=
  ⟨fun _ _ hs _ hk hp => diskOwn_loc hp hs hk, Nat.le_refl _, h, fun k hk => (diskOwn_lt h k hk).2⟩

/-- the same disk with other contents, turned in place -/
theorem held_again {w : World} {B U : Nat} {v : Value} {ps qs : List ByteArray} {ls ms : List (Int × ByteArray)} {w' : World} (h : Held w B U (IsDisk B U v ps ls)) (hd : DiskOwn w' B v qs ms) (hs : w.heap.size ≤ w'.heap.size) : Held w' B U (IsDisk B U v qs ms) :=
  ⟨fun _ _ hs _ hk hp => diskOwn_loc hp hs hk, Nat.le_trans h.le hs, hd, h.is.2⟩

theorem disk_form {w : World} {B : Nat} {v : Value} {ps : List ByteArray} {ls : List (Int × ByteArray)} (h : DiskOwn w B v ps ls) : ∃ x c y d, v = .agg #[.slice x ps.length c, .slice y ls.length d] := by
  obtain ⟨vp, vl, rfl, h1, h2⟩ := h
  obtain ⟨x, c, rfl⟩ := own_slice h1
  obtain ⟨y, d, rfl⟩ := own_slice h2
  exact ⟨x, c, y, d, rfl⟩

/-- a new variable behind what was -/
theorem new_var (w : World) (u0 u1 : Value) (t : TypeId) : Below w.heap.size w (w.alloc (Obj.cells #[u0, u1] t)) ∧ Held (w.alloc (Obj.cells #[u0, u1] t)) w.heap.size (w.heap.size + 1) (IsVar w.heap.size u0 u1 t) :=
  ⟨(Below.refl _ _).alloc (Nat.le_refl _) _, held_var (heap_alloc_new w _)⟩
end Go.Proofs.YtglcfaibgjiigaaDoor

namespace Go.Proofs.YtglcfaibgjiigaaDoor
open Go.RowKit

theorem disk_rows {w : World} {B : Nat} {u0 u1 : Value} {ps : List ByteArray} {ls : List (Int × ByteArray)} (h : DiskOwn w B (.agg #[u0, u1]) ps ls) : w.ownsRow B 9 1 u0 ps.length (strs ps) ∧ w.ownsRow B 115 2 u1 ls.length (puts ls) := by
  obtain ⟨vp, vl, e, h1, h2⟩ := h
  injection e with e
  injection e with e
  injection e with e1 e
  injection e with e2
  subst e1 e2
  exact ⟨h1, h2⟩

/-- a disk is laid into the variable of the answer -/
theorem ret_disk {w wr : World} {a1 B : Nat} {r0 r1 u0 u1 : Value} {t : TypeId} {ps : List ByteArray} {ls : List (Int × ByteArray)} (hres : wr.heap[a1]? = some (Obj.cells #[r0, r1] t)) (hd : DiskOwn wr B (.agg #[u0, u1]) ps ls) (hB : a1 < B) (hw : w.heap.size ≤ a1) (hb : Below w.heap.size w wr) :
    ((wr.setCell ⟨a1, 0, none⟩ u0).setCell ⟨a1, 1, none⟩ u1).cell? ⟨a1, 0, none⟩ = some u0 ∧ ((wr.setCell ⟨a1, 0, none⟩ u0).setCell ⟨a1, 1, none⟩ u1).cell? ⟨a1, 1, none⟩ = some u1 ∧
    DiskOwn ((wr.setCell ⟨a1, 0, none⟩ u0).setCell ⟨a1, 1, none⟩ u1) w.heap.size (.agg #[u0, u1]) ps ls ∧ Below w.heap.size w ((wr.setCell ⟨a1, 0, none⟩ u0).setCell ⟨a1, 1, none⟩ u1) := by
  have y1 : (wr.setCell ⟨a1, 0, none⟩ u0).heap[a1]? = some (Obj.cells #[u0, r1] t) := heap_setCell_same _ a1 0 _ _ _ hres
  have y2 : ((wr.setCell ⟨a1, 0, none⟩ u0).setCell ⟨a1, 1, none⟩ u1).heap[a1]? = some (Obj.cells #[u0, u1] t) := heap_setCell_same _ a1 1 _ _ _ y1
  have k2 : Kept wr ((wr.setCell ⟨a1, 0, none⟩ u0).setCell ⟨a1, 1, none⟩ u1) (fun k => k = a1) := kept_trans (kept_setCell _ _ _ _) (kept_setCell _ _ _ _) (fun j _ h => h)
  obtain ⟨o1, o2⟩ := disk_rows hd
  refine ⟨(cell_at y2 0).1, (cell_at y2 1).1, ⟨_, _, rfl, ?_, ?_⟩, ?_⟩
  · exact own_down (own_kept o1 k2 (fun k hk => by have := (o1.lt k hk).1; omega)) (by omega)
  · exact own_down (own_kept o2 k2 (fun k hk => by have := (o2.lt k hk).1; omega)) (by omega)
  · exact (hb.setCell (by exact hw) _).setCell (by exact hw) _

theorem own_ne_type {w : World} {B e sz n g : Nat} {v : Value} {xs : List Value} {cs : Array Value} {t : TypeId} {fr : Nat × Nat} (h : w.ownsRow B e sz v n xs) (hg : w.heap[g]? = some (.cells cs t fr)) (hne : e ≠ t) : v.ownBlock ≠ some g := by
  intro h1
  rcases h.2 with ⟨rfl, -⟩ | ⟨k, cap, cur, rfl, -, hh, -⟩
  · cases h1
  · injection h1 with h1
    have h1 : k = g := h1
    subst h1
    rw [hh] at hg
    injection hg with hg
    injection hg with _ he _
    exact hne he

theorem own_apart {w w' : World} {B B' e e' sz sz' n n' : Nat} {v v' : Value} {xs xs' : List Value} (h : w.ownsRow B e sz v n xs) (h' : w.ownsRow B' e' sz' v' n' xs') (hne : e ≠ e') (hg : w.grownBy w' v'.ownBlock) : w'.ownsRow B e sz v n xs := by
  cases hv : v.ownBlock with
  | none => exact h.kept hg (Or.inl hv)
  | some k => exact h.kept hg (Or.inr (by rw [hv]; exact fun e1 => one_type h h' hne k hv e1.symm))

end Go.Proofs.YtglcfaibgjiigaaDoor

namespace Go.Proofs.YtglcfaibgjiigaaDoor
open Go.RowKit

/-- the pages of a new disk -/
def newP (n : Int) : List ByteArray := if 4 ≤ n ∧ n ≤ 40 then List.replicate n.toNat ⟨#[]⟩ else []

/-- whether a put is taken -/
def writeOk (ps : List ByteArray) (ls : List (Int × ByteArray)) (page : Int) (text : ByteArray) : Bool := diskOkB ps ls && decide (0 ≤ page ∧ page ≤ (ps.length : Int) - 1) && decide (text.size ≤ 240) && decide (ls.length ≠ 200)

/-- what is late behind it -/
def writeL (ps : List ByteArray) (ls : List (Int × ByteArray)) (page : Int) (text : ByteArray) : List (Int × ByteArray) := if writeOk ps ls page text = true then ls ++ [(page, text)] else ls

theorem writeL_le {ps : List ByteArray} {ls : List (Int × ByteArray)} {page : Int} {text : ByteArray} (h : ls.length ≤ 1048576) : (writeL ps ls page text).length ≤ 1048576 := by
  rw [writeL]
  split
  · next hw =>
    rw [writeOk] at hw
    simp only [Bool.and_eq_true] at hw
    have := (diskOk_yes hw.1.1.1).2.2.2.2
    simp
    omega
  · exact h

/-- the text that is kept of the one at the place k -/
def fallT (torn : Int) (k : Nat) (t : ByteArray) : ByteArray := if (k : Int) = torn then t.extract 0 (t.size / 2) else t

/-- the pages behind the first k of what was late -/
def fallK (left : List Bool) (torn : Int) (ps : List ByteArray) (ls : List (Int × ByteArray)) : Nat → List ByteArray
  | 0 => ps
  | k + 1 => match ls[k]? with
    | some p => if left.getD k false = true then putD (fallK left torn ps ls k) (p.1, fallT torn k p.2) else fallK left torn ps ls k
    | none => fallK left torn ps ls k

theorem fallK_length (left : List Bool) (torn : Int) (ps : List ByteArray) (ls : List (Int × ByteArray)) (k : Nat) : (fallK left torn ps ls k).length = ps.length := by
  induction k with
  | zero => rfl
  | succ k ih =>
    rw [fallK]
    split
    · split
      · rw [putD_length, ih]
      · exact ih
    · exact ih

theorem fallK_put {left : List Bool} {torn : Int} {ps : List ByteArray} {ls : List (Int × ByteArray)} {k : Nat} {q : Int} {t : ByteArray} (h : ls[k]? = some (q, t)) (hl : left.getD k false = true) : fallK left torn ps ls (k + 1) = putD (fallK left torn ps ls k) (q, fallT torn k t) := by
  rw [fallK, h]
  exact if_pos hl

theorem fallK_lost {left : List Bool} {torn : Int} {ps : List ByteArray} {ls : List (Int × ByteArray)} {k : Nat} (hl : left.getD k false = false) : fallK left torn ps ls (k + 1) = fallK left torn ps ls k := by
  rw [fallK]
  split
  · exact if_neg (by rw [hl]; decide)
  · rfl

/-- what falls: the pages, and what is late -/
def fallP (left : List Bool) (torn : Int) (ps : List ByteArray) (ls : List (Int × ByteArray)) : List ByteArray := if diskOkB ps ls = true then fallK left torn ps ls ls.length else ps
def fallL (ps : List ByteArray) (ls : List (Int × ByteArray)) : List (Int × ByteArray) := if diskOkB ps ls = true then [] else ls

end Go.Proofs.YtglcfaibgjiigaaDoor

namespace Go.Proofs.YtglcfaibgjiigaaDoor
open Go.RowKit

theorem writeOk_no {ps : List ByteArray} {ls : List (Int × ByteArray)} {page : Int} {text : ByteArray} (h : ¬ (diskOkB ps ls = true ∧ (0 ≤ page ∧ page ≤ (ps.length : Int) - 1) ∧ text.size ≤ 240 ∧ ls.length ≠ 200)) : writeOk ps ls page text = false ∧ writeL ps ls page text = ls := by
  have e : writeOk ps ls page text = false := by
    rw [← Bool.not_eq_true, writeOk]
    simp only [Bool.and_eq_true, decide_eq_true_eq]
    intro hh
    exact h ⟨hh.1.1.1, hh.1.1.2, hh.1.2, hh.2⟩
  exact ⟨e, by rw [writeL, e]; rfl⟩

theorem writeOk_yes {ps : List ByteArray} {ls : List (Int × ByteArray)} {page : Int} {text : ByteArray} (h : diskOkB ps ls = true) (h1 : 0 ≤ page ∧ page ≤ (ps.length : Int) - 1) (h2 : text.size ≤ 240) (h3 : ls.length ≠ 200) : writeOk ps ls page text = true ∧ writeL ps ls page text = ls ++ [(page, text)] := by
  have e : writeOk ps ls page text = true := by
    rw [writeOk]
    simp only [Bool.and_eq_true, decide_eq_true_eq]
    exact ⟨⟨⟨h, h1⟩, h2⟩, h3⟩
  exact ⟨e, by rw [writeL, e]; rfl⟩

theorem puts_snoc (ls : List (Int × ByteArray)) (p : Int) (t : ByteArray) : puts ls ++ [.int .i64 p, .string t] = puts (ls ++ [(p, t)]) := by simp [puts]

set_option maxHeartbeats 1000000 in
theorem specDiskNew_any (n : Int) (w : World) :
    Calls Tryd.prog 32 #[.int .i64 n] w fun e w' => ∃ v', e = .returned (.tuple #[v', .bool (decide (4 ≤ n ∧ n ≤ 40))]) ∧ DiskOwn w' w.heap.size v' (newP n) [] ∧ Below w.heap.size w w' := by
  obtain ⟨i0, hi, hz0, hz1, hz2⟩ := info_parts Tryd.infoStrR
  have HC := hide (l01In_any n 4 40)
  by_cases hin : 4 ≤ n ∧ n ≤ 40
  · obtain ⟨k, rfl⟩ := Int.eq_ofNat_of_zero_le (show 0 ≤ n by omega)
    have hk : k ≤ 40 := by omega
    have HN : Hid (newP (k : Int) = List.replicate k ⟨#[]⟩) := hide (by rw [newP, if_pos hin, Int.toNat_natCast])
    rw [decide_eq_true hin] at HC ⊢
    clear hin
    go_enter Tryd.func32, Tryd.ntmps32
    go_wp2_with fail
    refine (HC.out _).mono ?_
    rintro e w1 ⟨rfl, rfl⟩
    go_wp2_with (at_make; refine wpList_make_full _ rfl _ _ 24 rfl (w.heap.size + 1) 9 i0 (.string ⟨#[]⟩) 1 Tryd.underlying24 hi hz0 hz1 .i64 .i64 _ _ k rfl rfl rfl rfl (by rw [hz2]; omega) (by unfold maxLen; omega) (by simp) ?_)
    intro w2 hown2' hg2
    have hown2 : w2.ownsRow (w.heap.size + 1) 9 1 (.slice (some ⟨w.heap.size + 1, 0, none⟩) k k) k (strs (List.replicate k ⟨#[]⟩)) := own_n hown2' rfl (strs_made k)
    have hblk := (hg2.block w.heap.size (by simp) (by simp)).trans (heap_alloc_new w (Obj.cells #[.slice none 0 0, .slice none 0 0] 49))
    have c0 : w2.cell? ⟨w.heap.size, 0, none⟩ = some (.slice none 0 0) := (cell_at hblk 0).1
    have c1 : w2.cell? ⟨w.heap.size, 1, none⟩ = some (.slice none 0 0) := (cell_at hblk 1).1
    have f0 := (cell_at hblk 0).2
    have f1 := (cell_at hblk 1).2
    have hb2 : Below w.heap.size w w2 := ((Below.refl w.heap.size w).alloc (Nat.le_refl _) _).grown hg2 (by simp) (fun j hj => by cases hj)
    have HBk := hide hblk
    have HO := hide hown2
    have HB := hide hb2
    clear hown2' hg2 hblk hown2 hb2
    go_wp2_with fail
    have y1 : (w2.setCell ⟨w.heap.size, 0, none⟩ (.slice (some ⟨w.heap.size + 1, 0, none⟩) k k)).heap[w.heap.size]? = some (Obj.cells #[.slice (some ⟨w.heap.size + 1, 0, none⟩) k k, .slice none 0 0] 49) := heap_setCell_same _ _ 0 _ _ _ HBk.out
    have y2 : ((w2.setCell ⟨w.heap.size, 0, none⟩ (.slice (some ⟨w.heap.size + 1, 0, none⟩) k k)).setCell ⟨w.heap.size, 1, none⟩ (.slice none 0 0)).heap[w.heap.size]? = some (Obj.cells #[.slice (some ⟨w.heap.size + 1, 0, none⟩) k k, .slice none 0 0] 49) := heap_setCell_same _ _ 1 _ _ _ y1
    have k2 : Kept w2 ((w2.setCell ⟨w.heap.size, 0, none⟩ (.slice (some ⟨w.heap.size + 1, 0, none⟩) k k)).setCell ⟨w.heap.size, 1, none⟩ (.slice none 0 0)) (fun j => j = w.heap.size) := kept_trans (kept_setCell _ _ _ _) (kept_setCell _ _ _ _) (fun j _ h => h)
    refine bodyPost_ret (v := .tuple #[.agg #[.slice (some ⟨w.heap.size + 1, 0, none⟩) k k, .slice none 0 0], .bool true]) (by simp [results, Tryd.results32, go_sem, (cell_at y2 0).1, (cell_at y2 1).1]) rfl ⟨_, rfl, ?_, (HB.out.setCell (Nat.le_refl _) _).setCell (Nat.le_refl _) _⟩
    rw [HN.out]
    refine ⟨_, _, rfl, ?_, ⟨rfl, Or.inl ⟨rfl, rfl⟩⟩⟩
    rw [List.length_replicate]
    exact own_down (own_kept HO.out k2 (fun j hj => by have := (HO.out.lt j hj).1; omega)) (by omega)
  · rw [decide_eq_false hin] at HC ⊢
    have HN : Hid (newP n = []) := hide (by rw [newP, if_neg hin])
    clear hin
    go_enter Tryd.func32, Tryd.ntmps32
    go_wp2_with fail
    refine (HC.out _).mono ?_
    rintro e w1 ⟨rfl, rfl⟩
    go_wp2_with fail
    have hblk := heap_alloc_new w (Obj.cells #[.slice none 0 0, .slice none 0 0] 49)
    refine bodyPost_ret (v := .tuple #[.agg #[.slice none 0 0, .slice none 0 0], .bool false]) (by simp [results, Tryd.results32, go_sem, (cell_at hblk 0).1, (cell_at hblk 1).1]) rfl ⟨_, rfl, ?_, (Below.refl w.heap.size w).alloc (Nat.le_refl _) _⟩
    rw [HN.out]
    exact ⟨_, _, rfl, ⟨rfl, Or.inl ⟨rfl, rfl⟩⟩, ⟨rfl, Or.inl ⟨rfl, rfl⟩⟩⟩

set_option maxHeartbeats 2000000 in
set_option maxRecDepth 100000 in
theorem specWritePage_any (v : Value) (ps : List ByteArray) (ls : List (Int × ByteArray)) (page : Int) (text : ByteArray) (ht : text.size ≤ 1048576) (hp : ps.length ≤ 1048576) (hl : ls.length ≤ 1048576) (hps : ∀ s ∈ ps, s.size ≤ 1048576) (hls : ∀ p ∈ ls, p.2.size ≤ 1048576) (w : World) (hd : DiskAt w v ps ls) :
    Calls Tryd.prog 33 #[v, .int .i64 page, .string text] w fun e w' => ∃ v', e = .returned (.tuple #[v', .bool (writeOk ps ls page text)]) ∧ DiskOwn w' w.heap.size v' ps (writeL ps ls page text) ∧ Below w.heap.size w w' := by
  obtain ⟨i1, hj, hy0, hy1, hy2⟩ := info_parts Tryd.infoPut
  have HCo := hide (fun u wx h => specCopy_any u ps ls hp hl wx h)
  have HOk := hide (fun u wx h => specDiskOk_any u ps ls hp hl hps hls wx h)
  have HIn := hide (l01In_any page 0 ((ps.length : Int) - 1))
  have HD := hide hd
  obtain ⟨vp, vl, rfl, h1, h2⟩ := hd
  obtain ⟨x1, c1, rfl⟩ : ∃ a cap, vp = .slice a ps.length cap := by obtain ⟨-, a, cap, e, -⟩ := h1; exact ⟨a, cap, e⟩
  obtain ⟨x2, c2, rfl⟩ : ∃ a cap, vl = .slice a ls.length cap := by obtain ⟨-, a, cap, e, -⟩ := h2; exact ⟨a, cap, e⟩
  clear h1 h2 hps hls
  obtain ⟨w0, hw0⟩ : ∃ w0, w0 = (w.alloc (Obj.cells #[.slice x1 ps.length c1, .slice x2 ls.length c2] 49)).alloc (Obj.cells #[.slice none 0 0, .slice none 0 0] 49) := ⟨_, rfl⟩
  obtain ⟨q0, q1, hs0⟩ := two_allocs w (Obj.cells #[.slice x1 ps.length c1, .slice x2 ls.length c2] 49) (Obj.cells #[.slice none 0 0, .slice none 0 0] 49)
  rw [← hw0] at q0 q1 hs0
  have HB_w0 : Hid (Below w.heap.size w w0) := hide (by rw [hw0]; exact ((Below.refl w.heap.size w).alloc (Nat.le_refl _) _).alloc (by simp) _)
  obtain ⟨a0, ha0⟩ : ∃ a, a = w.heap.size := ⟨_, rfl⟩
  obtain ⟨a1, ha1⟩ : ∃ a, a = a0 + 1 := ⟨_, rfl⟩
  rw [← ha0] at q0 q1 hs0
  rw [← ha1] at q1
  have Hbox_w0 := hide (held_var q0)
  have Hres_w0 := hide (held_var q1)
  have HA := hide (⟨ha0, ha1, hs0⟩ : a0 = w.heap.size ∧ a1 = a0 + 1 ∧ w0.heap.size = a0 + 2)
  clear q0 q1 hs0
  go_enter Tryd.func33, Tryd.ntmps33
  go_wp2_with fail
  rw [← hw0, ← ha0, ← ha1]
  clear hw0 ha0 ha1
  refine (HCo.out _ _ (disk_below HD.out HB_w0.out)).mono ?_
  rintro e w1 ⟨u1, rfl, hown, hb⟩
  have HZ1 : Hid (w0.heap.size ≤ w1.heap.size) := hide hb.size
  have HB_w1 : Hid (Below w.heap.size w w1) := hide (HB_w0.out.trans (hb.mono HB_w0.out.size))
  have Hbox_w1 := hide (held_below Hbox_w0.out hb)
  have Hres_w1 := hide (held_below Hres_w0.out hb)
  have Hd_w1 := hide (held_disk hown)
  obtain ⟨x3, c3, y3, d3, rfl⟩ := disk_form hown
  clear hown hb
  obtain ⟨g, hg⟩ : ∃ g, g = w1.heap.size := ⟨_, rfl⟩
  obtain ⟨w2, hnw⟩ : ∃ wx, wx = w1.alloc (Obj.cells #[.slice x3 ps.length c3, .slice y3 ls.length d3] 49) := ⟨_, rfl⟩
  have hnv := new_var w1 (.slice x3 ps.length c3) (.slice y3 ls.length d3) 49
  rw [← hnw, ← hg] at hnv
  have hbv : Below w1.heap.size w1 w2 := by rw [← hg]; exact hnv.1
  have Hg_w2 := hide hnv.2
  have HGt : Hid (w1.heap.size = g) := hide hg.symm
  have HB_w2 : Hid (Below w.heap.size w w2) := hide (HB_w1.out.trans (hbv.mono HB_w1.out.size))
  have Hbox_w2 := hide (held_below Hbox_w1.out hbv)
  have Hres_w2 := hide (held_below Hres_w1.out hbv)
  have Hd_w2 := hide (held_below Hd_w1.out hbv)
  clear hnv hbv
  obtain ⟨cb0, cb1⟩ := held_cells Hbox_w2.out
  rw [hnw] at cb0 cb1
  go_wp2_with fail
  rw [← hnw, ← hg]
  clear hnw hg cb0 cb1
  refine (HOk.out _ _ (disk_below HD.out HB_w2.out)).mono ?_
  rintro e w3 ⟨rfl, hb⟩
  have HB_w3 : Hid (Below w.heap.size w w3) := hide (HB_w2.out.trans (hb.mono HB_w2.out.size))
  have Hbox_w3 := hide (held_below Hbox_w2.out hb)
  have Hres_w3 := hide (held_below Hres_w2.out hb)
  have Hd_w3 := hide (held_below Hd_w2.out hb)
  have Hg_w3 := hide (held_below Hg_w2.out hb)
  clear hb
  obtain ⟨cb0, cb1⟩ := held_cells Hbox_w3.out
  obtain ⟨cg0, cg1⟩ := held_cells Hg_w3.out
  obtain ⟨cr0, cr1⟩ := held_cells Hres_w3.out
  have fr0 := (cell_at Hres_w3.out.is 0).2
  have fr1 := (cell_at Hres_w3.out.is 1).2
  by_cases hok : diskOkB ps ls = true
  · rw [hok]
    by_cases hin : 0 ≤ page ∧ page ≤ (ps.length : Int) - 1
    · rw [decide_eq_true hin] at HIn
      go_wp2_with fail
      refine (HIn.out _).mono ?_
      rintro e w4 ⟨rfl, rfl⟩
      by_cases ht2 : text.size ≤ 240
      · by_cases h200 : ls.length = 200
        · have HNo := hide (writeOk_no (page := page) (text := text) (ps := ps) (ls := ls) (fun h => h.2.2.2 h200))
          have hdl : decide ((240 : Int) < (text.size : Int)) = false := by simp; omega
          have hd2 : ((ls.length : Int) = 200) := by omega
          go_wp2_with fail
          have hfin := ret_disk Hres_w3.out.is Hd_w3.out.is.1 (by have := HA.out; omega) (by have := HA.out; omega) HB_w3.out
          rw [h200] at hfin
          refine bodyPost_ret (v := .tuple #[.agg #[.slice x3 ps.length c3, .slice y3 200 d3], .bool false]) (by simp [results, Tryd.results33, go_sem, hfin.1, hfin.2.1]) rfl ⟨_, by rw [HNo.out.1], by rw [HNo.out.2]; exact hfin.2.2.1, hfin.2.2.2⟩
        · have HYes := hide (writeOk_yes hok hin ht2 h200)
          have hdl : decide ((240 : Int) < (text.size : Int)) = false := by simp; omega
          have hd2 : ¬ ((ls.length : Int) = 200) := by omega
          obtain ⟨o1, o2⟩ := disk_rows Hd_w3.out.is.1
          have HO1 := hide o1
          have HU : Hid (∀ k, (Value.slice y3 ls.length d3).ownBlock = some k → w0.heap.size ≤ k ∧ k < w1.heap.size) := hide (fun k hk => ⟨(o2.lt k hk).1, Hd_w3.out.is.2 k ⟨_, _, rfl, Or.inr hk⟩⟩)
          clear o1
          go_wp2_with (at_builtin; refine wpList_append_own _ rfl _ _ 47 rfl w0.heap.size 115 i1 (.agg #[.int .i64 0, .string ⟨#[]⟩]) 2 24 Tryd.underlying47 hj hy0 hy1 hy2 rfl (by decide) _ _ _ rfl (o2.alloc _) ⟨w3.heap.size, 0, none⟩ 1 1 [.int .i64 page, .string text] rfl rfl ?c1 ?c2 ?c3 ?c4 ?c5 ?_)
          case c1 => exact World.news_of_block (cs := #[.int .i64 page, .string text]) (t := 115) (fr := (0, 0)) (heap_alloc_new w3 _)
          case c2 => intro u hu; simp at hu; rcases hu with rfl | rfl <;> rfl
          case c3 => unfold maxLen; omega
          case c4 => omega
          case c5 => have := Hd_w3.out.le; have := HZ1.out; simp; omega
          intro v5 w5 hown5 hg5 _
          obtain ⟨y5, d5, rfl⟩ := own_slice hown5
          rw [puts_snoc] at hown5
          have hA := HA.out
          have hu := HU.out
          have hz := HZ1.out
          have hgt := HGt.out
          have hle := Hg_w3.out.le
          have hkeep : ∀ k, k < w3.heap.size → (∀ j, (Value.slice y3 ls.length d3).ownBlock = some j → k ≠ j) → w5.heap[k]? = w3.heap[k]? := fun k hk hn => (hg5.block k (by simp; omega) (fun e => hn k e.symm rfl)).trans (Below.heap_alloc w3 _ k hk)
          have hr5 : w5.heap[a1]? = some (Obj.cells #[.slice none 0 0, .slice none 0 0] 49) := (hkeep a1 Hres_w3.out.le (fun j hj => by have := hu j hj; omega)).trans Hres_w3.out.is
          have hg5' : w5.heap[g]? = some (Obj.cells #[.slice x3 ps.length c3, .slice y3 ls.length d3] 49) := (hkeep g Hg_w3.out.le (fun j hj => by have := hu j hj; omega)).trans Hg_w3.out.is
          have ho5 : w5.ownsRow w0.heap.size 9 1 (.slice x3 ps.length c3) ps.length (strs ps) := own_apart (HO1.out.alloc _) (o2.alloc _) Tryd.types_part hg5
          obtain ⟨w6, hw6⟩ : ∃ w6, w6 = w5.setCell ⟨g, 1, none⟩ (.slice y5 (ls.length + 1) d5) := ⟨_, rfl⟩
          have e6 : w6.heap[g]? = some (Obj.cells #[.slice x3 ps.length c3, .slice y5 (ls.length + 1) d5] 49) := by rw [hw6]; exact heap_setCell_same _ g 1 _ _ _ hg5'
          have r6 : w6.heap[a1]? = some (Obj.cells #[.slice none 0 0, .slice none 0 0] 49) := by rw [hw6, heap_setCell_other _ ⟨g, 1, none⟩ a1 _ (by show a1 ≠ g; omega)]; exact hr5
          have hd6 : DiskOwn w6 w0.heap.size (.agg #[.slice x3 ps.length c3, .slice y5 (ls.length + 1) d5]) ps (ls ++ [(page, text)]) := by
            have k6 : Kept w5 w6 (fun k => k = g) := by rw [hw6]; exact kept_setCell _ _ _ _
            refine ⟨_, _, rfl, own_kept ho5 k6 (fun k hk e => own_ne_type ho5 hg5' (by decide) (by rw [hk, e])), ?_⟩
            rw [List.length_append]
            exact own_kept hown5 k6 (fun k hk e => own_ne_type hown5 hg5' (by decide) (by rw [hk, e]))
          have hb6 : Below w.heap.size w w6 := by
            rw [hw6]
            exact (((HB_w3.out.alloc HB_w3.out.size _).grown hg5 (by simp; have := HB_w3.out.size; omega) (fun k hk => by have := hu k hk; omega))).setCell (by show _ ≤ g; omega) _
          have cg50 : w5.cell? ⟨g, 0, none⟩ = some (.slice x3 ps.length c3) := (cell_at hg5' 0).1
          have cg51 : w5.cell? ⟨g, 1, none⟩ = some (.slice y3 ls.length d3) := (cell_at hg5' 1).1
          have fg51 := (cell_at hg5' 1).2
          have c60 : w6.cell? ⟨g, 0, none⟩ = some (.slice x3 ps.length c3) := (cell_at e6 0).1
          have c61 : w6.cell? ⟨g, 1, none⟩ = some (.slice y5 (ls.length + 1) d5) := (cell_at e6 1).1
          have d60 : w6.cell? ⟨a1, 0, none⟩ = some (.slice none 0 0) := (cell_at r6 0).1
          have d61 : w6.cell? ⟨a1, 1, none⟩ = some (.slice none 0 0) := (cell_at r6 1).1
          have f60 := (cell_at r6 0).2
          have f61 := (cell_at r6 1).2
          have HR6 := hide r6
          have HD6 := hide hd6
          have HB6 := hide hb6
          have HW6 := hide hw6
          rw [hw6] at c60 c61 d60 d61 f60 f61
          clear hown5 hg5 hkeep hr5 hg5' ho5 e6 r6 hd6 hb6 hw6 o2 hA hu hz hgt hle cb0 cb1 cg0 cg1 cr0 cr1 fr0 fr1
          go_wp2_with fail
          rw [← HW6.out]
          have hfin := ret_disk HR6.out HD6.out (by have := HA.out; omega) (by have := HA.out; omega) HB6.out
          refine bodyPost_ret (v := .tuple #[.agg #[.slice x3 ps.length c3, .slice y5 (ls.length + 1) d5], .bool true]) (by simp [results, Tryd.results33, go_sem, hfin.1, hfin.2.1]) rfl ⟨_, by rw [HYes.out.1], by rw [HYes.out.2]; exact hfin.2.2.1, hfin.2.2.2⟩
      · have HNo := hide (writeOk_no (page := page) (text := text) (ps := ps) (ls := ls) (fun h => ht2 h.2.2.1))
        have hdl : decide ((240 : Int) < (text.size : Int)) = true := by simp; omega
        go_wp2_with fail
        have hfin := ret_disk Hres_w3.out.is Hd_w3.out.is.1 (by have := HA.out; omega) (by have := HA.out; omega) HB_w3.out
        refine bodyPost_ret (v := .tuple #[.agg #[.slice x3 ps.length c3, .slice y3 ls.length d3], .bool false]) (by simp [results, Tryd.results33, go_sem, hfin.1, hfin.2.1]) rfl ⟨_, by rw [HNo.out.1], by rw [HNo.out.2]; exact hfin.2.2.1, hfin.2.2.2⟩
    · rw [decide_eq_false hin] at HIn
      have HNo := hide (writeOk_no (text := text) (ls := ls) (fun h => hin h.2.1))
      go_wp2_with fail
      refine (HIn.out _).mono ?_
      rintro e w4 ⟨rfl, rfl⟩
      go_wp2_with fail
      have hfin := ret_disk Hres_w3.out.is Hd_w3.out.is.1 (by have := HA.out; omega) (by have := HA.out; omega) HB_w3.out
      refine bodyPost_ret (v := .tuple #[.agg #[.slice x3 ps.length c3, .slice y3 ls.length d3], .bool false]) (by simp [results, Tryd.results33, go_sem, hfin.1, hfin.2.1]) rfl ⟨_, by rw [HNo.out.1], by rw [HNo.out.2]; exact hfin.2.2.1, hfin.2.2.2⟩
  · have hok' : diskOkB ps ls = false := by rw [← Bool.not_eq_true]; exact hok
    have HNo := hide (writeOk_no (page := page) (text := text) (fun h => hok h.1))
    rw [hok']
    go_wp2_with fail
    have hfin := ret_disk Hres_w3.out.is Hd_w3.out.is.1 (by have := HA.out; omega) (by have := HA.out; omega) HB_w3.out
    refine bodyPost_ret (v := .tuple #[.agg #[.slice x3 ps.length c3, .slice y3 ls.length d3], .bool false]) (by simp [results, Tryd.results33, go_sem, hfin.1, hfin.2.1]) rfl ⟨_, by rw [HNo.out.1], by rw [HNo.out.2]; exact hfin.2.2.1, hfin.2.2.2⟩
end Go.Proofs.YtglcfaibgjiigaaDoor

namespace Go.Proofs.YtglcfaibgjiigaaDoor

def bestOf (m0 : Mt) (ok0 : Bool) (m1 : Mt) (ok1 : Bool) : Mt × Bool := if ok0 = true ∧ (ok1 = false ∨ m1.tx ≤ m0.tx) then (m0, true) else if ok1 = true then (m1, true) else (Mt.none, false)

def BestM (t0 t1 : ByteArray) (m : Mt) (ok : Bool) : Prop := ∃ m0 ok0 m1 ok1, ReadM t0 m0 ok0 ∧ ReadM t1 m1 ok1 ∧ (m, ok) = bestOf m0 ok0 m1 ok1

theorem bestM_one {t0 t1 : ByteArray} {m n : Mt} {ok ko : Bool} (h : BestM t0 t1 m ok) (k : BestM t0 t1 n ko) : m = n ∧ ok = ko := by
  obtain ⟨m0, b0, m1, b1, h0, h1, h2⟩ := h
  obtain ⟨n0, d0, n1, d1, k0, k1, k2⟩ := k
  obtain ⟨rfl, rfl⟩ := readM_one h0 k0
  obtain ⟨rfl, rfl⟩ := readM_one h1 k1
  have := h2.trans k2.symm
  injection this with e1 e2
  exact ⟨e1, e2⟩

theorem readM_false {t : ByteArray} {m : Mt} (h : ReadM t m false) : m = Mt.none := by
  rcases h with ⟨h, -⟩ | ⟨-, h, -⟩
  · cases h
  · exact h

theorem readD_small {ps : List ByteArray} {ls : List (Int × ByteArray)} {M : Nat} (hps : ∀ s ∈ ps, s.size ≤ M) (hls : ∀ p ∈ ls, p.2.size ≤ M) (page : Int) : (readD ps ls page).size ≤ M := by
  have hlate : ∀ k t, lateAt ls page k = some t → t.size ≤ M := fun k => by
    induction k with
    | zero => intro t h; simp [lateAt] at h
    | succ k ih =>
      intro t h
      rw [lateAt] at h
      split at h
      · next p hp =>
        split at h
        · injection h with h
          rw [← h]
          exact hls p (List.mem_of_getElem? hp)
        · exact ih t h
      · exact ih t h
  unfold readD
  split
  · split
    · next t h => exact hlate _ _ h
    · rw [List.getD_eq_getElem?_getD]
      cases h : ps[page.toNat]? with
      | none => exact Nat.zero_le _
      | some x => exact hps x (List.mem_of_getElem? h)
  · exact Nat.zero_le _
end Go.Proofs.YtglcfaibgjiigaaDoor

namespace Go.Proofs.YtglcfaibgjiigaaDoor
open Go.RowKit

theorem lateAt_append (ls ms : List (Int × ByteArray)) (page : Int) : ∀ k, k ≤ ls.length → lateAt (ls ++ ms) page k = lateAt ls page k := by
  intro k
  induction k with
  | zero => intro _; rfl
  | succ k ih =>
    intro hk
    have e : (ls ++ ms)[k]? = ls[k]? := List.getElem?_append_left (by omega)
    rw [lateAt, lateAt, e, ih (by omega)]

theorem lateAt_snoc (ls : List (Int × ByteArray)) (q page : Int) (t : ByteArray) : lateAt (ls ++ [(q, t)]) page (ls ++ [(q, t)]).length = if q = page then some t else lateAt ls page ls.length := by
  have e : (ls ++ [(q, t)])[ls.length]? = some (q, t) := by simp
  rw [List.length_append, List.length_singleton]
  by_cases h : q = page
  · rw [if_pos h]; subst h; exact lateAt_hit e
  · rw [if_neg h, lateAt_miss e h, lateAt_append ls _ page _ (Nat.le_refl _)]

/-- what is read of the page that was written -/
theorem read_written {ps : List ByteArray} {ls : List (Int × ByteArray)} {page : Int} {t : ByteArray} (h : 0 ≤ page ∧ page < (ps.length : Int)) : readD ps (ls ++ [(page, t)]) page = t :=
  readD_late h (by rw [lateAt_snoc, if_pos rfl])

/-- what is read of all other pages -/
theorem read_other {ps : List ByteArray} {ls : List (Int × ByteArray)} {page i : Int} {t : ByteArray} (h : i ≠ page) : readD ps (ls ++ [(page, t)]) i = readD ps ls i := by
  have e : lateAt (ls ++ [(page, t)]) i (ls ++ [(page, t)]).length = lateAt ls i ls.length := by rw [lateAt_snoc, if_neg (fun e => h e.symm)]
  rw [readD, readD, e]

theorem put_read {ps : List ByteArray} {q : Int} {t : ByteArray} {j : Nat} (hj : j < ps.length) : (putD ps (q, t)).getD j ⟨#[]⟩ = if q = (j : Int) then t else ps.getD j ⟨#[]⟩ := by
  unfold putD
  by_cases h : q = (j : Int)
  · subst h
    rw [if_pos (by show 0 ≤ (j : Int) ∧ (j : Int) < _; omega), if_pos rfl]
    simp [hj]
  · rw [if_neg h]
    split
    · next hq =>
      have hne : q.toNat ≠ j := by have := hq.1; omega
      simp [List.getD, hne]
    · rfl

theorem sync_read_to (ps : List ByteArray) (ls : List (Int × ByteArray)) (j : Nat) (hj : j < ps.length) : ∀ k, k ≤ ls.length → (syncD ps (ls.take k)).getD j ⟨#[]⟩ = match lateAt ls (j : Int) k with | some t => t | none => ps.getD j ⟨#[]⟩ := by
  intro k
  induction k with
  | zero => intro _; rfl
  | succ k ih =>
    intro hk
    have hlt : k < ls.length := by omega
    have e : ls[k]? = some (ls[k].1, ls[k].2) := List.getElem?_eq_getElem hlt
    rw [syncD_succ ps ls k hlt]
    have hp := put_read (ps := syncD ps (ls.take k)) (q := ls[k].1) (t := ls[k].2) (j := j) (by rw [syncD_length]; exact hj)
    refine Eq.trans hp ?_
    by_cases h : ls[k].1 = (j : Int)
    · rw [if_pos h, lateAt, e]
      simp [h]
    · rw [if_neg h, lateAt_miss e h]
      exact ih (by omega)

/-- what is kept behind a sync is what was read -/
theorem sync_page (ps : List ByteArray) (ls : List (Int × ByteArray)) (j : Nat) (hj : j < ps.length) : (syncD ps ls).getD j ⟨#[]⟩ = readD ps ls (j : Int) := by
  have h := sync_read_to ps ls j hj ls.length (Nat.le_refl _)
  rw [List.take_length] at h
  rw [h, readD, if_pos (by omega), Int.toNat_natCast]
  all_goals rfl

theorem sync_read (ps : List ByteArray) (ls : List (Int × ByteArray)) (j : Nat) (hj : j < ps.length) : readD (syncD ps ls) [] (j : Int) = readD ps ls (j : Int) := by
  rw [← sync_page ps ls j hj, readD, if_pos (by rw [syncD_length]; omega)]
  rfl

theorem sync_none (ps : List ByteArray) : syncD ps [] = ps := rfl

theorem fall_none (left : List Bool) (torn : Int) (ps : List ByteArray) : fallP left torn ps [] = ps := by
  rw [fallP]
  split <;> rfl

theorem fallL_nil (ps : List ByteArray) : fallL ps [] = [] := by
  rw [fallL]
  split <;> rfl

theorem fallK_lostAll (torn : Int) (ps : List ByteArray) (ls : List (Int × ByteArray)) (k : Nat) : fallK [] torn ps ls k = ps := by
  induction k with
  | zero => rfl
  | succ k ih => rw [fallK_lost (by simp), ih]

theorem fall_lostAll (torn : Int) (ps : List ByteArray) (ls : List (Int × ByteArray)) : fallP [] torn ps ls = ps := by
  rw [fallP]
  split
  · exact fallK_lostAll ..
  · rfl

theorem fallP_length (left : List Bool) (torn : Int) (ps : List ByteArray) (ls : List (Int × ByteArray)) : (fallP left torn ps ls).length = ps.length := by
  rw [fallP]
  split
  · exact fallK_length ..
  · rfl

/-- page by page: what was kept, or something that was late and is left -/
theorem fallK_page (left : List Bool) (torn : Int) (ps : List ByteArray) (ls : List (Int × ByteArray)) (i : Nat) (hi : i < ps.length) (n : Nat) (hn : n ≤ ls.length) :
    (fallK left torn ps ls n).getD i ⟨#[]⟩ = ps.getD i ⟨#[]⟩ ∨ ∃ k, ∃ h : k < ls.length, k < n ∧ ls[k].1 = (i : Int) ∧ left.getD k false = true ∧ (fallK left torn ps ls n).getD i ⟨#[]⟩ = fallT torn k ls[k].2 := by
  induction n with
  | zero => exact Or.inl rfl
  | succ n ih =>
    have hlt : n < ls.length := by omega
    have e : ls[n]? = some (ls[n].1, ls[n].2) := List.getElem?_eq_getElem hlt
    have up : ∀ {x : List ByteArray}, (x.getD i ⟨#[]⟩ = (fallK left torn ps ls n).getD i ⟨#[]⟩) → x.getD i ⟨#[]⟩ = ps.getD i ⟨#[]⟩ ∨ ∃ k, ∃ h : k < ls.length, k < n + 1 ∧ ls[k].1 = (i : Int) ∧ left.getD k false = true ∧ x.getD i ⟨#[]⟩ = fallT torn k ls[k].2 := fun {x} hx => by
      rw [hx]
      rcases ih (by omega) with h | ⟨k, h1, h2, h3⟩
      · exact Or.inl h
      · exact Or.inr ⟨k, h1, by omega, h3⟩
    cases hl : left.getD n false with
    | false => rw [fallK_lost hl]; exact up rfl
    | true =>
      rw [fallK_put e hl]
      by_cases h : ls[n].1 = (i : Int)
      · refine Or.inr ⟨n, hlt, by omega, h, hl, ?_⟩
        rw [put_read (by rw [fallK_length]; exact hi), if_pos h]
      · exact up (by rw [put_read (by rw [fallK_length]; exact hi), if_neg h])

end Go.Proofs.YtglcfaibgjiigaaDoor

namespace Go.Proofs.YtglcfaibgjiigaaDoor
open Go.RowKit

/-- the page of a meta -/
def pgOf (x : Int) : Int := if x.tmod 2 = 0 then 0 else 1

theorem and_one (x : Int) : bits .and .i64 x 1 = pgOf x := by
  have h1 : ((BitVec.ofInt 64 x) &&& (BitVec.ofInt 64 1)).toNat = (x % 18446744073709551616).toNat % 2 := by
    rw [BitVec.toNat_and, BitVec.toNat_ofInt, show (BitVec.ofInt 64 1).toNat = 1 from by decide, Nat.and_one_is_mod]
    rfl
  have h2 : bits .and .i64 x 1 = IntKind.i64.wrap (((x % 18446744073709551616).toNat % 2 : Nat) : Int) := by rw [← h1]; rfl
  rw [h2, pgOf]
  have h3 : x.tmod 2 = 0 ↔ x % 2 = 0 := by rw [← Int.dvd_iff_tmod_eq_zero, ← Int.dvd_iff_emod_eq_zero]
  by_cases h : x % 2 = 0
  · rw [if_pos (h3.2 h), show (x % 18446744073709551616).toNat % 2 = 0 from by omega]
    decide
  · rw [if_neg (fun e => h (h3.1 e)), show (x % 18446744073709551616).toNat % 2 = 1 from by omega]
    decide

set_option maxHeartbeats 400000 in
theorem implMetaPage_any (x : Int) (w : World) :
    Calls Tryd.prog 34 #[.int .i64 x] w fun e w' => e = .returned (.int .i64 (pgOf x)) ∧ w = w' := by
  have HB := hide (and_one x)
  go_enter Tryd.func34, Tryd.ntmps34
  go_wp2
  go_ret
  rw [← HB.out]
  exact ⟨rfl, rfl⟩
end Go.Proofs.YtglcfaibgjiigaaDoor

namespace Go.Proofs.YtglcfaibgjiigaaDoor

theorem readM_mine {t : ByteArray} {m x : Mt} {ok : Bool} (h : ReadM t x ok) (hg : m.good = true) (ht : t = m.textO) : ok = true ∧ x = m := by
  have hm : IsM t m := isM_of_text.2 ⟨hg, ht.symm⟩
  rcases h with ⟨h1, h2, h3⟩ | ⟨h1, h2, h3⟩
  · exact ⟨h1, (h3 m hm).symm⟩
  · exact absurd hm (h3 m)

theorem readM_not {t : ByteArray} {x : Mt} {ok : Bool} (h : ReadM t x ok) (hn : isSealed t.data.toList = false) : ok = false := by
  rcases h with ⟨-, h2, -⟩ | ⟨h1, -⟩
  · exact absurd h2 (isM_unsealed hn x)
  · exact h1

theorem best_left {t0 t1 : ByteArray} {x m : Mt} {ok : Bool} (h : BestM t0 t1 x ok) (hg : m.good = true) (h0 : t0 = m.textO) (h1 : isSealed t1.data.toList = false) : x = m ∧ ok = true := by
  obtain ⟨m0, b0, m1, b1, k0, k1, e⟩ := h
  obtain ⟨rfl, rfl⟩ := readM_mine k0 hg h0
  obtain rfl := readM_not k1 h1
  rw [bestOf, if_pos ⟨rfl, Or.inl rfl⟩] at e
  injection e with e1 e2
  exact ⟨e1, e2⟩

theorem best_right {t0 t1 : ByteArray} {x m : Mt} {ok : Bool} (h : BestM t0 t1 x ok) (hg : m.good = true) (h0 : isSealed t0.data.toList = false) (h1 : t1 = m.textO) : x = m ∧ ok = true := by
  obtain ⟨m0, b0, m1, b1, k0, k1, e⟩ := h
  obtain ⟨rfl, rfl⟩ := readM_mine k1 hg h1
  obtain rfl := readM_not k0 h0
  rw [bestOf, if_neg (fun h => by cases h.1), if_pos rfl] at e
  injection e with e1 e2
  exact ⟨e1, e2⟩

theorem best_two {t0 t1 : ByteArray} {x m n : Mt} {ok : Bool} (h : BestM t0 t1 x ok) (hm : m.good = true) (hn : n.good = true) (h0 : t0 = m.textO) (h1 : t1 = n.textO) : ok = true ∧ x = if n.tx ≤ m.tx then m else n := by
  obtain ⟨m0, b0, m1, b1, k0, k1, e⟩ := h
  obtain ⟨rfl, rfl⟩ := readM_mine k0 hm h0
  obtain ⟨rfl, rfl⟩ := readM_mine k1 hn h1
  by_cases hle : m1.tx ≤ m0.tx
  · rw [bestOf, if_pos ⟨rfl, Or.inr hle⟩] at e
    injection e with e1 e2
    exact ⟨e2, by rw [if_pos hle]; exact e1⟩
  · rw [bestOf, if_neg (fun h => by rcases h.2 with h | h; cases h; exact hle h), if_pos rfl] at e
    injection e with e1 e2
    exact ⟨e2, by rw [if_neg hle]; exact e1⟩

theorem new40_ok : diskOkB (newP 40) [] = true := by decide

theorem new40_length : (newP 40).length = 40 := by decide

theorem new40_size : ∀ s ∈ newP 40, s.size ≤ 1048576 := by decide

theorem write_on {ls : List (Int × ByteArray)} (h : diskOkB (newP 40) ls = true) (hl : ls.length < 100) {page : Int} {t : ByteArray} (hp : page = 0 ∨ page = 1) (ht : t.size ≤ 240) : writeL (newP 40) ls page t = ls ++ [(page, t)] ∧ diskOkB (newP 40) (ls ++ [(page, t)]) = true := by
  have hw : writeOk (newP 40) ls page t = true := by
    rw [writeOk, h, decide_eq_true (by rw [new40_length]; omega), decide_eq_true ht, decide_eq_true (by omega)]
    rfl
  refine ⟨by rw [writeL, if_pos hw], ?_⟩
  obtain ⟨h1, h2, h3⟩ := diskOk_yes h
  have h4 : 4 ≤ (newP 40).length ∧ (newP 40).length ≤ 40 ∧ (ls ++ [(page, t)]).length ≤ 200 := by
    rw [new40_length, List.length_append, List.length_singleton]
    omega
  unfold diskOkB
  rw [Bool.and_eq_true, Bool.and_eq_true, List.all_eq_true, List.all_eq_true, decide_eq_true_eq]
  refine ⟨⟨fun s hs => decide_eq_true (h1 s hs), fun p hp' => decide_eq_true ?_⟩, h4⟩
  rcases List.mem_append.1 hp' with hp' | hp'
  · exact h2 p hp'
  · rw [List.mem_singleton.1 hp', new40_length]
    exact ⟨by simp only; omega, by simp only; omega, ht⟩

theorem pgOf_cases (x : Int) : pgOf x = 0 ∨ pgOf x = 1 := by
  unfold pgOf
  split
  · exact Or.inl rfl
  · exact Or.inr rfl

theorem pgOf_next (x : Int) (h : 0 ≤ x) : pgOf (x + 1) = 1 - pgOf x := by
  unfold pgOf
  rw [Int.tmod_eq_emod_of_nonneg (by omega), Int.tmod_eq_emod_of_nonneg h]
  split <;> split <;> omega

theorem un_empty : isSealed (⟨#[]⟩ : ByteArray).data.toList = false := by decide
theorem un_x : isSealed (⟨#[120]⟩ : ByteArray).data.toList = false := by decide

theorem read_new (p : Int) : readD (newP 40) [] p = ⟨#[]⟩ := by
  by_cases h : 0 ≤ p ∧ p < ((newP 40).length : Int)
  · rw [readD_page h rfl]
    rw [List.getD_eq_getElem?_getD]
    cases hx : (newP 40)[p.toNat]? with
    | none => rfl
    | some x => exact (show ∀ x ∈ newP 40, x = (⟨#[]⟩ : ByteArray) from fun x hx => List.eq_of_mem_replicate hx) x (List.mem_of_getElem? hx)
  · exact readD_out (by omega)
end Go.Proofs.YtglcfaibgjiigaaDoor

namespace Go.Proofs.YtglcfaibgjiigaaDoor
open Go.RowKit

/-- a disk in a variable, while a cursor is drawn from -/
def BV (w1 wr : World) (g gd B : Nat) (a : Option Addr) (len cap : Nat) (u0 u1 : Value) (ps : List ByteArray) (ls : List (Int × ByteArray)) : Prop :=
  wr.heap[gd]? = some (.cells #[u0, u1] 49 (0, 0)) ∧ DiskOwn wr (g + 1) (.agg #[u0, u1]) ps ls ∧ (∀ k, diskBlocks (.agg #[u0, u1]) k → k ≠ gd) ∧ Drawn w1 wr g B a len cap ∧ w1.heap.size ≤ gd ∧ g < w1.heap.size ∧ B ≤ g

theorem bv_drawn {w1 wr w' : World} {g gd B : Nat} {a : Option Addr} {len cap : Nat} {u0 u1 : Value} {ps : List ByteArray} {ls : List (Int × ByteArray)} (h : BV w1 wr g gd B a len cap u0 u1 ps ls) (hd : Drawn wr w' g B a len cap) : BV w1 w' g gd B a len cap u0 u1 ps ls := by
  obtain ⟨h1, h2, h3, h4, h5, h6, h7⟩ := h
  have hk : Kept wr w' (fun k => k = g) := ⟨hd.2.1.os, hd.2.1.tape, hd.2.1.output, hd.2.1.size, fun k hk hn => hd.2.1.block k hk (fun e => hn (by injection e))⟩
  have hlt := (Array.getElem?_eq_some_iff.1 h1).1
  refine ⟨(hk.2.2.2.2 gd hlt (by omega)).trans h1, diskOwn_kept h2 hk (fun k hk' => by have := (diskOwn_lt h2 k hk').1; omega), h3, drawn_trans h4 hd, h5, h6, h7⟩

theorem bv_below {w1 wr w' : World} {g gd B : Nat} {a : Option Addr} {len cap : Nat} {u0 u1 : Value} {ps : List ByteArray} {ls : List (Int × ByteArray)} (h : BV w1 wr g gd B a len cap u0 u1 ps ls) (hb : Below wr.heap.size wr w') : BV w1 w' g gd B a len cap u0 u1 ps ls :=
  bv_drawn h (drawn_newM h.2.2.2.1.1 h.2.2.2.1.2.2 h.2.2.2.2.2.2 hb)

theorem bv_cells {w1 wr : World} {g gd B : Nat} {a : Option Addr} {len cap : Nat} {u0 u1 : Value} {ps : List ByteArray} {ls : List (Int × ByteArray)} (h : BV w1 wr g gd B a len cap u0 u1 ps ls) : wr.cell? ⟨gd, 0, none⟩ = some u0 ∧ wr.cell? ⟨gd, 1, none⟩ = some u1 ∧ wr.frozen? ⟨gd, 0, none⟩ = false ∧ wr.frozen? ⟨gd, 1, none⟩ = false :=
  ⟨(cell_at h.1 0).1, (cell_at h.1 1).1, (cell_at h.1 0).2, (cell_at h.1 1).2⟩

/-- the cursor and the code stay where a variable above it turns -/
theorem drawn_var {w1 wr w' : World} {g gd B : Nat} {a : Option Addr} {len cap : Nat} (h : Drawn w1 wr g B a len cap) (hk : Kept wr w' (fun k => k = gd)) (h5 : w1.heap.size ≤ gd) (h6 : g < w1.heap.size) (h7 : B ≤ g) : Drawn w1 w' g B a len cap := by
  obtain ⟨⟨i, x, hi, hc⟩, hg, hd⟩ := h
  have hlt := (Array.getElem?_eq_some_iff.1 hc).1
  refine ⟨⟨i, x, hi, (hk.2.2.2.2 g hlt (by omega)).trans hc⟩, ⟨hk.1.trans hg.os, hk.2.1.trans hg.tape, hk.2.2.1.trans hg.output, Nat.le_trans hg.size hk.2.2.2.1, fun k hk' hn => (hk.2.2.2.2 k (Nat.lt_of_lt_of_le hk' hg.size) (by omega)).trans (hg.block k hk' hn)⟩, hd.1, hd.2.imp id (fun ⟨b, off, e, hlt', hz⟩ => ⟨b, off, e, hlt', fun j hj => ?_⟩)⟩
  obtain ⟨z, z1, z2⟩ := hz j hj
  have hbl : b < wr.heap.size := World.block_lt_of_cell? wr _ z2
  exact ⟨z, z1, by rw [World.cell?_of_block (hk.2.2.2.2 b hbl (by omega))]; exact z2⟩

theorem bv_store {w1 w5 : World} {g gd B B5 : Nat} {a : Option Addr} {len cap : Nat} {u0 u1 s0 s1 : Value} {ps qs : List ByteArray} {ls ms : List (Int × ByteArray)} (h : BV w1 w5 g gd B a len cap u0 u1 ps ls) (ho : DiskOwn w5 B5 (.agg #[s0, s1]) qs ms) (hB : gd < B5) :
    BV w1 ((w5.setCell ⟨gd, 0, none⟩ s0).setCell ⟨gd, 1, none⟩ s1) g gd B a len cap s0 s1 qs ms := by
  obtain ⟨h1, h2, h3, h4, h5, h6, h7⟩ := h
  have y1 : (w5.setCell ⟨gd, 0, none⟩ s0).heap[gd]? = some (Obj.cells #[s0, u1] 49) := heap_setCell_same _ gd 0 _ _ _ h1
  have y2 : ((w5.setCell ⟨gd, 0, none⟩ s0).setCell ⟨gd, 1, none⟩ s1).heap[gd]? = some (Obj.cells #[s0, s1] 49) := heap_setCell_same _ gd 1 _ _ _ y1
  have k2 : Kept w5 ((w5.setCell ⟨gd, 0, none⟩ s0).setCell ⟨gd, 1, none⟩ s1) (fun k => k = gd) := kept_trans (kept_setCell _ _ _ _) (kept_setCell _ _ _ _) (fun j _ h => h)
  obtain ⟨o1, o2⟩ := disk_rows ho
  refine ⟨y2, ⟨_, _, rfl, own_down (own_kept o1 k2 (fun k hk => by have := (o1.lt k hk).1; omega)) (by omega), own_down (own_kept o2 k2 (fun k hk => by have := (o2.lt k hk).1; omega)) (by omega)⟩, fun k hk => by have := (diskOwn_lt ho k hk).1; omega, drawn_var h4 k2 h5 h6 h7, h5, h6, h7⟩

/-- the list of pages is cut -/
theorem own_cut {w : World} {B n c k : Nat} {x : Option Addr} {l : List ByteArray} (h : w.ownsRow B 9 1 (.slice x n c) n (strs l)) (hn : n = l.length) (hk : k ≤ n) : w.ownsRow B 9 1 (.slice x k c) k (strs (l.take k)) := by
  rcases h.2 with ⟨e, h0⟩ | ⟨g, c', cur, e, h1, h2, h3, h4, h5, h6⟩
  · injection e with e1 _ e2
    subst e1 e2
    have : k = 0 := by omega
    subst this
    exact ⟨by simp [strs], Or.inl ⟨rfl, rfl⟩⟩
  · injection e with e1 _ e2
    subst e1 e2
    refine ⟨by simp [strs]; omega, Or.inr ⟨g, c, cur, rfl, h1, h2, by omega, h4, h5, ?_⟩⟩
    have : strs (l.take k) = (strs l).take k := by simp [strs]
    rw [this, ← h6, List.take_take]
    congr 1
    omega

theorem bv_cut {w1 wr : World} {g gd B n c k : Nat} {a : Option Addr} {len cap : Nat} {x : Option Addr} {u1 : Value} {ps : List ByteArray} {ls : List (Int × ByteArray)} (h : BV w1 wr g gd B a len cap (.slice x n c) u1 ps ls) (hn : n = ps.length) (hk : k ≤ n) :
    BV w1 (wr.setCell ⟨gd, 0, none⟩ (.slice x k c)) g gd B a len cap (.slice x k c) u1 (ps.take k) ls := by
  obtain ⟨h1, h2, h3, h4, h5, h6, h7⟩ := h
  have y1 : (wr.setCell ⟨gd, 0, none⟩ (.slice x k c)).heap[gd]? = some (Obj.cells #[.slice x k c, u1] 49) := heap_setCell_same _ gd 0 _ _ _ h1
  have k2 : Kept wr (wr.setCell ⟨gd, 0, none⟩ (.slice x k c)) (fun k => k = gd) := kept_setCell _ _ _ _
  have h2' := diskOwn_kept h2 k2 h3
  obtain ⟨o1, o2⟩ := disk_rows h2'
  rw [← hn] at o1
  have o3 := own_cut o1 hn hk
  have hl : (ps.take k).length = k := by rw [List.length_take]; omega
  refine ⟨y1, ⟨_, _, rfl, by rw [hl]; exact o3, o2⟩, fun j hj => h3 j ?_, drawn_var h4 k2 h5 h6 h7, h5, h6, h7⟩
  obtain ⟨vp, vl, e, hj⟩ := hj
  injection e with e
  injection e with e
  injection e with e1 e
  injection e with e2
  subst e1 e2
  refine ⟨_, _, rfl, hj.imp (fun h => ?_) id⟩
  cases x with
  | none => cases h
  | some ad => exact h

theorem disk_formB {w : World} {v : Value} {ps : List ByteArray} {ls : List (Int × ByteArray)} (h : DiskAt w v ps ls) : ∃ a n c b m d, v = .agg #[.slice a n c, .slice b m d] ∧ n = ps.length ∧ m = ls.length := by
  obtain ⟨vp, vl, rfl, h1, h2⟩ := h
  obtain ⟨-, a, c, rfl, -⟩ := h1
  obtain ⟨-, b, d, rfl, -⟩ := h2
  exact ⟨_, _, _, _, _, _, rfl, rfl, rfl⟩

def SmallD (ps : List ByteArray) (ls : List (Int × ByteArray)) (i : Nat) : Prop := ps.length = 30 ∧ (∀ s ∈ ps, s.size ≤ 240) ∧ ls.length ≤ i ∧ ∀ p ∈ ls, p.2.size ≤ 240

theorem smallD_write {ps : List ByteArray} {ls : List (Int × ByteArray)} {i : Nat} (h : SmallD ps ls i) (page : Int) {t : ByteArray} (ht : t.size ≤ 240) : SmallD ps (writeL ps ls page t) (i + 1) := by
  obtain ⟨h1, h2, h3, h4⟩ := h
  rw [writeL]
  split
  · refine ⟨h1, h2, by rw [List.length_append, List.length_singleton]; omega, fun p hp => ?_⟩
    rcases List.mem_append.1 hp with hp | hp
    · exact h4 p hp
    · rw [List.mem_singleton.1 hp]; exact ht
  · exact ⟨h1, h2, by omega, h4⟩

theorem new30 : SmallD (newP 30) [] 0 := ⟨by decide, by decide, by decide, fun p hp => by cases hp⟩

set_option maxHeartbeats 8000000 in
set_option maxRecDepth 100000 in
theorem drawBestMeta_any (a : Option Addr) (len cap : Nat) (w : World) (hd : CodeIn w w.heap.size a len) :
    Calls Tryd.prog 36 #[.slice a len cap] w fun e w' => ∃ v ps ls, e = .returned v ∧ DiskAt w' v ps ls ∧ ps.length ≤ 1048576 ∧ ls.length ≤ 1048576 ∧ (∀ s ∈ ps, s.size ≤ 1048576) ∧ (∀ p ∈ ls, p.2.size ≤ 1048576) ∧ Below w.heap.size w w' := by
  obtain ⟨wa, hwa⟩ : ∃ wa, wa = w.alloc (Obj.cells #[.slice none 0 0, .slice none 0 0] 49) := ⟨_, rfl⟩
  have hba : Below w.heap.size w wa := by rw [hwa]; exact (Below.refl _ _).alloc (Nat.le_refl _) _
  have HBa := hide hba
  have HVa : Hid (wa.heap[w.heap.size]? = some (.cells #[.slice none 0 0, .slice none 0 0] 49 (0, 0))) := hide (by rw [hwa]; exact heap_alloc_new w _)
  have HSa : Hid (wa.heap.size = w.heap.size + 1) := hide (by rw [hwa]; simp)
  obtain ⟨r0, hr0⟩ : ∃ r, r = w.heap.size := ⟨_, rfl⟩
  obtain ⟨g, hg⟩ : ∃ g, g = wa.heap.size := ⟨_, rfl⟩
  have HN := hide (l01New_any a len cap wa (code_below hd hba))
  rw [← hg] at HN
  have HRg := hide (⟨hr0, hg⟩ : _ ∧ _)
  clear hd hba
  go_enter Tryd.func36, Tryd.ntmps36
  go_wp2_with fail
  rw [← hwa, ← hr0]
  clear hwa hr0 hg
  refine HN.out.mono ?_
  rintro e w1 ⟨rfl, hc1, hd1, hb1⟩
  have HC1 := hide hc1
  have HD1 := hide hd1
  have HB1 := hide hb1
  have HL1 := hide (cur_lt hc1)
  clear hc1 hd1 hb1
  go_wp2_with fail
  refine (specDiskNew_any 30 _).mono ?_
  rintro e w2 ⟨v2, rfl, hown2, hb2⟩
  obtain ⟨x0, n0, y0, x1, m0, y1, rfl, hn0, -⟩ := disk_formB (disk_of_own hown2)
  obtain ⟨wb, hwb⟩ : ∃ wb, wb = w2.alloc (Obj.cells #[.slice x0 n0 y0, .slice x1 m0 y1] 49) := ⟨_, rfl⟩
  have hbb : Below w2.heap.size w2 wb := by rw [hwb]; exact (Below.refl _ _).alloc (Nat.le_refl _) _
  obtain ⟨gd, hgd⟩ : ∃ g, g = w2.heap.size := ⟨_, rfl⟩
  have HV0 : Hid (BV w1 wb g gd g a len cap (.slice x0 n0 y0) (.slice x1 m0 y1) (newP 30) []) := hide ⟨by rw [hwb, hgd]; exact heap_alloc_new w2 _, by
      obtain ⟨o1, o2⟩ := disk_rows (diskOwn_below hown2 hbb)
      exact ⟨_, _, rfl, own_down o1 HL1.out, own_down o2 HL1.out⟩, fun k hk => by have := (diskOwn_lt hown2 k hk).2; omega, drawn_newM HC1.out HD1.out (Nat.le_refl _) (hb2.trans (hbb.mono hb2.size)), by rw [hgd]; exact hb2.size, HL1.out, Nat.le_refl _⟩
  have HN0 := hide hn0
  clear hown2 hb2 hbb hn0
  go_wp2_with fail
  rw [← hwb, ← hgd]
  clear hwb hgd
  go_loopg [6] 2 (fun q iv wr => ∃ (i : Nat) (x0 : Option Addr) (n0 y0 : Nat) (x1 : Option Addr) (m0 y1 : Nat) (ps : List ByteArray) (ls : List (Int × ByteArray)), q + i = 2 ∧ iv = .int .i64 (i : Int) ∧ Hid (BV w1 wr g gd g a len cap (.slice x0 n0 y0) (.slice x1 m0 y1) ps ls) ∧ Hid (SmallD ps ls i) ∧ Hid (n0 = ps.length))
  case atStart => exact ⟨0, x0, n0, y0, x1, m0, y1, newP 30, [], rfl, rfl, HV0, hide new30, HN0⟩
  case round =>
    obtain ⟨i, x0, n0, y0, x1, m0, y1, ps, ls, hq, rfl, HV, HS, HNn⟩ := hrel
    have HQ := hide hq
    clear hq
    by_cases hlt : i < 2
    · have hi2 : (i : Int) < 2 := by omega
      go_wp2_with fail
      refine (l06Any_any g g a len cap _ HV.out.2.2.2.1.1 HV.out.2.2.2.1.2.2 (Nat.le_refl _)).mono ?_
      rintro e w3 ⟨m, v, rfl, hn, hown, hdr⟩
      have HMt := hide (specMetaText_any v m (by have := hn.1; omega) (fun f hf => by have := hn.2 f hf; omega) w3 (meta_of_own hown))
      have HV3 := hide (bv_drawn HV.out hdr)
      obtain ⟨t, ht⟩ : ∃ t, t = m.textO := ⟨_, rfl⟩
      obtain ⟨ok0, hok0⟩ : ∃ ok0, ok0 = m.good := ⟨_, rfl⟩
      have htz : t.size ≤ 240 := by rw [ht]; exact textO_size
      rw [← ht, ← hok0] at HMt
      clear hn hown hdr ht hok0
      go_wp2_with fail
      refine HMt.out.mono ?_
      rintro e w4 ⟨rfl, hb4⟩
      have HV4 := hide (bv_below HV3.out hb4)
      clear hb4
      go_wp2_with fail
      refine (l01Once_any g g a len cap 5 (by omega) (by omega) w4 HV4.out.2.2.2.1.1 HV4.out.2.2.2.1.2.2 (Nat.le_refl _)).mono ?_
      rintro e w5 ⟨b, rfl, hd5⟩
      have HV5 := hide (bv_drawn HV4.out hd5)
      clear hd5
      obtain ⟨p0, p1, -, -⟩ := bv_cells HV5.out
      have hround : ∀ u : ByteArray, u.size ≤ 240 → Hid (Calls Tryd.prog 33 #[.agg #[.slice x0 n0 y0, .slice x1 m0 y1], .int .i64 (i : Int), .string u] w5 fun e w' => ∃ v', e = .returned (.tuple #[v', .bool (writeOk ps ls (i : Int) u)]) ∧ DiskOwn w' w5.heap.size v' ps (writeL ps ls (i : Int) u) ∧ Below w5.heap.size w5 w') := fun u hu => hide (by
        obtain ⟨s1, s2, s3, s4⟩ := HS.out
        exact specWritePage_any _ ps ls (i : Int) u (by omega) (by omega) (by omega) (fun s hs => by have := s2 s hs; omega) (fun p hp => by have := s4 p hp; omega) w5 (disk_of_own HV5.out.2.1))
      have HRd := hide hround
      clear hround
      cases b with
      | false =>
        have HW := HRd.out t htz
        go_wp2_with fail
        refine HW.out.mono ?_
        rintro e w6 ⟨v6, rfl, hown6, hb6⟩
        obtain ⟨z0, k0, q0, z1, k1, q1, rfl, hk0, -⟩ := disk_formB (disk_of_own hown6)
        have HV6 := hide (bv_below HV5.out hb6)
        obtain ⟨p0, p1, f0, f1⟩ := bv_cells HV6.out
        have HV7 := hide (bv_store HV6.out hown6 (Nat.lt_of_lt_of_le (Array.getElem?_eq_some_iff.1 HV5.out.1).1 (Nat.le_refl _)))
        have HS7 := hide (smallD_write HS.out (i : Int) htz)
        have HK0 := hide hk0
        clear hown6 hb6 hk0
        go_wp2_with fail
        go_roundg (gk - 1)
        case measure => have := HQ.out; omega
        case rel => exact ⟨i + 1, _, _, _, _, _, _, _, _, by have := HQ.out; omega, by go_num, HV7, HS7, HK0⟩
      | true =>
        have HW := HRd.out ⟨#[120]⟩ (by decide)
        have htz : (⟨#[120]⟩ : ByteArray).size ≤ 240 := by decide
        obtain ⟨t, ht⟩ : ∃ t, t = (⟨#[120]⟩ : ByteArray) := ⟨_, rfl⟩
        rw [← ht] at HW htz
        go_wp2_with fail
        rw [← ht]
        clear ht
        refine HW.out.mono ?_
        rintro e w6 ⟨v6, rfl, hown6, hb6⟩
        obtain ⟨z0, k0, q0, z1, k1, q1, rfl, hk0, -⟩ := disk_formB (disk_of_own hown6)
        have HV6 := hide (bv_below HV5.out hb6)
        obtain ⟨p0, p1, f0, f1⟩ := bv_cells HV6.out
        have HV7 := hide (bv_store HV6.out hown6 (Nat.lt_of_lt_of_le (Array.getElem?_eq_some_iff.1 HV5.out.1).1 (Nat.le_refl _)))
        have HS7 := hide (smallD_write HS.out (i : Int) htz)
        have HK0 := hide hk0
        clear hown6 hb6 hk0
        go_wp2_with fail
        go_roundg (gk - 1)
        case measure => have := HQ.out; omega
        case rel => exact ⟨i + 1, _, _, _, _, _, _, _, _, by have := HQ.out; omega, by go_num, HV7, HS7, HK0⟩
    · have hi2 : ¬ ((i : Int) < 2) := by omega
      go_wp2_with fail
      refine (l01Once_any g g a len cap 8 (by omega) (by omega) wr HV.out.2.2.2.1.1 HV.out.2.2.2.1.2.2 (Nat.le_refl _)).mono ?_
      rintro e w5 ⟨b, rfl, hd5⟩
      have HV7 := hide (bv_drawn HV.out hd5)
      clear hd5
      cases b with
      | false =>
        have HB7 : Hid (Below w.heap.size w w5) := hide ((HBa.out.trans (HB1.out.mono (by have := HRg.out; have := HSa.out; omega))).trans ((drawn_lowB HC1.out HV7.out.2.2.2.1).mono (by have := HRg.out; have := HSa.out; omega)))
        have hres : w5.heap[r0]? = some (.cells #[.slice none 0 0, .slice none 0 0] 49 (0, 0)) := by
          have h1 := HRg.out
          have h2 := HSa.out
          have e1 : w1.heap[r0]? = wa.heap[r0]? := HB1.out.block r0 (by omega)
          have e2 : w5.heap[r0]? = w1.heap[r0]? := HV7.out.2.2.2.1.2.1.block r0 (by have := HL1.out; omega) (fun e => by injection e with e; omega)
          rw [e2, e1, h1.1]
          exact HVa.out
        have HRt := hide (ret_disk (w := w) hres HV7.out.2.1 (by have := HRg.out; have := HSa.out; omega) (by have := HRg.out; omega) HB7.out)
        have o0 : w5.cell? ⟨r0, 0, none⟩ = some (.slice none 0 0) := (cell_at hres 0).1
        have o1 : w5.cell? ⟨r0, 1, none⟩ = some (.slice none 0 0) := (cell_at hres 1).1
        have z0 := (cell_at hres 0).2
        have z1 := (cell_at hres 1).2
        obtain ⟨p0, p1, -, -⟩ := bv_cells HV7.out
        clear hres
        go_wp2_with fail
        obtain ⟨t0, t1, t2, t3⟩ := HRt.out
        exact bodyPost_ret (v := .agg #[.slice x0 n0 y0, .slice x1 m0 y1]) (by simp [results, Tryd.results36, go_sem, t0, t1]) rfl ⟨_, _, _, rfl, disk_of_own t2, by have := HS.out.1; omega, by have := HS.out.2.2.1; have := HQ.out; omega, fun s hs => by have := HS.out.2.1 s hs; omega, fun p hp => by have := HS.out.2.2.2 p hp; omega, t3⟩
      | true =>
        obtain ⟨p0, p1, f0, -⟩ := bv_cells HV7.out
        have HVd := hide (bv_below HV7.out (Below.refl _ _).drew)
        have HCap : Hid (n0 ≤ y0) := hide (by
          obtain ⟨o1, -⟩ := disk_rows HV7.out.2.1
          rcases o1.2 with ⟨e, h0⟩ | ⟨gg, cc, cur, e, -, -, hc, -⟩
          · have := HNn.out; injection e with _ e2 _; omega
          · injection e with _ e2 e3; omega)
        have HBel : Hid (Calls Tryd.prog 81 #[.pointer (some ⟨g, 0, none⟩), .int .i64 2] w5.drew fun e w' => ∃ x : Nat, x < 2 ∧ e = .returned (.int .i64 (x : Int)) ∧ Drawn w5.drew w' g g a len cap) := hide (l01Below_any g g a len cap 2 (by omega) (by omega) _ HVd.out.2.2.2.1.1 HVd.out.2.2.2.1.2.2 (Nat.le_refl _))
        have HSt : Hid (∀ w8, Drawn w5.drew w8 g g a len cap → BV w1 w8 g gd g a len cap (.slice x0 n0 y0) (.slice x1 m0 y1) ps ls) := hide (fun w8 h => bv_drawn HVd.out h)
        have HLe : Hid (∀ x : Nat, x < 2 → (x : Int) ≤ (n0 : Int) ∧ (x : Int) ≤ (y0 : Int)) := hide (fun x hx => by have := HNn.out; have := HS.out.1; have := HCap.out; omega)
        go_wp2_with fail
        go_region_with (go_at_call 81; refine HBel.out.mono ?_; rintro e w8 ⟨x, hx, rfl, hd8⟩; have HV8 := hide (HSt.out w8 hd8); obtain ⟨p0', p1', f0', -⟩ := bv_cells HV8.out; have hx0 : (0 : Int) ≤ (x : Int) := Int.natCast_nonneg x; obtain ⟨hx1, hx2⟩ := HLe.out x hx; clear hd8)
        all_goals
          have HV7 := hide (bv_cut (k := x) HV8.out HNn.out (by have := HNn.out; have := HS.out.1; omega))
          clear p0 p1 f0 p0' p1' f0'
          have HB7 : Hid (Below w.heap.size w (w8.setCell ⟨gd, 0, none⟩ (.slice x0 x y0))) := hide ((HBa.out.trans (HB1.out.mono (by have := HRg.out; have := HSa.out; omega))).trans ((drawn_lowB HC1.out HV7.out.2.2.2.1).mono (by have := HRg.out; have := HSa.out; omega)))
          have hres : (w8.setCell ⟨gd, 0, none⟩ (.slice x0 x y0)).heap[r0]? = some (.cells #[.slice none 0 0, .slice none 0 0] 49 (0, 0)) := by
            have h1 := HRg.out
            have h2 := HSa.out
            have e1 : w1.heap[r0]? = wa.heap[r0]? := HB1.out.block r0 (by omega)
            have e2 : (w8.setCell ⟨gd, 0, none⟩ (.slice x0 x y0)).heap[r0]? = w1.heap[r0]? := HV7.out.2.2.2.1.2.1.block r0 (by have := HL1.out; omega) (fun e => by injection e with e; omega)
            rw [e2, e1, h1.1]
            exact HVa.out
          have HRt := hide (ret_disk (w := w) hres HV7.out.2.1 (by have := HRg.out; have := HSa.out; omega) (by have := HRg.out; omega) HB7.out)
          have o0 : (w8.setCell ⟨gd, 0, none⟩ (.slice x0 x y0)).cell? ⟨r0, 0, none⟩ = some (.slice none 0 0) := (cell_at hres 0).1
          have o1 : (w8.setCell ⟨gd, 0, none⟩ (.slice x0 x y0)).cell? ⟨r0, 1, none⟩ = some (.slice none 0 0) := (cell_at hres 1).1
          have z0 := (cell_at hres 0).2
          have z1 := (cell_at hres 1).2
          obtain ⟨p0, p1, -, -⟩ := bv_cells HV7.out
          clear hres
          go_wp2_with fail
          obtain ⟨t0, t1, t2, t3⟩ := HRt.out
          exact bodyPost_ret (v := .agg #[.slice x0 x y0, .slice x1 m0 y1]) (by simp [results, Tryd.results36, go_sem, t0, t1]) rfl ⟨_, _, _, rfl, disk_of_own t2, by rw [List.length_take]; have := HS.out.1; omega, by have := HS.out.2.2.1; have := HQ.out; omega, fun s hs => by have := HS.out.2.1 s (List.mem_of_mem_take hs); omega, fun p hp => by have := HS.out.2.2.2 p hp; omega, t3⟩
end Go.Proofs.YtglcfaibgjiigaaDoor

namespace Go.Proofs.YtglcfaibgjiigaaDoor

theorem in40 {p : Int} (h : p = 0 ∨ p = 1) : 0 ≤ p ∧ p < ((newP 40).length : Int) := by rw [new40_length]; omega

theorem bestA {tx : Int} {m x : Mt} {ok : Bool} (hg : m.good = true) (h : BestM (readD (newP 40) [(pgOf tx, m.textO)] 0) (readD (newP 40) [(pgOf tx, m.textO)] 1) x ok) : x = m ∧ ok = true := by
  have e : [(pgOf tx, m.textO)] = ([] : List (Int × ByteArray)) ++ [(pgOf tx, m.textO)] := rfl
  rw [e] at h
  rcases pgOf_cases tx with hp | hp
  · rw [hp, read_written (in40 (Or.inl rfl)), read_other (by decide), read_new] at h
    exact best_left h hg rfl un_empty
  · rw [hp, read_written (in40 (Or.inr rfl)), read_other (by decide), read_new] at h
    exact best_right h hg un_empty rfl

theorem bestB {tx : Int} (h0 : 0 ≤ tx) {m n x : Mt} {ok : Bool} (hg : m.good = true) (hn : n.good = true) (hlt : m.tx < n.tx) (h : BestM (readD (newP 40) ([(pgOf tx, m.textO)] ++ [(pgOf (tx + 1), n.textO)]) 0) (readD (newP 40) ([(pgOf tx, m.textO)] ++ [(pgOf (tx + 1), n.textO)]) 1) x ok) : x = n ∧ ok = true := by
  rw [pgOf_next tx h0] at h
  have e : [(pgOf tx, m.textO)] = ([] : List (Int × ByteArray)) ++ [(pgOf tx, m.textO)] := rfl
  rcases pgOf_cases tx with hp | hp
  · rw [hp] at h e
    rw [show (1 : Int) - 0 = 1 from rfl, read_written (in40 (Or.inr rfl)), read_other (by decide), e, read_written (in40 (Or.inl rfl))] at h
    obtain ⟨h1, h2⟩ := best_two h hg hn rfl rfl
    rw [if_neg (by omega)] at h2
    exact ⟨h2, h1⟩
  · rw [hp] at h e
    rw [show (1 : Int) - 1 = 0 from rfl, read_written (in40 (Or.inl rfl)), read_other (by decide), e, read_written (in40 (Or.inr rfl))] at h
    obtain ⟨h1, h2⟩ := best_two h hn hg rfl rfl
    rw [if_pos (by omega)] at h2
    exact ⟨h2, h1⟩

theorem bestC {tx : Int} (h0 : 0 ≤ tx) {m x : Mt} {b : ByteArray} {ok : Bool} (hg : m.good = true) (h : BestM (readD (newP 40) ([(pgOf tx, m.textO)] ++ [(pgOf (tx + 1), b)] ++ [(pgOf (tx + 1), ⟨#[120]⟩)]) 0) (readD (newP 40) ([(pgOf tx, m.textO)] ++ [(pgOf (tx + 1), b)] ++ [(pgOf (tx + 1), ⟨#[120]⟩)]) 1) x ok) : x = m ∧ ok = true := by
  rw [pgOf_next tx h0] at h
  have e : [(pgOf tx, m.textO)] = ([] : List (Int × ByteArray)) ++ [(pgOf tx, m.textO)] := rfl
  rcases pgOf_cases tx with hp | hp
  · rw [hp] at h e
    rw [show (1 : Int) - 0 = 1 from rfl, read_written (in40 (Or.inr rfl)), read_other (by decide), read_other (by decide), e, read_written (in40 (Or.inl rfl))] at h
    exact best_left h hg rfl un_x
  · rw [hp] at h e
    rw [show (1 : Int) - 1 = 0 from rfl, read_written (in40 (Or.inl rfl)), read_other (by decide), read_other (by decide), e, read_written (in40 (Or.inr rfl))] at h
    exact best_right h hg un_x rfl

/-- the lists that are written, one behind the other -/
theorem writes {tx : Int} {a b : ByteArray} (ha : a.size ≤ 240) (hb : b.size ≤ 240) : writeL (newP 40) [] (pgOf tx) a = [(pgOf tx, a)] ∧ writeL (newP 40) [(pgOf tx, a)] (pgOf (tx + 1)) b = [(pgOf tx, a)] ++ [(pgOf (tx + 1), b)] ∧
    writeL (newP 40) ([(pgOf tx, a)] ++ [(pgOf (tx + 1), b)]) (pgOf (tx + 1)) ⟨#[120]⟩ = [(pgOf tx, a)] ++ [(pgOf (tx + 1), b)] ++ [(pgOf (tx + 1), ⟨#[120]⟩)] := by
  obtain ⟨e1, k1⟩ := write_on new40_ok (by decide) (pgOf_cases tx) ha
  rw [List.nil_append] at e1 k1
  obtain ⟨e2, k2⟩ := write_on k1 (by simp) (pgOf_cases (tx + 1)) hb
  obtain ⟨e3, -⟩ := write_on k2 (by simp) (pgOf_cases (tx + 1)) (t := ⟨#[120]⟩) (by decide)
  exact ⟨e1, e2, e3⟩

theorem sizes40 {ls : List (Int × ByteArray)} {l : List ByteArray} (h : ls.map Prod.snd = l) (hl : ∀ s ∈ l, s.size ≤ 240) : ∀ p ∈ ls, p.2.size ≤ 1048576 := fun p hp => by
  have := hl p.2 (by rw [← h]; exact List.mem_map_of_mem hp)
  omega
end Go.Proofs.YtglcfaibgjiigaaDoor

namespace Go.Proofs.YtglcfaibgjiigaaDoor
open Go.RowKit

set_option maxHeartbeats 400000 in
theorem hasPage_any (a : Option Addr) (n cap : Nat) (vl : Value) (page : Int) (w : World) :
    Calls Tryd.prog 132 #[.agg #[.slice a n cap, vl], .int .i64 page] w fun e w' => e = .returned (.bool (decide (0 ≤ page ∧ page < (n : Int)))) ∧ Below w.heap.size w w' := by
  have HB : Hid (∀ o, Below w.heap.size w (w.alloc o)) := hide (fun o => (Below.refl w.heap.size w).alloc (Nat.le_refl _) _)
  by_cases h0 : 0 ≤ page
  · by_cases h1 : page < (n : Int)
    · rw [decide_eq_true (show 0 ≤ page ∧ page < (n : Int) from ⟨h0, h1⟩)]
      have h2 : decide (0 ≤ page) = true := decide_eq_true h0
      have h3 : decide (page < (n : Int)) = true := decide_eq_true h1
      go_enter Tryd.func132, Tryd.ntmps132
      go_wp2
      go_ret
      exact ⟨rfl, HB.out _⟩
    · rw [decide_eq_false (show ¬ (0 ≤ page ∧ page < (n : Int)) from fun h => h1 h.2)]
      have h2 : decide (0 ≤ page) = true := decide_eq_true h0
      have h3 : decide (page < (n : Int)) = false := decide_eq_false h1
      go_enter Tryd.func132, Tryd.ntmps132
      go_wp2
      go_ret
      exact ⟨rfl, HB.out _⟩
  · rw [decide_eq_false (show ¬ (0 ≤ page ∧ page < (n : Int)) from fun h => h0 h.1)]
    have h2 : decide (0 ≤ page) = false := decide_eq_false h0
    go_enter Tryd.func132, Tryd.ntmps132
    go_wp2
    go_ret
    exact ⟨rfl, HB.out _⟩

theorem Tryd.infoDiskI : (Tryd.prog.info? 49).map (fun i => (i.zero, i.size, i.bytes)) = some (some (.agg #[.slice none 0 0, .slice none 0 0]), 2, 48) := by kernel_rfl

set_option maxHeartbeats 2000000 in
set_option maxRecDepth 100000 in
theorem implReadPage_any (v : Value) (ps : List ByteArray) (ls : List (Int × ByteArray)) (_hp : ps.length ≤ 1048576) (hl : ls.length ≤ 1048576) (hps : ∀ s ∈ ps, s.size ≤ 1048576) (hls : ∀ p ∈ ls, p.2.size ≤ 1048576) (page : Int) (w : World) (hd : DiskAt w v ps ls) :
    Calls Tryd.prog 92 #[v, .int .i64 page] w fun e w' => e = .returned (.string (readD ps ls page)) ∧ Below w.heap.size w w' := by
  obtain ⟨vp, vl, rfl, h1, h2⟩ := hd
  obtain ⟨x1, c1, rfl⟩ : ∃ a cap, vp = .slice a ps.length cap := by obtain ⟨-, a, cap, e, -⟩ := h1; exact ⟨a, cap, e⟩
  obtain ⟨x2, c2, rfl⟩ : ∃ a cap, vl = .slice a ls.length cap := by obtain ⟨-, a, cap, e, -⟩ := h2; exact ⟨a, cap, e⟩
  have H1 := hide h1
  have H2 := hide h2
  have HPs := hide hps
  have HLs := hide hls
  clear h1 h2 hps hls
  have HC := hide (hasPage_any x1 ps.length c1 (.slice x2 ls.length c2) page)
  obtain ⟨w0, hw0⟩ : ∃ w0, w0 = w.alloc (Obj.cells #[.slice x1 ps.length c1, .slice x2 ls.length c2] 49) := ⟨_, rfl⟩
  have hb0 : Below w.heap.size w w0 := by rw [hw0]; exact (Below.refl w.heap.size w).alloc (Nat.le_refl _) _
  have hblk : w0.heap[w.heap.size]? = some (Obj.cells #[.slice x1 ps.length c1, .slice x2 ls.length c2] 49) := by rw [hw0]; exact heap_alloc_new w _
  have HB0 := hide hb0
  have HBk := hide hblk
  clear hb0 hblk
  by_cases hin : 0 ≤ page ∧ page < (ps.length : Int)
  · rw [decide_eq_true hin] at HC
    go_enter Tryd.func92, Tryd.ntmps92
    go_wp2_with fail
    rw [← hw0]
    clear hw0
    refine (HC.out _).mono ?_
    rintro e w1 ⟨rfl, hb1⟩
    have hblk1 : w1.heap[w.heap.size]? = some (Obj.cells #[.slice x1 ps.length c1, .slice x2 ls.length c2] 49) := (hb1.block _ (Array.getElem?_eq_some_iff.1 HBk.out).1).trans HBk.out
    have HB1 : Hid (Below w.heap.size w w1) := hide (HB0.out.trans (hb1.mono HB0.out.size))
    have cb0 : w1.cell? ⟨w.heap.size, 0, none⟩ = some (.slice x1 ps.length c1) := (cell_at hblk1 0).1
    have cb1 : w1.cell? ⟨w.heap.size, 1, none⟩ = some (.slice x2 ls.length c2) := (cell_at hblk1 1).1
    clear hb1 hblk1
    go_wp2_with fail
    go_loopg [5] ls.length (fun q iv wr => ∃ k : Nat, k ≤ ls.length ∧ iv = .int .i64 ((k : Int) - 1) ∧ q = k ∧ Hid (lateAt ls page ls.length = lateAt ls page k) ∧ w1 = wr)
    case atStart => exact ⟨ls.length, Nat.le_refl _, rfl, rfl, hide rfl, rfl⟩
    case round =>
      obtain ⟨k, hk, rfl, hgk, HL, rfl⟩ := hrel
      have HGk := hide hgk
      clear hgk
      by_cases hk0 : k = 0
      · subst hk0
        have HO : Hid (readD ps ls page = ps.getD page.toNat ⟨#[]⟩) := hide (readD_page (by omega) (by rw [HL.out]; rfl))
        obtain ⟨n, hn⟩ := Int.eq_ofNat_of_zero_le hin.1
        have hnl : n < ps.length := by omega
        obtain ⟨x, hx⟩ : ∃ x, x = ps.getD page.toNat ⟨#[]⟩ := ⟨_, rfl⟩
        rcases H1.out.2 with ⟨a, cap, e, h0 | ⟨b, off, e2, hbl, hc⟩⟩
        · omega
        · injection e with e1 e3 e4
          subst e1 e4
          subst e2
          have hxe : x = ps[n] := by rw [hx, hn]; simp [List.getD, hnl]
          have hcell : w1.cell? ⟨b, off + n, none⟩ = some (.string x) := by
            rw [HB1.out.cell (by exact hbl), hc n (by omega), strs_at ps n hnl, hxe]
          have hxs : x.size ≤ 1048576 := by rw [hxe]; exact HPs.out _ (List.getElem_mem hnl)
          have HCl := hide (clone_any x (by omega))
          rw [← hx] at HO
          subst hn
          have hi0 : (0 : Int) ≤ (n : Int) := by omega
          have hi1 : (n : Int) < (ps.length : Int) := by omega
          clear hx hc hxe
          go_wp2_with fail
          refine (HCl.out _).mono ?_
          rintro e w2 ⟨rfl, hb2⟩
          go_wp2_with fail
          go_ret
          rw [HO.out]
          exact ⟨rfl, HB1.out.trans (hb2.mono HB1.out.size)⟩
      · obtain ⟨j, rfl⟩ : ∃ j, k = j + 1 := ⟨k - 1, by omega⟩
        have hjl : j < ls.length := by omega
        rcases H2.out.2 with ⟨a, cap, e, h0 | ⟨b, off, e2, hbl, hc⟩⟩
        · omega
        · injection e with e1 e3 e4
          subst e1 e4
          subst e2
          obtain ⟨q, t, hqt⟩ : ∃ q t, (q, t) = ls[j] := ⟨_, _, rfl⟩
          have hget : ls[j]? = some (q, t) := by rw [List.getElem?_eq_getElem hjl, hqt]
          have hts : t.size ≤ 1048576 := by have := HLs.out _ (List.getElem_mem hjl); rw [← hqt] at this; exact this
          have hc0 : w1.cell? ⟨b, off + j * 2, none⟩ = some (.int .i64 q) := by rw [HB1.out.cell (by exact hbl), hc (j * 2) (by omega), (puts_at ls j hjl).1, ← hqt]
          have hc1 : w1.cell? ⟨b, off + j * 2 + 1, none⟩ = some (.string t) := by rw [HB1.out.cell (by exact hbl), Nat.add_assoc, hc (j * 2 + 1) (by omega), (puts_at ls j hjl).2, ← hqt]
          have hi0 : (0 : Int) ≤ (j : Int) := by omega
          have hi1 : (j : Int) < (ls.length : Int) := by omega
          have hij : ((j + 1 : Nat) : Int) - 1 = (j : Int) := by omega
          rw [hij]
          have HGet := hide hget
          clear hc hqt hget hij
          by_cases hq : q = page
          · subst hq
            have HO : Hid (readD ps ls q = t) := hide (readD_late (by omega) (by rw [HL.out]; exact lateAt_hit HGet.out))
            have HCl := hide (clone_any t (by omega))
            go_wp2_with fail
            refine (HCl.out _).mono ?_
            rintro e w2 ⟨rfl, hb2⟩
            go_wp2_with fail
            go_ret
            rw [HO.out]
            exact ⟨rfl, HB1.out.trans (hb2.mono HB1.out.size)⟩
          · have HL2 : Hid (lateAt ls page ls.length = lateAt ls page j) := hide (by rw [HL.out]; exact lateAt_miss HGet.out hq)
            go_wp2_with fail
            go_roundg j
            case measure => have := HGk.out; omega
            case rel => exact ⟨j, by omega, by go_num, rfl, HL2, rfl⟩
  · rw [decide_eq_false hin] at HC
    have HO : Hid (readD ps ls page = ⟨#[]⟩) := hide (readD_out (by omega))
    go_enter Tryd.func92, Tryd.ntmps92
    go_wp2_with fail
    rw [← hw0]
    refine (HC.out _).mono ?_
    rintro e w1 ⟨rfl, hb1⟩
    clear hw0
    go_wp2_with fail
    go_ret
    rw [HO.out]
    exact ⟨rfl, HB0.out.trans (hb1.mono HB0.out.size)⟩

theorem diskOk_count {ps : List ByteArray} {ls : List (Int × ByteArray)} (h : ¬ (4 ≤ ps.length ∧ ps.length ≤ 40 ∧ ls.length ≤ 200)) : diskOkB ps ls = false := by
  rw [diskOkB, decide_eq_false h]; simp

end Go.Proofs.YtglcfaibgjiigaaDoor

namespace Go.Proofs.YtglcfaibgjiigaaDoor
open Go.RowKit

def BmPost (w : World) (t0 t1 : ByteArray) (e : Ending) (w' : World) : Prop := ∃ m v ok, e = .returned (.tuple #[v, .bool ok]) ∧ BestM t0 t1 m ok ∧ MetaOwn w' w.heap.size v m ∧ Below w.heap.size w w'

set_option maxHeartbeats 8000000 in
set_option maxRecDepth 100000 in
theorem specBestMeta_any (v : Value) (ps : List ByteArray) (ls : List (Int × ByteArray)) (hp : ps.length ≤ 1048576) (hl : ls.length ≤ 1048576) (hps : ∀ s ∈ ps, s.size ≤ 1048576) (hls : ∀ p ∈ ls, p.2.size ≤ 1048576) (w : World) (hd : DiskAt w v ps ls) :
    Calls Tryd.prog 37 #[v] w fun e w' => BmPost w (readD ps ls 0) (readD ps ls 1) e w' := by
  have HP := hide (fun page wx h => specReadPage_any v ps ls hp hl page wx h)
  have HM := hide (fun page wx => specReadMeta_any (readD ps ls page) (readD_small hps hls page) wx)
  have HD := hide hd
  obtain ⟨vp, vl, rfl, h1, h2⟩ := hd
  obtain ⟨xp, cp, rfl⟩ : ∃ a cap, vp = .slice a ps.length cap := by obtain ⟨-, a, cap, e, -⟩ := h1; exact ⟨a, cap, e⟩
  obtain ⟨xl, cl, rfl⟩ : ∃ a cap, vl = .slice a ls.length cap := by obtain ⟨-, a, cap, e, -⟩ := h2; exact ⟨a, cap, e⟩
  obtain ⟨t0, ht0⟩ : ∃ t, t = readD ps ls 0 := ⟨_, rfl⟩
  obtain ⟨t1, ht1⟩ : ∃ t, t = readD ps ls 1 := ⟨_, rfl⟩
  rw [← ht0, ← ht1]
  obtain ⟨np, hnp⟩ : ∃ n, n = ps.length := ⟨_, rfl⟩
  obtain ⟨nl, hnl⟩ : ∃ n, n = ls.length := ⟨_, rfl⟩
  rw [← hnp, ← hnl] at HD HP ⊢
  have HP0 := hide (fun wx h => HP.out 0 wx h)
  have HP1 := hide (fun wx h => HP.out 1 wx h)
  have HM0' := hide (HM.out 0)
  have HM1' := hide (HM.out 1)
  rw [← ht0] at HP0 HM0'
  rw [← ht1] at HP1 HM1'
  clear h1 h2 hp hl hps hls ht0 ht1 hnp hnl HP HM
  obtain ⟨wb, hwb⟩ : ∃ wb, wb = (w.alloc (.cells #[.slice xp np cp, .slice xl nl cl] 49 (0, 0))).alloc (.cells #[.int .i64 0, .int .i64 0, .int .i64 0, .slice none 0 0] 40 (0, 0)) := ⟨_, rfl⟩
  have hbb : Below w.heap.size w wb := by rw [hwb]; exact ((Below.refl _ _).alloc (Nat.le_refl _) _).alloc (by simp) _
  obtain ⟨qd, qr, hs⟩ := two_allocs w (.cells #[.slice xp np cp, .slice xl nl cl] 49 (0, 0)) (.cells #[.int .i64 0, .int .i64 0, .int .i64 0, .slice none 0 0] 40 (0, 0))
  rw [← hwb] at qd qr hs
  have HQd := hide qd
  have HQr := hide qr
  have HWb := hide hs
  have HBb := hide hbb
  clear qd qr hs hbb
  go_enter Tryd.func37, Tryd.ntmps37
  go_wp2_with fail
  rw [← hwb]
  clear hwb
  refine (HP0.out _ (disk_below HD.out HBb.out)).mono ?_
  rintro e w1 ⟨rfl, hb1⟩
  have HB1 : Hid (Below wb.heap.size wb w1) := hide hb1
  have HBw1 : Hid (Below w.heap.size w w1) := hide (HBb.out.trans (hb1.mono HBb.out.size))
  clear hb1
  go_wp2_with fail
  refine (HM0'.out w1).mono ?_
  rintro e w2 ⟨m0, v0, ok0, rfl, hrd0, hmo0, hb2⟩
  obtain ⟨vf0, l0, rfl, ho0⟩ := hmo0
  obtain ⟨tx0, r0, n0, f0⟩ := m0
  dsimp only at ho0 ⊢
  obtain ⟨a0, c0, rfl⟩ := own_slice ho0.1
  have HMo0 : Hid (MetaOwn w2 w1.heap.size (.agg #[.int .i64 tx0, .int .i64 r0, .int .i64 n0, .slice a0 f0.length c0]) ⟨tx0, r0, n0, f0⟩) := hide ⟨_, l0, rfl, ho0⟩
  obtain ⟨F0, hF0⟩ : ∃ F0, F0 = f0.length := ⟨_, rfl⟩
  rw [← hF0] at HMo0 ⊢
  have HR0 := hide hrd0
  have HB2 : Hid (Below wb.heap.size wb w2) := hide (HB1.out.trans (hb2.mono HB1.out.size))
  obtain ⟨w3, hw3⟩ : ∃ w3, w3 = w2.alloc (.cells #[.int .i64 tx0, .int .i64 r0, .int .i64 n0, .slice a0 F0 c0] 40 (0, 0)) := ⟨_, rfl⟩
  have hb3 : Below w2.heap.size w2 w3 := by rw [hw3]; exact (Below.refl _ _).alloc (Nat.le_refl _) _
  obtain ⟨g0, hg0⟩ : ∃ g, g = w2.heap.size := ⟨_, rfl⟩
  have HV0 : Hid (w3.heap[g0]? = some (.cells #[.int .i64 tx0, .int .i64 r0, .int .i64 n0, .slice a0 F0 c0] 40 (0, 0))) := hide (by rw [hw3, hg0]; exact heap_alloc_new w2 _)
  have HB3 : Hid (Below wb.heap.size wb w3) := hide (HB2.out.trans (hb3.mono HB2.out.size))
  have HM3 := hide (metaOwn_below HMo0.out hb3)
  have HBw3 : Hid (Below w.heap.size w w3) := hide (HBb.out.trans (HB3.out.mono HBb.out.size))
  have qd := (HB3.out.block w.heap.size (by have := HWb.out; omega)).trans HQd.out
  have d0 := (cell_at qd 0).1
  have d1 := (cell_at qd 1).1
  rw [hw3] at d0 d1
  have HG0 := hide hg0
  have HL1 : Hid (wb.heap.size ≤ w1.heap.size) := hide HB1.out.size
  clear hrd0 ho0 hb2 hb3 hF0 qd HMo0
  go_wp2_with fail
  rw [← HG0.out]
  try rw [← hw3]
  clear hw3 hg0 d0 d1
  refine (HP1.out _ (disk_below HD.out HBw3.out)).mono ?_
  rintro e w4 ⟨rfl, hb4⟩
  have HB4 : Hid (Below wb.heap.size wb w4) := hide (HB3.out.trans (hb4.mono HB3.out.size))
  have HBw4 : Hid (Below w.heap.size w w4) := hide (HBw3.out.trans (hb4.mono HBw3.out.size))
  have HV4 := hide ((hb4.block g0 (Array.getElem?_eq_some_iff.1 HV0.out).1).trans HV0.out)
  have HM4 := hide (metaOwn_below HM3.out hb4)
  clear hb4
  go_wp2_with fail
  refine (HM1'.out w4).mono ?_
  rintro e w5 ⟨m1, v1, ok1, rfl, hrd1, hmo1, hb5⟩
  obtain ⟨vf1, l1, rfl, ho1⟩ := hmo1
  obtain ⟨tx1, r1, n1, f1⟩ := m1
  dsimp only at ho1 ⊢
  obtain ⟨a1, c1, rfl⟩ := own_slice ho1.1
  have HMo1 : Hid (MetaOwn w5 w4.heap.size (.agg #[.int .i64 tx1, .int .i64 r1, .int .i64 n1, .slice a1 f1.length c1]) ⟨tx1, r1, n1, f1⟩) := hide ⟨_, l1, rfl, ho1⟩
  obtain ⟨F1, hF1⟩ : ∃ F1, F1 = f1.length := ⟨_, rfl⟩
  rw [← hF1] at HMo1 ⊢
  have HR1 := hide hrd1
  obtain ⟨w6, hw6⟩ : ∃ w6, w6 = w5.alloc (.cells #[.int .i64 tx1, .int .i64 r1, .int .i64 n1, .slice a1 F1 c1] 40 (0, 0)) := ⟨_, rfl⟩
  have hb6 : Below w5.heap.size w5 w6 := by rw [hw6]; exact (Below.refl _ _).alloc (Nat.le_refl _) _
  obtain ⟨g1, hg1⟩ : ∃ g, g = w5.heap.size := ⟨_, rfl⟩
  have hV1 : w6.heap[g1]? = some (.cells #[.int .i64 tx1, .int .i64 r1, .int .i64 n1, .slice a1 F1 c1] 40 (0, 0)) := by rw [hw6, hg1]; exact heap_alloc_new w5 _
  have hV0 := (hb6.block g0 (Nat.lt_of_lt_of_le (Array.getElem?_eq_some_iff.1 HV4.out).1 hb5.size)).trans ((hb5.block g0 (Array.getElem?_eq_some_iff.1 HV4.out).1).trans HV4.out)
  have hB6 : Below wb.heap.size wb w6 := (HB4.out.trans (hb5.mono HB4.out.size)).trans (hb6.mono (by have := HB4.out.size; have := hb5.size; omega))
  have HM0 : Hid (MetaOwn w6 wb.heap.size (.agg #[.int .i64 tx0, .int .i64 r0, .int .i64 n0, .slice a0 F0 c0]) ⟨tx0, r0, n0, f0⟩) := hide (metaOwn_down (metaOwn_below (metaOwn_below HM4.out hb5) hb6) HL1.out)
  have HM1 : Hid (MetaOwn w6 wb.heap.size (.agg #[.int .i64 tx1, .int .i64 r1, .int .i64 n1, .slice a1 F1 c1]) ⟨tx1, r1, n1, f1⟩) := hide (metaOwn_down (metaOwn_below HMo1.out hb6) HB4.out.size)
  have HBw : Hid (Below w.heap.size w w6) := hide (HBb.out.trans (hB6.mono HBb.out.size))
  have ra := (hB6.block (w.heap.size + 1) (by have := HWb.out; omega)).trans HQr.out
  have y0 := (cell_at hV0 0).1
  have y1 := (cell_at hV0 1).1
  have y2 := (cell_at hV0 2).1
  have y3 := (cell_at hV0 3).1
  have a0' := (cell_at ra 0).1
  have a1' := (cell_at ra 1).1
  have a2' := (cell_at ra 2).1
  have a3' := (cell_at ra 3).1
  have z0 := (cell_at ra 0).2
  have z1 := (cell_at ra 1).2
  have z2 := (cell_at ra 2).2
  have z3 := (cell_at ra 3).2
  have x0 := (cell_at hV1 0).1
  have x1 := (cell_at hV1 1).1
  have x2 := (cell_at hV1 2).1
  have x3 := (cell_at hV1 3).1
  have HRA := hide ra
  have HW6 := hide hw6
  rw [hw6] at y0 y1 y2 y3 a0' a1' a2' a3' z0 z1 z2 z3 x0 x1 x2 x3
  rw [hg1] at x0 x1 x2 x3
  have n1' : g0 ≠ w.heap.size + 1 := by have h1 := HWb.out; have h2 := HB2.out.size; have h3 := HG0.out; omega
  clear hrd1 ho1 hb5 hb6 hF1 HMo1 hV0 hV1 ra hB6 hg1 hw6
  cases ok0 with
  | true =>
    cases ok1 with
    | true =>
      by_cases hle : tx1 ≤ tx0
      · have d1 : decide (tx1 ≤ tx0) = true := decide_eq_true hle
        have HBm : Hid (BestM t0 t1 ⟨tx0, r0, n0, f0⟩ true) := hide ⟨_, _, _, _, HR0.out, HR1.out, by rw [bestOf, if_pos ⟨rfl, Or.inr hle⟩]⟩
        clear hle
        go_wp2_with fail
        rw [← HW6.out]
        have hrt := ret_meta (m := ⟨tx0, r0, n0, f0⟩) HRA.out (metaOwn_down HM0.out (show w.heap.size + 1 + 1 ≤ wb.heap.size by have := HWb.out; omega)) (by omega)
        have t0 := (cell_at hrt.1 0).1
        have t1 := (cell_at hrt.1 1).1
        have t2 := (cell_at hrt.1 2).1
        have t3 := (cell_at hrt.1 3).1
        dsimp only at t0 t1 t2 t3
        refine bodyPost_ret (v := .tuple #[.agg #[.int .i64 tx0, .int .i64 r0, .int .i64 n0, .slice a0 F0 c0], .bool true]) (by simp [results, Tryd.results37, go_sem, t0, t1, t2, t3]) rfl ⟨⟨tx0, r0, n0, f0⟩, _, true, rfl, HBm.out, metaOwn_down hrt.2.1 (by omega), HBw.out.trans (hrt.2.2.mono (by have := HBw.out.size; omega))⟩
      · have d1 : decide (tx1 ≤ tx0) = false := decide_eq_false hle
        have HBm : Hid (BestM t0 t1 ⟨tx1, r1, n1, f1⟩ true) := hide ⟨_, _, _, _, HR0.out, HR1.out, by rw [bestOf, if_neg (fun h => by rcases h.2 with h | h; cases h; exact hle h), if_pos rfl]⟩
        clear hle
        go_wp2_with fail
        rw [← HW6.out]
        have hrt := ret_meta (m := ⟨tx1, r1, n1, f1⟩) HRA.out (metaOwn_down HM1.out (show w.heap.size + 1 + 1 ≤ wb.heap.size by have := HWb.out; omega)) (by omega)
        have t0 := (cell_at hrt.1 0).1
        have t1 := (cell_at hrt.1 1).1
        have t2 := (cell_at hrt.1 2).1
        have t3 := (cell_at hrt.1 3).1
        dsimp only at t0 t1 t2 t3
        refine bodyPost_ret (v := .tuple #[.agg #[.int .i64 tx1, .int .i64 r1, .int .i64 n1, .slice a1 F1 c1], .bool true]) (by simp [results, Tryd.results37, go_sem, t0, t1, t2, t3]) rfl ⟨⟨tx1, r1, n1, f1⟩, _, true, rfl, HBm.out, metaOwn_down hrt.2.1 (by omega), HBw.out.trans (hrt.2.2.mono (by have := HBw.out.size; omega))⟩
    | false =>
      have HBm : Hid (BestM t0 t1 ⟨tx0, r0, n0, f0⟩ true) := hide ⟨_, _, _, _, HR0.out, HR1.out, by rw [bestOf, if_pos ⟨rfl, Or.inl rfl⟩]⟩
      go_wp2_with fail
      rw [← HW6.out]
      have hrt := ret_meta (m := ⟨tx0, r0, n0, f0⟩) HRA.out (metaOwn_down HM0.out (show w.heap.size + 1 + 1 ≤ wb.heap.size by have := HWb.out; omega)) (by omega)
      have t0 := (cell_at hrt.1 0).1
      have t1 := (cell_at hrt.1 1).1
      have t2 := (cell_at hrt.1 2).1
      have t3 := (cell_at hrt.1 3).1
      dsimp only at t0 t1 t2 t3
      refine bodyPost_ret (v := .tuple #[.agg #[.int .i64 tx0, .int .i64 r0, .int .i64 n0, .slice a0 F0 c0], .bool true]) (by simp [results, Tryd.results37, go_sem, t0, t1, t2, t3]) rfl ⟨⟨tx0, r0, n0, f0⟩, _, true, rfl, HBm.out, metaOwn_down hrt.2.1 (by omega), HBw.out.trans (hrt.2.2.mono (by have := HBw.out.size; omega))⟩
  | false =>
    cases ok1 with
    | true =>
      have HBm : Hid (BestM t0 t1 ⟨tx1, r1, n1, f1⟩ true) := hide ⟨_, _, _, _, HR0.out, HR1.out, by rw [bestOf, if_neg (fun h => by cases h.1), if_pos rfl]⟩
      go_wp2_with fail
      rw [← HW6.out]
      have hrt := ret_meta (m := ⟨tx1, r1, n1, f1⟩) HRA.out (metaOwn_down HM1.out (show w.heap.size + 1 + 1 ≤ wb.heap.size by have := HWb.out; omega)) (by omega)
      have t0 := (cell_at hrt.1 0).1
      have t1 := (cell_at hrt.1 1).1
      have t2 := (cell_at hrt.1 2).1
      have t3 := (cell_at hrt.1 3).1
      dsimp only at t0 t1 t2 t3
      refine bodyPost_ret (v := .tuple #[.agg #[.int .i64 tx1, .int .i64 r1, .int .i64 n1, .slice a1 F1 c1], .bool true]) (by simp [results, Tryd.results37, go_sem, t0, t1, t2, t3]) rfl ⟨⟨tx1, r1, n1, f1⟩, _, true, rfl, HBm.out, metaOwn_down hrt.2.1 (by omega), HBw.out.trans (hrt.2.2.mono (by have := HBw.out.size; omega))⟩
    | false =>
      have HBm : Hid (BestM t0 t1 ⟨0, 0, 0, []⟩ false) := hide ⟨_, _, _, _, HR0.out, HR1.out, by rw [bestOf, if_neg (fun h => by cases h.1), if_neg (fun h => by cases h)]; rfl⟩
      go_wp2_with fail
      rw [← HW6.out]
      have hrt := ret_meta (m := ⟨0, 0, 0, []⟩) HRA.out (zero_own w6 (w.heap.size + 1 + 1)) (by omega)
      have t0 := (cell_at hrt.1 0).1
      have t1 := (cell_at hrt.1 1).1
      have t2 := (cell_at hrt.1 2).1
      have t3 := (cell_at hrt.1 3).1
      dsimp only at t0 t1 t2 t3
      refine bodyPost_ret (v := .tuple #[.agg #[.int .i64 0, .int .i64 0, .int .i64 0, .slice none 0 0], .bool false]) (by simp [results, Tryd.results37, go_sem, t0, t1, t2, t3]) rfl ⟨⟨0, 0, 0, []⟩, _, false, rfl, HBm.out, metaOwn_down hrt.2.1 (by omega), HBw.out.trans (hrt.2.2.mono (by have := HBw.out.size; omega))⟩

set_option maxHeartbeats 8000000 in
set_option maxRecDepth 100000 in
theorem implBestMeta_any (v : Value) (ps : List ByteArray) (ls : List (Int × ByteArray)) (hp : ps.length ≤ 1048576) (hl : ls.length ≤ 1048576) (hps : ∀ s ∈ ps, s.size ≤ 1048576) (hls : ∀ p ∈ ls, p.2.size ≤ 1048576) (w : World) (hT : SumTab w) (hE : ErrTab w) (hd : DiskAt w v ps ls) :
    Calls Tryd.prog 35 #[v] w fun e w' => BmPost w (readD ps ls 0) (readD ps ls 1) e w' := by
  have HT := hide (⟨hT, hE⟩ : _ ∧ _)
  clear hT hE
  have HP := hide (fun page wx h => implReadPage_any v ps ls hp hl hps hls page wx h)
  have HM := hide (fun page wx h h' => implReadMeta_any (readD ps ls page) (readD_small hps hls page) wx h h')
  have HD := hide hd
  obtain ⟨vp, vl, rfl, h1, h2⟩ := hd
  obtain ⟨xp, cp, rfl⟩ : ∃ a cap, vp = .slice a ps.length cap := by obtain ⟨-, a, cap, e, -⟩ := h1; exact ⟨a, cap, e⟩
  obtain ⟨xl, cl, rfl⟩ : ∃ a cap, vl = .slice a ls.length cap := by obtain ⟨-, a, cap, e, -⟩ := h2; exact ⟨a, cap, e⟩
  obtain ⟨t0, ht0⟩ : ∃ t, t = readD ps ls 0 := ⟨_, rfl⟩
  obtain ⟨t1, ht1⟩ : ∃ t, t = readD ps ls 1 := ⟨_, rfl⟩
  rw [← ht0, ← ht1]
  obtain ⟨np, hnp⟩ : ∃ n, n = ps.length := ⟨_, rfl⟩
  obtain ⟨nl, hnl⟩ : ∃ n, n = ls.length := ⟨_, rfl⟩
  rw [← hnp, ← hnl] at HD HP ⊢
  have HP0 := hide (fun wx h => HP.out 0 wx h)
  have HP1 := hide (fun wx h => HP.out 1 wx h)
  have HM0' := hide (HM.out 0)
  have HM1' := hide (HM.out 1)
  rw [← ht0] at HP0 HM0'
  rw [← ht1] at HP1 HM1'
  clear h1 h2 hp hl hps hls ht0 ht1 hnp hnl HP HM
  obtain ⟨wb, hwb⟩ : ∃ wb, wb = (w.alloc (.cells #[.slice xp np cp, .slice xl nl cl] 49 (0, 0))).alloc (.cells #[.int .i64 0, .int .i64 0, .int .i64 0, .slice none 0 0] 40 (0, 0)) := ⟨_, rfl⟩
  have hbb : Below w.heap.size w wb := by rw [hwb]; exact ((Below.refl _ _).alloc (Nat.le_refl _) _).alloc (by simp) _
  obtain ⟨qd, qr, hs⟩ := two_allocs w (.cells #[.slice xp np cp, .slice xl nl cl] 49 (0, 0)) (.cells #[.int .i64 0, .int .i64 0, .int .i64 0, .slice none 0 0] 40 (0, 0))
  rw [← hwb] at qd qr hs
  have HQd := hide qd
  have HQr := hide qr
  have HWb := hide hs
  have HBb := hide hbb
  clear qd qr hs hbb
  go_enter Tryd.func35, Tryd.ntmps35
  go_wp2_with fail
  rw [← hwb]
  clear hwb
  refine (HP0.out _ (disk_below HD.out HBb.out)).mono ?_
  rintro e w1 ⟨rfl, hb1⟩
  have HB1 : Hid (Below wb.heap.size wb w1) := hide hb1
  have HBw1 : Hid (Below w.heap.size w w1) := hide (HBb.out.trans (hb1.mono HBb.out.size))
  clear hb1
  go_wp2_with fail
  refine (HM0'.out w1 (sumTab_below HT.out.1 HBw1.out) (errTab_below HT.out.2 HBw1.out)).mono ?_
  rintro e w2 ⟨m0, v0, ok0, rfl, hrd0, hmo0, hb2⟩
  obtain ⟨vf0, l0, rfl, ho0⟩ := hmo0
  obtain ⟨tx0, r0, n0, f0⟩ := m0
  dsimp only at ho0 ⊢
  obtain ⟨a0, c0, rfl⟩ := own_slice ho0.1
  have HMo0 : Hid (MetaOwn w2 w1.heap.size (.agg #[.int .i64 tx0, .int .i64 r0, .int .i64 n0, .slice a0 f0.length c0]) ⟨tx0, r0, n0, f0⟩) := hide ⟨_, l0, rfl, ho0⟩
  obtain ⟨F0, hF0⟩ : ∃ F0, F0 = f0.length := ⟨_, rfl⟩
  rw [← hF0] at HMo0 ⊢
  have HR0 := hide hrd0
  have HB2 : Hid (Below wb.heap.size wb w2) := hide (HB1.out.trans (hb2.mono HB1.out.size))
  obtain ⟨w3, hw3⟩ : ∃ w3, w3 = w2.alloc (.cells #[.int .i64 tx0, .int .i64 r0, .int .i64 n0, .slice a0 F0 c0] 40 (0, 0)) := ⟨_, rfl⟩
  have hb3 : Below w2.heap.size w2 w3 := by rw [hw3]; exact (Below.refl _ _).alloc (Nat.le_refl _) _
  obtain ⟨g0, hg0⟩ : ∃ g, g = w2.heap.size := ⟨_, rfl⟩
  have HV0 : Hid (w3.heap[g0]? = some (.cells #[.int .i64 tx0, .int .i64 r0, .int .i64 n0, .slice a0 F0 c0] 40 (0, 0))) := hide (by rw [hw3, hg0]; exact heap_alloc_new w2 _)
  have HB3 : Hid (Below wb.heap.size wb w3) := hide (HB2.out.trans (hb3.mono HB2.out.size))
  have HM3 := hide (metaOwn_below HMo0.out hb3)
  have HBw3 : Hid (Below w.heap.size w w3) := hide (HBb.out.trans (HB3.out.mono HBb.out.size))
  have qd := (HB3.out.block w.heap.size (by have := HWb.out; omega)).trans HQd.out
  have d0 := (cell_at qd 0).1
  have d1 := (cell_at qd 1).1
  rw [hw3] at d0 d1
  have HG0 := hide hg0
  have HL1 : Hid (wb.heap.size ≤ w1.heap.size) := hide HB1.out.size
  clear hrd0 ho0 hb2 hb3 hF0 qd HMo0
  go_wp2_with fail
  rw [← HG0.out]
  try rw [← hw3]
  clear hw3 hg0 d0 d1
  refine (HP1.out _ (disk_below HD.out HBw3.out)).mono ?_
  rintro e w4 ⟨rfl, hb4⟩
  have HB4 : Hid (Below wb.heap.size wb w4) := hide (HB3.out.trans (hb4.mono HB3.out.size))
  have HBw4 : Hid (Below w.heap.size w w4) := hide (HBw3.out.trans (hb4.mono HBw3.out.size))
  have HV4 := hide ((hb4.block g0 (Array.getElem?_eq_some_iff.1 HV0.out).1).trans HV0.out)
  have HM4 := hide (metaOwn_below HM3.out hb4)
  clear hb4
  go_wp2_with fail
  refine (HM1'.out w4 (sumTab_below HT.out.1 HBw4.out) (errTab_below HT.out.2 HBw4.out)).mono ?_
  rintro e w5 ⟨m1, v1, ok1, rfl, hrd1, hmo1, hb5⟩
  obtain ⟨vf1, l1, rfl, ho1⟩ := hmo1
  obtain ⟨tx1, r1, n1, f1⟩ := m1
  dsimp only at ho1 ⊢
  obtain ⟨a1, c1, rfl⟩ := own_slice ho1.1
  have HMo1 : Hid (MetaOwn w5 w4.heap.size (.agg #[.int .i64 tx1, .int .i64 r1, .int .i64 n1, .slice a1 f1.length c1]) ⟨tx1, r1, n1, f1⟩) := hide ⟨_, l1, rfl, ho1⟩
  obtain ⟨F1, hF1⟩ : ∃ F1, F1 = f1.length := ⟨_, rfl⟩
  rw [← hF1] at HMo1 ⊢
  have HR1 := hide hrd1
  obtain ⟨w6, hw6⟩ : ∃ w6, w6 = w5.alloc (.cells #[.int .i64 tx1, .int .i64 r1, .int .i64 n1, .slice a1 F1 c1] 40 (0, 0)) := ⟨_, rfl⟩
  have hb6 : Below w5.heap.size w5 w6 := by rw [hw6]; exact (Below.refl _ _).alloc (Nat.le_refl _) _
  obtain ⟨g1, hg1⟩ : ∃ g, g = w5.heap.size := ⟨_, rfl⟩
  have hV1 : w6.heap[g1]? = some (.cells #[.int .i64 tx1, .int .i64 r1, .int .i64 n1, .slice a1 F1 c1] 40 (0, 0)) := by rw [hw6, hg1]; exact heap_alloc_new w5 _
  have hV0 := (hb6.block g0 (Nat.lt_of_lt_of_le (Array.getElem?_eq_some_iff.1 HV4.out).1 hb5.size)).trans ((hb5.block g0 (Array.getElem?_eq_some_iff.1 HV4.out).1).trans HV4.out)
  have hB6 : Below wb.heap.size wb w6 := (HB4.out.trans (hb5.mono HB4.out.size)).trans (hb6.mono (by have := HB4.out.size; have := hb5.size; omega))
  have HM0 : Hid (MetaOwn w6 wb.heap.size (.agg #[.int .i64 tx0, .int .i64 r0, .int .i64 n0, .slice a0 F0 c0]) ⟨tx0, r0, n0, f0⟩) := hide (metaOwn_down (metaOwn_below (metaOwn_below HM4.out hb5) hb6) HL1.out)
  have HM1 : Hid (MetaOwn w6 wb.heap.size (.agg #[.int .i64 tx1, .int .i64 r1, .int .i64 n1, .slice a1 F1 c1]) ⟨tx1, r1, n1, f1⟩) := hide (metaOwn_down (metaOwn_below HMo1.out hb6) HB4.out.size)
  have HBw : Hid (Below w.heap.size w w6) := hide (HBb.out.trans (hB6.mono HBb.out.size))
  have ra := (hB6.block (w.heap.size + 1) (by have := HWb.out; omega)).trans HQr.out
  have y0 := (cell_at hV0 0).1
  have y1 := (cell_at hV0 1).1
  have y2 := (cell_at hV0 2).1
  have y3 := (cell_at hV0 3).1
  have a0' := (cell_at ra 0).1
  have a1' := (cell_at ra 1).1
  have a2' := (cell_at ra 2).1
  have a3' := (cell_at ra 3).1
  have z0 := (cell_at ra 0).2
  have z1 := (cell_at ra 1).2
  have z2 := (cell_at ra 2).2
  have z3 := (cell_at ra 3).2
  have x0 := (cell_at hV1 0).1
  have x1 := (cell_at hV1 1).1
  have x2 := (cell_at hV1 2).1
  have x3 := (cell_at hV1 3).1
  have HRA := hide ra
  have HW6 := hide hw6
  rw [hw6] at y0 y1 y2 y3 a0' a1' a2' a3' z0 z1 z2 z3 x0 x1 x2 x3
  rw [hg1] at x0 x1 x2 x3
  have n1' : g0 ≠ w.heap.size + 1 := by have h1 := HWb.out; have h2 := HB2.out.size; have h3 := HG0.out; omega
  clear hrd1 ho1 hb5 hb6 hF1 HMo1 hV0 hV1 ra hB6 hg1 hw6
  cases ok1 with
  | true =>
    cases ok0 with
    | true =>
      by_cases hle : tx0 < tx1
      · have d1 : decide (tx0 < tx1) = true := decide_eq_true hle
        have HBm : Hid (BestM t0 t1 ⟨tx1, r1, n1, f1⟩ true) := hide ⟨_, _, _, _, HR0.out, HR1.out, by rw [bestOf, if_neg (fun h => by rcases h.2 with h | h; cases h; exact absurd hle (Int.not_lt.2 h)), if_pos rfl]⟩
        clear hle
        go_wp2_with fail
        rw [← HW6.out]
        have hrt := ret_meta (m := ⟨tx1, r1, n1, f1⟩) HRA.out (metaOwn_down HM1.out (show w.heap.size + 1 + 1 ≤ wb.heap.size by have := HWb.out; omega)) (by omega)
        have t0 := (cell_at hrt.1 0).1
        have t1 := (cell_at hrt.1 1).1
        have t2 := (cell_at hrt.1 2).1
        have t3 := (cell_at hrt.1 3).1
        dsimp only at t0 t1 t2 t3
        refine bodyPost_ret (v := .tuple #[.agg #[.int .i64 tx1, .int .i64 r1, .int .i64 n1, .slice a1 F1 c1], .bool true]) (by simp [results, Tryd.results35, go_sem, t0, t1, t2, t3]) rfl ⟨⟨tx1, r1, n1, f1⟩, _, true, rfl, HBm.out, metaOwn_down hrt.2.1 (by omega), HBw.out.trans (hrt.2.2.mono (by have := HBw.out.size; omega))⟩
      · have d1 : decide (tx0 < tx1) = false := decide_eq_false hle
        have HBm : Hid (BestM t0 t1 ⟨tx0, r0, n0, f0⟩ true) := hide ⟨_, _, _, _, HR0.out, HR1.out, by rw [bestOf, if_pos ⟨rfl, Or.inr (Int.not_lt.1 hle)⟩]⟩
        clear hle
        go_wp2_with fail
        rw [← HW6.out]
        have hrt := ret_meta (m := ⟨tx0, r0, n0, f0⟩) HRA.out (metaOwn_down HM0.out (show w.heap.size + 1 + 1 ≤ wb.heap.size by have := HWb.out; omega)) (by omega)
        have t0 := (cell_at hrt.1 0).1
        have t1 := (cell_at hrt.1 1).1
        have t2 := (cell_at hrt.1 2).1
        have t3 := (cell_at hrt.1 3).1
        dsimp only at t0 t1 t2 t3
        refine bodyPost_ret (v := .tuple #[.agg #[.int .i64 tx0, .int .i64 r0, .int .i64 n0, .slice a0 F0 c0], .bool true]) (by simp [results, Tryd.results35, go_sem, t0, t1, t2, t3]) rfl ⟨⟨tx0, r0, n0, f0⟩, _, true, rfl, HBm.out, metaOwn_down hrt.2.1 (by omega), HBw.out.trans (hrt.2.2.mono (by have := HBw.out.size; omega))⟩
    | false =>
      have HBm : Hid (BestM t0 t1 ⟨tx1, r1, n1, f1⟩ true) := hide ⟨_, _, _, _, HR0.out, HR1.out, by rw [bestOf, if_neg (fun h => by cases h.1), if_pos rfl]⟩
      go_wp2_with fail
      rw [← HW6.out]
      have hrt := ret_meta (m := ⟨tx1, r1, n1, f1⟩) HRA.out (metaOwn_down HM1.out (show w.heap.size + 1 + 1 ≤ wb.heap.size by have := HWb.out; omega)) (by omega)
      have t0 := (cell_at hrt.1 0).1
      have t1 := (cell_at hrt.1 1).1
      have t2 := (cell_at hrt.1 2).1
      have t3 := (cell_at hrt.1 3).1
      dsimp only at t0 t1 t2 t3
      refine bodyPost_ret (v := .tuple #[.agg #[.int .i64 tx1, .int .i64 r1, .int .i64 n1, .slice a1 F1 c1], .bool true]) (by simp [results, Tryd.results35, go_sem, t0, t1, t2, t3]) rfl ⟨⟨tx1, r1, n1, f1⟩, _, true, rfl, HBm.out, metaOwn_down hrt.2.1 (by omega), HBw.out.trans (hrt.2.2.mono (by have := HBw.out.size; omega))⟩
  | false =>
    cases ok0 with
    | true =>
      have HBm : Hid (BestM t0 t1 ⟨tx0, r0, n0, f0⟩ true) := hide ⟨_, _, _, _, HR0.out, HR1.out, by rw [bestOf, if_pos ⟨rfl, Or.inl rfl⟩]⟩
      go_wp2_with fail
      rw [← HW6.out]
      have hrt := ret_meta (m := ⟨tx0, r0, n0, f0⟩) HRA.out (metaOwn_down HM0.out (show w.heap.size + 1 + 1 ≤ wb.heap.size by have := HWb.out; omega)) (by omega)
      have t0 := (cell_at hrt.1 0).1
      have t1 := (cell_at hrt.1 1).1
      have t2 := (cell_at hrt.1 2).1
      have t3 := (cell_at hrt.1 3).1
      dsimp only at t0 t1 t2 t3
      refine bodyPost_ret (v := .tuple #[.agg #[.int .i64 tx0, .int .i64 r0, .int .i64 n0, .slice a0 F0 c0], .bool true]) (by simp [results, Tryd.results35, go_sem, t0, t1, t2, t3]) rfl ⟨⟨tx0, r0, n0, f0⟩, _, true, rfl, HBm.out, metaOwn_down hrt.2.1 (by omega), HBw.out.trans (hrt.2.2.mono (by have := HBw.out.size; omega))⟩
    | false =>
      have HBm : Hid (BestM t0 t1 ⟨tx0, r0, n0, f0⟩ false) := hide ⟨_, _, _, _, HR0.out, HR1.out, by rw [bestOf, if_neg (fun h => by cases h.1), if_neg (fun h => by cases h), readM_false HR0.out]⟩
      go_wp2_with fail
      rw [← HW6.out]
      have hrt := ret_meta (m := ⟨tx0, r0, n0, f0⟩) HRA.out (metaOwn_down HM0.out (show w.heap.size + 1 + 1 ≤ wb.heap.size by have := HWb.out; omega)) (by omega)
      have t0 := (cell_at hrt.1 0).1
      have t1 := (cell_at hrt.1 1).1
      have t2 := (cell_at hrt.1 2).1
      have t3 := (cell_at hrt.1 3).1
      dsimp only at t0 t1 t2 t3
      refine bodyPost_ret (v := .tuple #[.agg #[.int .i64 tx0, .int .i64 r0, .int .i64 n0, .slice a0 F0 c0], .bool false]) (by simp [results, Tryd.results35, go_sem, t0, t1, t2, t3]) rfl ⟨⟨tx0, r0, n0, f0⟩, _, false, rfl, HBm.out, metaOwn_down hrt.2.1 (by omega), HBw.out.trans (hrt.2.2.mono (by have := HBw.out.size; omega))⟩
end Go.Proofs.YtglcfaibgjiigaaDoor

namespace Go.Proofs.YtglcfaibgjiigaaDoor
open Go.RowKit


set_option maxHeartbeats 1000000 in
set_option maxRecDepth 100000 in
theorem sameInts_row (l m : List Int) (hl : l.length ≤ 9223372036854775807) (_hm : m.length ≤ 9223372036854775807) (v u : Value) (w : World) (hr : RowAt w 1 v l.length (ints l)) (hq : RowAt w 1 u m.length (ints m)) :
    Calls Tryd.prog 72 #[v, u] w fun e w' => e = .returned (.bool (decide (l = m))) ∧ Below w.heap.size w w' := by
  obtain ⟨-, a, cap, rfl, h2⟩ := hr
  obtain ⟨-, a', cap', rfl, h3⟩ := hq
  have HR := hide h2
  have HQ := hide h3
  clear h2 h3
  by_cases hne : l.length = m.length
  · have HN := hide hne
    rw [← hne]
    clear hne
    go_enter Tryd.func72, Tryd.ntmps72
    go_wp2
    go_loopg [5] l.length (fun q iv wr => ∃ k : Nat, k ≤ l.length ∧ iv = .int .i64 (k : Int) ∧ q + k = l.length ∧ Hid (l.take k = m.take k) ∧ Below w.heap.size w wr)
    case atStart => exact ⟨0, Nat.zero_le _, rfl, rfl, hide (by simp), Below.refl _ _⟩
    case round =>
      obtain ⟨k, hk, rfl, hg, HT, hb⟩ := hrel
      have HG := hide hg
      clear hg
      by_cases hlt : k < l.length
      · rcases HR.out with hn0 | ⟨b, off, rfl, hbl, hc⟩
        · omega
        · rcases HQ.out with hn0 | ⟨b', off', rfl, hbl', hc'⟩
          · have := HN.out; omega
          · have hltm : k < m.length := by have := HN.out; omega
            obtain ⟨x, hx⟩ : ∃ x, x = l[k] := ⟨_, rfl⟩
            obtain ⟨y, hy⟩ : ∃ y, y = m[k] := ⟨_, rfl⟩
            have hcx : wr.cell? ⟨b, off + k, none⟩ = some (.int .i64 x) := by rw [hb.cell (by exact hbl), hc k (by omega), ints_at l k hlt, hx]
            have hcy : wr.cell? ⟨b', off' + k, none⟩ = some (.int .i64 y) := by rw [hb.cell (by exact hbl'), hc' k (by omega), ints_at m k hltm, hy]
            have HX := hide hx
            have HY := hide hy
            have hk0 : (0 : Int) ≤ (k : Int) := by omega
            have hk1 : (k : Int) < (l.length : Int) := by omega
            clear hc hc' hx hy
            by_cases hxy : x = y
            · have HT2 : Hid (l.take (k + 1) = m.take (k + 1)) := hide (by rw [List.take_succ_eq_append_getElem hlt, List.take_succ_eq_append_getElem hltm, HT.out, ← HX.out, ← HY.out, hxy])
              subst hxy
              have hbq : (x != x) = false := by simp
              go_wp2
              go_quiet (fail)
              go_wp2
              go_roundg (gk - 1)
              case measure => have := HG.out; omega
              case rel => exact ⟨k + 1, by omega, by go_num, by have := HG.out; omega, HT2, below_drewN hb _⟩
            · have HD := hide (list_ne hlt hltm (by rw [← HX.out, ← HY.out]; exact hxy))
              have hbq : (x != y) = true := by simp [hxy]
              have hbr : (x == y) = false := by simp [hxy]
              go_wp2
              go_quiet (fail)
              go_wp2
              go_ret
              rw [HD.out]
              exact ⟨rfl, below_drewN hb _⟩
      · have HD : Hid (decide (l = m) = true) := hide (decide_eq_true (by
          have h1 := HT.out
          rw [List.take_of_length_le (by omega), List.take_of_length_le (by have := HN.out; omega)] at h1
          exact h1))
        go_wp2
        go_ret
        rw [HD.out]
        exact ⟨rfl, hb⟩
  · have HD : Hid (decide (l = m) = false) := hide (decide_eq_false (fun e => hne (by rw [e])))
    have hq1 : ¬ ((l.length : Int) = (m.length : Int)) := by omega
    clear hne
    go_enter Tryd.func72, Tryd.ntmps72
    go_wp2
    go_ret
    rw [HD.out]
    exact ⟨rfl, Below.refl _ _⟩

set_option maxHeartbeats 8000000 in
set_option maxRecDepth 100000 in
theorem sameMeta_same (m : Mt) (hl : m.fs.length ≤ 1048576) (hs : ∀ f ∈ m.fs, f.2.length ≤ 1048576) (v u : Value) (w : World) (hr : MetaAt w v m) (hq : MetaAt w u m) :
    Calls Tryd.prog 28 #[v, u] w fun e w' => e = .returned (.bool true) ∧ Below w.heap.size w w' := by
  obtain ⟨vf, rfl, hr⟩ := hr
  obtain ⟨uf, rfl, hq⟩ := hq
  obtain ⟨a, cap, rfl⟩ := frees_slice hr
  obtain ⟨a', cap', rfl⟩ := frees_slice hq
  obtain ⟨L, hL⟩ : ∃ L, L = m.fs.length := ⟨_, rfl⟩
  rw [← hL] at hr hq hl ⊢
  have HL := hide hL
  have HR := hide hr
  have HQ := hide hq
  have HS := hide hs
  obtain ⟨tx, htx⟩ : ∃ x, x = m.tx := ⟨_, rfl⟩
  obtain ⟨root, hro⟩ : ∃ x, x = m.root := ⟨_, rfl⟩
  obtain ⟨next, hne⟩ : ∃ x, x = m.next := ⟨_, rfl⟩
  rw [← htx, ← hro, ← hne]
  have d1 : (tx != tx) = false := by simp
  have d2 : (root != root) = false := by simp
  have d3 : (next != next) = false := by simp
  have d4 : ((L : Int) != (L : Int)) = false := by simp
  clear hr hq hs hL htx hro hne
  obtain ⟨w0, hw0⟩ : ∃ w0, w0 = (w.alloc (Obj.cells #[.int .i64 tx, .int .i64 root, .int .i64 next, .slice a L cap] 40)).alloc (Obj.cells #[.int .i64 tx, .int .i64 root, .int .i64 next, .slice a' L cap'] 40) := ⟨_, rfl⟩
  have hb0 : Below w.heap.size w w0 := by rw [hw0]; exact ((Below.refl w.heap.size w).alloc (Nat.le_refl _) _).alloc (by simp) _
  have HB0 := hide hb0
  have HV0 : Hid (w0.heap[w.heap.size]? = some (.cells #[.int .i64 tx, .int .i64 root, .int .i64 next, .slice a L cap] 40 (0, 0))) := hide (by rw [hw0]; exact (Below.heap_alloc _ _ _ (by simp)).trans (heap_alloc_new w _))
  have HU0 : Hid (w0.heap[w.heap.size + 1]? = some (.cells #[.int .i64 tx, .int .i64 root, .int .i64 next, .slice a' L cap'] 40 (0, 0))) := hide (by
    have h := heap_alloc_new (w.alloc (Obj.cells #[.int .i64 tx, .int .i64 root, .int .i64 next, .slice a L cap] 40)) (Obj.cells #[.int .i64 tx, .int .i64 root, .int .i64 next, .slice a' L cap'] 40)
    rw [World.size_alloc] at h
    rw [hw0]
    exact h)
  have HW0 : Hid (w0.heap.size = w.heap.size + 2) := hide (by rw [hw0]; simp)
  clear hb0
  go_enter Tryd.func28, Tryd.ntmps28
  go_wp2_with fail
  try rw [← hw0]
  clear hw0
  go_loopg [5] L (fun q iv wr => ∃ k : Nat, k ≤ L ∧ iv = .int .i64 (k : Int) ∧ q + k = L ∧ Hid (Below w0.heap.size w0 wr))
  case atStart => exact ⟨0, Nat.zero_le _, rfl, rfl, hide (Below.refl _ _)⟩
  case round =>
    obtain ⟨k, hk, rfl, hg, HB⟩ := hrel
    have HG := hide hg
    clear hg
    have ca := (cell_at ((HB.out.block w.heap.size (by have := HW0.out; omega)).trans HV0.out) 3).1
    have cu := (cell_at ((HB.out.block (w.heap.size + 1) (by have := HW0.out; omega)).trans HU0.out) 3).1
    by_cases hlt : k < L
    · obtain ⟨ftx, ps, hf⟩ : ∃ tx ps, m.fs[k]? = some (tx, ps) := ⟨_, _, List.getElem?_eq_getElem (by have := HL.out; omega)⟩
      obtain ⟨b, off, x, c, hae, hbl, hc0, hc1, hrow⟩ := frees_at HR.out hf
      subst hae
      obtain ⟨b', off', x', c', hae, hbl', hd0, hd1, hrow'⟩ := frees_at HQ.out hf
      subst hae
      have HC := hide (fun wx h h' => sameInts_row ps ps (by have := HS.out _ (List.mem_of_getElem? hf); simp only at this; omega) (by have := HS.out _ (List.mem_of_getElem? hf); simp only at this; omega) (.slice x ps.length c) (.slice x' ps.length c') wx h h')
      rw [decide_eq_true rfl] at HC
      have HRow := hide (⟨hrow, hrow'⟩ : _ ∧ _)
      obtain ⟨n, hn⟩ : ∃ n, n = ps.length := ⟨_, rfl⟩
      rw [← hn] at hc1 hd1 HC HRow
      have HSB : Hid (∀ wx, Below w0.heap.size w0 wx → wx.cell? ⟨w.heap.size, 3, none⟩ = some (.slice (some ⟨b, off, none⟩) L cap) ∧ wx.cell? ⟨w.heap.size + 1, 3, none⟩ = some (.slice (some ⟨b', off', none⟩) L cap') ∧ wx.cell? ⟨b, off + k * 2, none⟩ = some (.int .i64 ftx) ∧ wx.cell? ⟨b, off + k * 2 + 1, none⟩ = some (.slice x n c) ∧ wx.cell? ⟨b', off' + k * 2, none⟩ = some (.int .i64 ftx) ∧ wx.cell? ⟨b', off' + k * 2 + 1, none⟩ = some (.slice x' n c')) := hide (fun wx h => by
        have hb := HB0.out.trans (h.mono HB0.out.size)
        exact ⟨(cell_at ((h.block w.heap.size (by have := HW0.out; omega)).trans HV0.out) 3).1, (cell_at ((h.block (w.heap.size + 1) (by have := HW0.out; omega)).trans HU0.out) 3).1, (hb.cell (by exact hbl)).trans hc0, (hb.cell (by exact hbl)).trans hc1, (hb.cell (by exact hbl')).trans hd0, (hb.cell (by exact hbl')).trans hd1⟩)
      have hk0 : (0 : Int) ≤ (k : Int) := by omega
      have hk1 : (k : Int) < (L : Int) := by omega
      have df : (ftx != ftx) = false := by simp
      have hS0 := HSB.out wr HB.out
      clear hf hrow hrow' hn hc0 hc1 hd0 hd1
      go_wp2_with fail
      go_region_held3 (fun wx => wx.cell? ⟨w.heap.size, 3, none⟩ = some (.slice (some ⟨b, off, none⟩) L cap) ∧ wx.cell? ⟨w.heap.size + 1, 3, none⟩ = some (.slice (some ⟨b', off', none⟩) L cap') ∧ wx.cell? ⟨b, off + k * 2, none⟩ = some (.int .i64 ftx) ∧ wx.cell? ⟨b, off + k * 2 + 1, none⟩ = some (.slice x n c) ∧ wx.cell? ⟨b', off' + k * 2, none⟩ = some (.int .i64 ftx) ∧ wx.cell? ⟨b', off' + k * 2 + 1, none⟩ = some (.slice x' n c')) (first | exact hS0 | exact hS2) ((go_at_call 72; (with_reducible refine (HC.out _ ?_ ?_).mono ?_); exact row_below HRow.out.1 (HB0.out.trans (HB.out.drew.mono HB0.out.size)); exact row_below HRow.out.2 (HB0.out.trans (HB.out.drew.mono HB0.out.size)); rintro e w2 ⟨rfl, hb2⟩; have HB2 : Hid (Below w0.heap.size w0 w2) := hide (HB.out.drew.trans (hb2.mono HB.out.size)); have hS2 := HSB.out w2 HB2.out))
      all_goals
        clear hb2
        go_wp2_with fail
        go_roundg (gk - 1)
        case measure => have := HG.out; omega
        case rel => exact ⟨k + 1, by omega, by go_num, by have := HG.out; omega, HB2⟩
    · have hk1 : ¬ ((k : Int) < (L : Int)) := by omega
      clear hlt hk
      go_wp2_with fail
      go_ret
      exact ⟨rfl, HB0.out.trans (HB.out.mono HB0.out.size)⟩
end Go.Proofs.YtglcfaibgjiigaaDoor

namespace Go.Proofs.YtglcfaibgjiigaaDoor
open Go.RowKit

/-- the mark of the i-th free's number -/
def kAt (k0 : Nat) (fs : List (Int × List Int)) (i : Nat) : Nat := k0 + i + sumF fs i

def marksF (k0 : Nat) (fs : List (Int × List Int)) : List (Int × List Int) := (List.range fs.length).map fun i => (((kAt k0 fs i : Nat) : Int), marksI (kAt k0 fs i + 1) (fs.getD i (0, [])).2.length)

theorem marksF_length (k0 : Nat) (fs : List (Int × List Int)) : (marksF k0 fs).length = fs.length := by simp [marksF]

theorem marksF_at {k0 : Nat} {fs : List (Int × List Int)} {k : Nat} {tx : Int} {ps : List Int} (h : fs[k]? = some (tx, ps)) : (marksF k0 fs)[k]? = some (((kAt k0 fs k : Nat) : Int), marksI (kAt k0 fs k + 1) ps.length) := by
  have hk : k < fs.length := (List.getElem?_eq_some_iff.1 h).1
  simp [marksF, hk]
  have : fs[k] = (tx, ps) := by have := List.getElem?_eq_getElem hk; rw [h] at this; exact (Option.some.inj this).symm
  rw [this]

theorem kAt_next {k0 : Nat} {fs : List (Int × List Int)} {k : Nat} {tx : Int} {ps : List Int} (h : fs[k]? = some (tx, ps)) : kAt k0 fs (k + 1) = kAt k0 fs k + 1 + ps.length := by
  unfold kAt
  rw [sumF_succ fs k h]
  omega

theorem kAt_le (k0 : Nat) (fs : List (Int × List Int)) (k : Nat) (hk : k ≤ fs.length) : kAt k0 fs k ≤ k0 + bulkF fs := by
  unfold kAt bulkF
  have := sumF_mono fs k
  omega

theorem ownF_setTx {w : World} {B g n cap k : Nat} {m : List (Int × Value)} {fs : List (Int × List Int)} {tx x : Int} {ps : List Int} {p : Int × Value} (h : OwnF w B (.slice (some ⟨g, 0, none⟩) n cap) m fs) (hn : n = fs.length) (hf : fs[k]? = some (tx, ps)) (hp : m[k]? = some p) :
    OwnF (w.setCell ⟨g, k * 2, none⟩ (.int .i64 x)) B (.slice (some ⟨g, 0, none⟩) n cap) (m.set k (x, p.2)) (fs.set k (x, ps)) := by
  subst hn
  have hkf : k < fs.length := (List.getElem?_eq_some_iff.1 hf).1
  have hkm : k < m.length := (List.getElem?_eq_some_iff.1 hp).1
  have kp : Kept w (w.setCell ⟨g, k * 2, none⟩ (.int .i64 x)) (fun b => b = g) := kept_setCell _ _ _ _
  refine ⟨?_, ?_⟩
  · have h1 := (h.1.stored (k * 2) (.int .i64 x)).1
    rw [frs_set0 m k x p hp] at h1
    rw [List.length_set]
    exact h1
  · have hto : OwnTo (w.setCell ⟨g, k * 2, none⟩ (.int .i64 x)) B m fs fs.length := ownTo_kept h.2 kp (fun i q b hi hq hb e => by
      subst e
      exact one_type h.1 (h.2.2.1 i q _ hi hq (List.getElem?_eq_getElem hi)).2 Tryd.free_int b rfl hb)
    refine ⟨by rw [List.length_set, List.length_set]; exact hto.1, fun i q f hi hq hf' => ?_, fun i j q r b hi hj hq hr h1 h2 => ?_⟩
    · rw [List.length_set] at hi
      by_cases e : k = i
      · subst e
        rw [List.getElem?_set_self hkm] at hq
        rw [List.getElem?_set_self hkf] at hf'
        injection hq with hq
        injection hf' with hf'
        subst hq hf'
        exact ⟨rfl, (hto.2.1 k p _ hi hp hf).2⟩
      · rw [List.getElem?_set_ne e] at hq hf'
        exact hto.2.1 i q f hi hq hf'
    · rw [List.length_set] at hi hj
      have back : ∀ (i : Nat) (q : Int × Value), (m.set k (x, p.2))[i]? = some q → ∃ q' : Int × Value, m[i]? = some q' ∧ q'.2 = q.2 := fun i q h => by
        by_cases e : k = i
        · subst e
          rw [List.getElem?_set_self hkm] at h
          injection h with h
          exact ⟨p, hp, by rw [← h]⟩
        · rw [List.getElem?_set_ne e] at h
          exact ⟨q, h, rfl⟩
      obtain ⟨q', a1, a2⟩ := back i q hq
      obtain ⟨r', b1, b2⟩ := back j r hr
      exact hto.2.2 i j q' r' b hi hj a1 b1 (by rw [a2]; exact h1) (by rw [b2]; exact h2)

theorem ownF_setPg {w w' : World} {B k : Nat} {v : Value} {m : List (Int × Value)} {fs : List (Int × List Int)} {x : Int} {ps qs : List Int} {p : Int × Value} (h : OwnF w B v m fs) (hf : fs[k]? = some (x, ps)) (hp : m[k]? = some p)
    (hown : w'.ownsRow B 3 1 p.2 ps.length (ints qs)) (hq : qs.length = ps.length) (hk : Kept w w' (fun b => p.2.ownBlock = some b)) : OwnF w' B v m (fs.set k (x, qs)) := by
  have hkf : k < fs.length := (List.getElem?_eq_some_iff.1 hf).1
  have hpr := h.2.2.1 k p _ hkf hp hf
  refine ⟨?_, by rw [List.length_set]; exact h.2.1, fun i q f hi hq' hf' => ?_, fun i j q r b hi hj => ?_⟩
  · rw [List.length_set]
    exact own_kept h.1 hk (fun b hb e => one_type h.1 hpr.2 Tryd.free_int b hb e)
  · rw [List.length_set] at hi
    by_cases e : k = i
    · subst e
      rw [hp] at hq'
      rw [List.getElem?_set_self hkf] at hf'
      injection hq' with hq'
      injection hf' with hf'
      subst hq' hf'
      exact ⟨hpr.1, by rw [hq]; exact hown⟩
    · rw [List.getElem?_set_ne e] at hf'
      obtain ⟨g1, g2⟩ := h.2.2.1 i q f hi hq' hf'
      exact ⟨g1, own_kept g2 hk (fun b hb e' => e (h.2.2.2 k i p q b hkf hi hp hq' e' hb))⟩
  · rw [List.length_set] at hi hj
    exact h.2.2.2 i j q r b hi hj

theorem freeBlocks_same {v : Value} {m m' : List (Int × Value)} (h : m'.map Prod.snd = m.map Prod.snd) (b : Nat) : freeBlocks v m' b → freeBlocks v m b := by
  rintro (hb | ⟨i, p, hp, hb⟩)
  · exact Or.inl hb
  · have h1 : (m'.map Prod.snd)[i]? = some p.2 := by rw [List.getElem?_map, hp]; rfl
    rw [h, List.getElem?_map] at h1
    obtain ⟨q, h2, h3⟩ := Option.map_eq_some_iff.1 h1
    exact Or.inr ⟨i, q, h2, by rw [h3]; exact hb⟩

end Go.Proofs.YtglcfaibgjiigaaDoor

namespace Go.Proofs.YtglcfaibgjiigaaDoor
open Go.RowKit

theorem staysM {w w' : World} {g : Nat} {o : Obj} (h : w.heap[g]? = some o) (hb : Below w.heap.size w w') : w'.heap[g]? = some o := (hb.block g (Array.getElem?_eq_some_iff.1 h).1).trans h

theorem readM_small {t : ByteArray} {m : Mt} {ok : Bool} (h : ReadM t m ok) : m.fs.length ≤ 20 ∧ (∀ f ∈ m.fs, f.2.length ≤ 40) ∧ bulkF m.fs ≤ 1000000 := by
  rcases h with ⟨-, h, -⟩ | ⟨-, rfl, -⟩
  · obtain ⟨h1, h2⟩ := ok_parts (good_ok h.1)
    have h3 : ∀ f ∈ m.fs, f.2.length ≤ 40 := fun f hf => (h2 f hf).2.2.2.1
    have h4 := freeNums_len m.fs h3
    refine ⟨h1.2.2.2.2.2, h3, ?_⟩
    have h5 : ∀ fs : List (Int × List Int), bulkF fs ≤ (freeNums fs).length := fun fs => by
      have h6 : ∀ fs : List (Int × List Int), fs.length + (fs.map fun p => p.2.length).sum ≤ (freeNums fs).length := fun fs => by
        induction fs with
        | nil => simp [freeNums]
        | cons f fs ih => rw [freeNums_cons]; simp; omega
      unfold bulkF sumF
      rw [List.take_length]
      exact h6 fs
    have := h5 m.fs
    omega
  · exact ⟨by simp [Mt.none], (fun f hf => by cases hf), by simp [Mt.none, bulkF, sumF]⟩

end Go.Proofs.YtglcfaibgjiigaaDoor

namespace Go.Proofs.YtglcfaibgjiigaaDoor
open Go.RowKit

theorem branch2 {G A B : Prop} (hA : G → A) (hB : G → B) (h : G) : A ∧ B := ⟨hA h, hB h⟩

theorem ready2 {P : Program} {md : Region.Mode} {ops : Array Oper} {Q : Exit → Act → World → Prop} {S : World → Prop} {fuel : Nat} {listed : Array Bool} {a : Act} {w : World} {i j : Nat} {oi oj : Oper} (hi : ops[i]? = some oi) (hj : ops[j]? = some oj)
    (h : (∀ K' : Act → World → Prop, Shut (∀ a w, S w → (S w → wpAnyH P md ops Q S fuel (listed.setIfInBounds i true) a w) → K' a w) → if Region.wanted oi (yielded ops a.tmps) = true then Oper.wp P oi a w K' Q else K' (a.put oi.dst undef) w) ∧
      (∀ K' : Act → World → Prop, Shut (∀ a w, S w → (S w → wpAnyH P md ops Q S fuel (listed.setIfInBounds j true) a w) → K' a w) → if Region.wanted oj (yielded ops a.tmps) = true then Oper.wp P oj a w K' Q else K' (a.put oj.dst undef) w)) :
    AllReadyH P md ops Q S fuel listed a w [i, j] := AllReadyH.cons hi h.1 (AllReadyH.cons hj h.2 AllReadyH.nil)

theorem step_call3 {P : Program} (w : World) {ops : Array Oper} {o : Oper} {a : Act} {K : Act → World → Prop} {Q : Exit → Act → World → Prop} {E : Prop} (hgd : o.guard = none) (f : FuncId) (fn : Func) (hfn : P.funcs[f]? = some fn) (hname : ¬ fn.name = "runtime.NumGoroutine") (hbody : ¬ fn.body = none) (s x y : Operand) (ts : Array TypeId)
    (ho : o.op = .call { callee := .value (.func f), args := #[s, x, y], argTypes := ts }) (u v z : Value) (hs : a.eval s = u) (hx : a.eval x = v) (hy : a.eval y = z)
    (R : Ending → World → Prop) (hc : Calls P f #[u, v, z] w R) (hR : ∀ e w', R e w' → ∃ r, e = .returned r ∧ K (a.put o.dst r) w') :
    if Region.wanted o (yielded ops a.tmps) = true then Oper.wp P o a w K Q else E := by
  have hw : Region.wanted o (yielded ops a.tmps) = true := by simp [Region.wanted, hgd]
  rw [if_pos hw]
  unfold Oper.wp execOp
  have hf : a.eval (.func f) = .func (.func f) #[] #[] := rfl
  simp only [ho, resolve, invoke, hf, Deferred.ofValue, callFunc, Sem.run_bind, Sem.run_pure, Result.andThen_ok, List.map_toArray, List.map_cons, List.map_nil, hs, hx, hy]
  simp [go_sem, hfn, hname, hbody]
  refine hc.mono ?_
  intro e w' h
  obtain ⟨r, rfl, hk⟩ := hR e w' h
  exact hk
end Go.Proofs.YtglcfaibgjiigaaDoor

namespace Go.Proofs.YtglcfaibgjiigaaDoor
open Go.RowKit

theorem best_smallB {t0 t1 : ByteArray} {m : Mt} {ok : Bool} (h : BestM t0 t1 m ok) : m.fs.length ≤ 1048576 ∧ ∀ f ∈ m.fs, f.2.length ≤ 1048576 := by
  have key : m.fs.length ≤ 20 ∧ (∀ f ∈ m.fs, f.2.length ≤ 40) := by
    obtain ⟨m0, b0, m1, b1, h0, h1, h2⟩ := h
    unfold bestOf at h2
    split at h2
    · injection h2 with e1 e2
      subst e1
      exact ⟨(readM_small h0).1, (readM_small h0).2.1⟩
    · split at h2
      · injection h2 with e1 e2
        subst e1
        exact ⟨(readM_small h1).1, (readM_small h1).2.1⟩
      · injection h2 with e1 e2
        subst e1
        exact ⟨by simp [Mt.none], (fun f hf => by cases hf)⟩
  exact ⟨by omega, fun f hf => by have := key.2 f hf; omega⟩

theorem meta_formB {w : World} {v : Value} {m : Mt} (h : MetaAt w v m) : ∃ ro ne a n c, v = .agg #[.int .i64 m.tx, .int .i64 ro, .int .i64 ne, .slice a n c] := by
  obtain ⟨vf, rfl, h2⟩ := h
  obtain ⟨a, c, rfl⟩ := frees_slice h2
  exact ⟨_, _, _, _, _, rfl⟩

theorem meta_form6 {w : World} {v : Value} {m : Mt} (h : MetaAt w v m) : ∃ tx ro ne a n c, v = .agg #[.int .i64 tx, .int .i64 ro, .int .i64 ne, .slice a n c] := by
  obtain ⟨vf, rfl, h2⟩ := h
  obtain ⟨a, c, rfl⟩ := frees_slice h2
  exact ⟨_, _, _, _, _, _, rfl⟩

theorem meta_next {w : World} {m : Mt} {ro ne : Int} {a : Option Addr} {n c : Nat} (h : MetaAt w (.agg #[.int .i64 m.tx, .int .i64 ro, .int .i64 ne, .slice a n c]) m) (t : Int) : MetaAt w (.agg #[.int .i64 t, .int .i64 ro, .int .i64 ne, .slice a n c]) ⟨t, m.root, m.next, m.fs⟩ := by
  obtain ⟨vf, e, h2⟩ := h
  obtain ⟨-, e2, e3, e4⟩ := agg4 e
  exact ⟨_, by rw [e2, e3, e4], h2⟩

theorem metaOwn_set {w w' : World} {B g : Nat} {v : Value} {m : Mt} (h : MetaOwn w B v m) (hk : Kept w w' (fun k => k = g)) (hg : g < B) : MetaOwn w' B v m := by
  obtain ⟨vf, l, e, ho⟩ := h
  exact ⟨vf, l, e, ownF_kept ho hk (fun b hb => by have := (ownF_lt ho b hb).1; omega)⟩

theorem var_set {w w' : World} {g k : Nat} {o : Obj} (h : w.heap[k]? = some o) (hk : Kept w w' (fun j => j = g)) (hne : k ≠ g) : w'.heap[k]? = some o := (hk.2.2.2.2 k (Array.getElem?_eq_some_iff.1 h).1 hne).trans h

theorem below_set {w w1 w2 : World} {g : Nat} (h : Below w.heap.size w w1) (hk : Kept w1 w2 (fun j => j = g)) (hg : w.heap.size ≤ g) : Below w.heap.size w w2 :=
  h.trans (below_of_kept hk h.size (fun k e => by rw [e]; exact hg))

theorem set2 (w : World) (g : Nat) (a b : Value) : Kept w ((w.setCell ⟨g, 0, none⟩ a).setCell ⟨g, 1, none⟩ b) (fun k => k = g) := kept_trans (kept_setCell _ _ _ _) (kept_setCell _ _ _ _) (fun _ _ h => h)

theorem set2_heap {w : World} {g : Nat} {a b c d : Value} {t : TypeId} (h : w.heap[g]? = some (.cells #[c, d] t (0, 0))) : ((w.setCell ⟨g, 0, none⟩ a).setCell ⟨g, 1, none⟩ b).heap[g]? = some (.cells #[a, b] t (0, 0)) :=
  heap_setCell_same _ g 1 _ _ _ (heap_setCell_same _ g 0 _ _ _ h)

theorem diskOwn_set {w w' : World} {B g : Nat} {v : Value} {ps : List ByteArray} {ls : List (Int × ByteArray)} (h : DiskOwn w B v ps ls) (hk : Kept w w' (fun k => k = g)) (hg : g < B) : DiskOwn w' B v ps ls :=
  diskOwn_kept h hk (fun k hb => by have := (diskOwn_lt h k hb).1; omega)

set_option maxHeartbeats 32000000 in
set_option maxRecDepth 100000 in
theorem lawBest (a : Option Addr) (len cap : Nat) (w : World) (hd : 1048576 < len ∨ CodeIn w w.heap.size a len) (hT : SumTab w) (hE : ErrTab w) :
    Calls Tryd.prog 5 #[.slice a len cap] w fun e w' => e = .returned (.bool true) ∧ Below w.heap.size w w' := by
  have HT := hide hT
  have HE := hide hE
  clear hT hE
  by_cases hbig : 1048576 < len
  · clear hd
    go_enter Tryd.func5, Tryd.ntmps5
    go_wp2_with fail
    refine (big_yes a len cap hbig _).mono ?_
    rintro e w1 ⟨rfl, rfl⟩
    go_wp2_with fail
    go_ret
    exact ⟨rfl, Below.refl _ _⟩
  · have HD : Hid (CodeIn w w.heap.size a len) := hide (hd.resolve_left hbig)
    clear hd
    go_enter Tryd.func5, Tryd.ntmps5
    go_wp2_with fail
    refine (big_no a len cap (by omega) _).mono ?_
    rintro e w1 ⟨rfl, rfl⟩
    go_wp2_with fail
    refine (drawMeta_any a len cap _ HD.out).mono ?_
    rintro e w1 ⟨m, v1, rfl, hdm, hmo, hb1⟩
    have hat := meta_of_own hmo
    obtain ⟨ro1, ne1, a1, n1, c1, rfl⟩ := meta_formB hat
    obtain ⟨n, hn⟩ : ∃ n : Mt, n = ⟨m.tx + 1, m.root, m.next, m.fs⟩ := ⟨_, rfl⟩
    have htx : 3 ≤ m.tx ∧ m.tx ≤ 7 := hdm.1
    have hgm : m.good = true := drawn_good hdm m.tx (Int.le_refl _) (by omega)
    have hgn : n.good = true := by rw [hn]; exact drawn_good hdm (m.tx + 1) (by omega) (by omega)
    have hsm := small_drawnM hdm
    have HG := hide (⟨hgm, hgn⟩ : _ ∧ _)
    have HNt : Hid (m.tx < n.tx) := hide (by rw [hn]; show m.tx < m.tx + 1; omega)
    have hs1 : m.fs.length ≤ 1048576 := by omega
    have hs2 : ∀ f ∈ m.fs, f.2.length ≤ 1048576 := fun f hf => by have := hsm.2 f hf; omega
    have HSz := hide (⟨hs1, hs2⟩ : _ ∧ _)
    have HSzN : Hid (n.fs.length ≤ 1048576 ∧ ∀ f ∈ n.fs, f.2.length ≤ 1048576) := hide (by rw [hn]; exact ⟨hs1, hs2⟩)
    obtain ⟨tx1, htx1⟩ : ∃ t, t = m.tx := ⟨_, rfl⟩
    have HAtN : Hid (∀ wx, MetaAt wx (.agg #[.int .i64 tx1, .int .i64 ro1, .int .i64 ne1, .slice a1 n1 c1]) m → MetaAt wx (.agg #[.int .i64 (tx1 + 1), .int .i64 ro1, .int .i64 ne1, .slice a1 n1 c1]) n) := hide (fun wx h => by rw [hn]; rw [htx1] at h ⊢; exact meta_next h (m.tx + 1))
    have HTm := hide (fun wx h => specMetaText_any (.agg #[.int .i64 tx1, .int .i64 ro1, .int .i64 ne1, .slice a1 n1 c1]) m hs1 hs2 wx h)
    have HTn := hide (fun wx h => specMetaText_any (.agg #[.int .i64 (tx1 + 1), .int .i64 ro1, .int .i64 ne1, .slice a1 n1 c1]) n (by rw [hn]; exact hs1) (by rw [hn]; exact hs2) wx h)
    rw [hgm] at HTm
    rw [hgn] at HTn
    obtain ⟨ta, hta⟩ : ∃ t, t = m.textO := ⟨_, rfl⟩
    obtain ⟨tb, htb⟩ : ∃ t, t = n.textO := ⟨_, rfl⟩
    have hza : ta.size ≤ 240 := by rw [hta]; exact textO_size
    have hzb : tb.size ≤ 240 := by rw [htb]; exact textO_size
    have HTx := hide (⟨hta, htb⟩ : _ ∧ _)
    rw [← hta] at HTm
    rw [← htb] at HTn
    have HWr := hide (writes (tx := tx1) hza hzb)
    rw [← htx1] at hat htx ⊢
    have htx1b : tx1 = m.tx := htx1
    have HTx1 := hide htx1
    have hat1 : MetaAt w1 (.agg #[.int .i64 tx1, .int .i64 ro1, .int .i64 ne1, .slice a1 n1 c1]) m := by rw [htx1]; rw [htx1] at hat; exact hat
    have HA1 := hide hat1
    have HB1 : Hid (Below w.heap.size w w1) := hide hb1
    clear hmo hdm hgm hgn hsm hs1 hs2 hn hta htb hat hat1 hb1 htx1 htx1b
    obtain ⟨w2, hw2⟩ : ∃ w2, w2 = w1.alloc (.cells #[.int .i64 tx1, .int .i64 ro1, .int .i64 ne1, .slice a1 n1 c1] 40 (0, 0)) := ⟨_, rfl⟩
    obtain ⟨g3, hg3⟩ : ∃ g, g = w1.heap.size := ⟨_, rfl⟩
    have hb2 : Below w1.heap.size w1 w2 := by rw [hw2]; exact (Below.refl _ _).alloc (Nat.le_refl _) _
    have E3 : Hid (w2.heap[g3]? = some (.cells #[.int .i64 tx1, .int .i64 ro1, .int .i64 ne1, .slice a1 n1 c1] 40 (0, 0))) := hide (by rw [hw2, hg3]; exact heap_alloc_new w1 _)
    have HG3 := hide hg3
    have HB2 : Hid (Below w.heap.size w w2) := hide (HB1.out.trans (hb2.mono HB1.out.size))
    have HM2 : Hid (Below w1.heap.size w1 w2) := hide hb2
    clear hb2
    go_wp2_with fail
    rw [← hw2, ← hg3]
    clear hw2 hg3
    refine (specDiskNew_any 40 _).mono ?_
    rintro e w3 ⟨vd, rfl, hown3, hb3⟩
    obtain ⟨x0, k0, y0, u0, l0, v0, rfl, -, -⟩ := disk_formB (disk_of_own hown3)
    obtain ⟨w4, hw4⟩ : ∃ w4, w4 = w3.alloc (.cells #[.slice x0 k0 y0, .slice u0 l0 v0] 49 (0, 0)) := ⟨_, rfl⟩
    obtain ⟨g4, hg4⟩ : ∃ g, g = w3.heap.size := ⟨_, rfl⟩
    have hb4 : Below w3.heap.size w3 w4 := by rw [hw4]; exact (Below.refl _ _).alloc (Nat.le_refl _) _
    have E4 : Hid (w4.heap[g4]? = some (.cells #[.slice x0 k0 y0, .slice u0 l0 v0] 49 (0, 0))) := hide (by rw [hw4, hg4]; exact heap_alloc_new w3 _)
    have hE3 := staysM E3.out hb3
    have E3' := hide (staysM hE3 hb4)
    have HDk := hide (diskOwn_below hown3 hb4)
    have HG4 : Hid (w1.heap.size ≤ g3 ∧ g3 < g4 ∧ g4 < w4.heap.size) := hide (by
      have h1 := HG3.out
      have h2 := (Array.getElem?_eq_some_iff.1 hE3).1
      have h3 := (Array.getElem?_eq_some_iff.1 E4.out).1
      exact ⟨by omega, by omega, by omega⟩)
    have HB4 : Hid (Below w.heap.size w w4) := hide ((HB2.out.trans (hb3.mono HB2.out.size)).trans (hb4.mono (Nat.le_trans HB2.out.size hb3.size)))
    have HM4 : Hid (Below w1.heap.size w1 w4) := hide ((HM2.out.trans (hb3.mono HM2.out.size)).trans (hb4.mono (Nat.le_trans HM2.out.size hb3.size)))
    have p0 := (cell_at hE3 0).1
    have p1 := (cell_at hE3 1).1
    have p2 := (cell_at hE3 2).1
    have p3 := (cell_at hE3 3).1
    have hl0 : g3 < w3.heap.size := (Array.getElem?_eq_some_iff.1 hE3).1
    have hne0 : g3 ≠ w3.heap.size := by omega
    clear hown3 hb3 hb4 hE3
    go_wp2_with fail
    rw [← hw4, ← hg4]
    clear hw4 hg4 p0 p1 p2 p3 hl0 hne0
    refine (HTm.out _ (meta_below HA1.out HM4.out)).mono ?_
    rintro e w5 ⟨rfl, hb5⟩
    have E3 := hide (staysM E3'.out hb5)
    have E4 := hide (staysM E4.out hb5)
    have HDk := hide (diskOwn_below HDk.out hb5)
    have HB5 : Hid (Below w.heap.size w w5) := hide (HB4.out.trans (hb5.mono HB4.out.size))
    have HM5 : Hid (Below w1.heap.size w1 w5) := hide (HM4.out.trans (hb5.mono HM4.out.size))
    have HS5 : Hid (g4 < w5.heap.size) := hide (Nat.lt_of_lt_of_le HG4.out.2.2 hb5.size)
    have p0 := (cell_at E3.out 0).1
    have p1 := (cell_at E3.out 1).1
    have p2 := (cell_at E3.out 2).1
    have p3 := (cell_at E3.out 3).1
    have hl0 : g3 < w5.heap.size := by have := HG4.out; have := HS5.out; omega
    have hne0 : g3 ≠ w5.heap.size := by omega
    have hw1' : IntKind.i64.wrap (tx1 + 1) = tx1 + 1 := IntWalk.i64_in _ ⟨by omega, by omega⟩
    clear hb5
    obtain ⟨w6, hw6⟩ : ∃ w6, w6 = w5.alloc (.cells #[.int .i64 (tx1 + 1), .int .i64 ro1, .int .i64 ne1, .slice a1 n1 c1] 40 (0, 0)) := ⟨_, rfl⟩
    obtain ⟨g8, hg8⟩ : ∃ g, g = w5.heap.size := ⟨_, rfl⟩
    have hb6 : Below w5.heap.size w5 w6 := by rw [hw6]; exact (Below.refl _ _).alloc (Nat.le_refl _) _
    have E8 : Hid (w6.heap[g8]? = some (.cells #[.int .i64 (tx1 + 1), .int .i64 ro1, .int .i64 ne1, .slice a1 n1 c1] 40 (0, 0))) := hide (by rw [hw6, hg8]; exact heap_alloc_new w5 _)
    have E3 := hide (staysM E3.out hb6)
    have E4 := hide (staysM E4.out hb6)
    have HDk := hide (diskOwn_below HDk.out hb6)
    have HB6 : Hid (Below w.heap.size w w6) := hide (HB5.out.trans (hb6.mono HB5.out.size))
    have HM6 : Hid (Below w1.heap.size w1 w6) := hide (HM5.out.trans (hb6.mono HM5.out.size))
    have HG8 : Hid (g4 < g8 ∧ g8 < w6.heap.size) := hide (by
      have h1 := HS5.out
      have h2 := (Array.getElem?_eq_some_iff.1 E8.out).1
      exact ⟨by omega, h2⟩)
    clear hb6
    go_wp2_with fail
    rw [← hw6, ← hg8]
    clear hw6 hg8 p0 p1 p2 p3 hl0 hne0 hw1'
    refine (HTn.out _ (HAtN.out _ (meta_below HA1.out HM6.out))).mono ?_
    rintro e w7 ⟨rfl, hb7⟩
    have E3 := hide (staysM E3.out hb7)
    have E4 := hide (staysM E4.out hb7)
    have E8 := hide (staysM E8.out hb7)
    have HDk := hide (diskOwn_below HDk.out hb7)
    have HB7 : Hid (Below w.heap.size w w7) := hide (HB6.out.trans (hb7.mono HB6.out.size))
    have HM7 : Hid (Below w1.heap.size w1 w7) := hide (HM6.out.trans (hb7.mono HM6.out.size))
    have HS7 : Hid (g8 < w7.heap.size) := hide (Nat.lt_of_lt_of_le HG8.out.2 hb7.size)
    clear hb7
    have ct : w7.cell? ⟨g3, 0, none⟩ = some (.int .i64 tx1) := (cell_at E3.out 0).1
    have d0 := (cell_at E4.out 0).1
    have d1 := (cell_at E4.out 1).1
    have HPg := hide (fun wx => implMetaPage_any tx1 wx)
    obtain ⟨pg, hpg⟩ : ∃ p, p = pgOf tx1 := ⟨_, rfl⟩
    rw [← hpg] at HPg HWr
    have HPg0 := hide hpg
    have HWp : Hid (∀ wx, DiskAt wx (.agg #[.slice x0 k0 y0, .slice u0 l0 v0]) (newP 40) [] → Calls Tryd.prog 33 #[.agg #[.slice x0 k0 y0, .slice u0 l0 v0], .int .i64 pg, .string ta] wx fun e w' => ∃ v', e = .returned (.tuple #[v', .bool (writeOk (newP 40) [] pg ta)]) ∧ DiskOwn w' wx.heap.size v' (newP 40) [(pg, ta)] ∧ Below wx.heap.size wx w') := hide (fun wx h => by
      have := specWritePage_any (.agg #[.slice x0 k0 y0, .slice u0 l0 v0]) (newP 40) [] pg ta (by omega) (by rw [new40_length]; omega) (by simp) new40_size (fun p hp => by cases hp) wx h
      rw [HWr.out.1] at this
      exact this)
    obtain ⟨wo1, hwo1⟩ : ∃ b, b = writeOk (newP 40) [] pg ta := ⟨_, rfl⟩
    rw [← hwo1] at HWp
    have HB := HB7
    have HM := HM7
    have HLow : Hid (g8 < w7.heap.size) := HS7
    clear hwo1 hpg
    go_wp2_with fail
    refine wp_region_held_drew (S := fun wx => wx.cell? ⟨g3, 0, none⟩ = some (.int .i64 tx1)) (by kernel_rfl) (show w7.drew.cell? ⟨g3, 0, none⟩ = some (.int .i64 tx1) from ct) (fun hHeld => ?_)
    refine takeM 1 49 ?_ rfl rfl (by kernel_rfl) (by kernel_rfl) (by kernel_rfl) (fun _ _ _ h => h) (Or.inl ⟨by rfl, ?_⟩) hHeld ?_
    rotate_left
    · (intro wx hSw; (try dsimp only at hSw); go_simp; try with_reducible rfl)
    simp only [List.setIfInBounds_toArray, List.set_cons_zero, List.set_cons_succ]
    refine takeM 2 50 ?_ rfl rfl (by kernel_rfl) (by kernel_rfl) (by kernel_rfl) (fun _ _ _ h => h) (Or.inl ⟨by rfl, ?_⟩) hHeld ?_
    rotate_left
    · (intro wx hSw; (try dsimp only at hSw); go_simp; try with_reducible rfl)
    simp only [List.setIfInBounds_toArray, List.set_cons_zero, List.set_cons_succ]
    refine takeM 4 52 ?_ rfl rfl (by kernel_rfl) (by kernel_rfl) (by kernel_rfl) (fun _ _ _ h => h) (Or.inl ⟨by rfl, ?_⟩) hHeld ?_
    rotate_left
    · (intro wx hSw; (try dsimp only at hSw); go_simp; try with_reducible rfl)
    simp only [List.setIfInBounds_toArray, List.set_cons_zero, List.set_cons_succ]
    refine wpAnyH_ready (rs := [0, 3]) (by kernel_rfl) (by simp) ?_
    refine ready2 rfl rfl ?_
    apply branch2
    · intro hG K hK
      go_simp
      refine hK.out _ _ hHeld (fun hHeld => ?_)
      clear hK K
      refine wpAnyH_ready (rs := [3]) (by kernel_rfl) (by simp) ?_
      refine AllReadyH.cons rfl (fun K hK => ?_) AllReadyH.nil
      refine step_call1 _ rfl 34 Tryd.f34 Tryd.func34 (by decide) (Option.some_ne_none _) (.tmp 50) #[3] rfl (.int .i64 tx1) rfl _ (HPg.out _) ?_
      rintro e wq ⟨rfl, rfl⟩
      refine ⟨_, rfl, ?_⟩
      refine hK.out (Act.put _ (some 51) _) _ hHeld (fun hHeld => ?_)
      clear hK K
      simp only [Act.put, List.setIfInBounds_toArray, List.set_cons_zero, List.set_cons_succ]
      exact hG
    · intro hG K hK
      refine step_call1 _ rfl 34 Tryd.f34 Tryd.func34 (by decide) (Option.some_ne_none _) (.tmp 50) #[3] rfl (.int .i64 tx1) rfl _ (HPg.out _) ?_
      rintro e wq ⟨rfl, rfl⟩
      refine ⟨_, rfl, ?_⟩
      refine hK.out (Act.put _ (some 51) _) _ hHeld (fun hHeld => ?_)
      clear hK K
      simp only [Act.put, List.setIfInBounds_toArray, List.set_cons_zero, List.set_cons_succ]
      refine wpAnyH_ready (rs := [0]) (by kernel_rfl) (by simp) ?_
      refine AllReadyH.cons rfl (fun K hK => ?_) AllReadyH.nil
      go_simp
      refine hK.out _ _ hHeld (fun hHeld => ?_)
      clear hK K
      exact hG
    refine wpAnyH_ready (rs := [5]) (by kernel_rfl) (by simp) ?_
    refine AllReadyH.cons rfl (fun K hK => ?_) AllReadyH.nil
    refine step_call3 _ rfl 33 Tryd.f33 Tryd.func33 (by decide) (Option.some_ne_none _) (.tmp 48) (.tmp 51) (.tmp 52) #[49, 3, 9] rfl (.agg #[.slice x0 k0 y0, .slice u0 l0 v0]) (.int .i64 pg) (.string ta) rfl rfl rfl _ (HWp.out _ ?_) ?_
    · exact disk_below (disk_of_own HDk.out) (Below.refl _ _).drew
    rintro e w8 ⟨vv, rfl, hown, hb⟩
    obtain ⟨x1, k1, y1, u1, l1, v1, rfl, -, -⟩ := disk_formB (disk_of_own hown)
    refine ⟨_, rfl, ?_⟩
    have E3 := hide (staysM (show w7.drew.heap[g3]? = _ from E3.out) hb)
    have E4 := hide (staysM (show w7.drew.heap[g4]? = _ from E4.out) hb)
    have E8 := hide (staysM (show w7.drew.heap[g8]? = _ from E8.out) hb)
    have HDk : Hid (DiskOwn w8 w7.heap.size (.agg #[.slice x1 k1 y1, .slice u1 l1 v1]) _ _) := hide hown
    have HSzw8 : Hid (w7.heap.size ≤ w8.heap.size) := hide hb.size
    have HB : Hid (Below w.heap.size w w8) := hide (HB.out.drew.trans (hb.mono HB.out.size))
    have HM : Hid (Below w1.heap.size w1 w8) := hide (HM.out.drew.trans (hb.mono HM.out.size))
    have ct : w8.cell? ⟨g3, 0, none⟩ = some (.int .i64 tx1) := (cell_at E3.out 0).1
    have d0 := (cell_at E4.out 0).1
    have d1 := (cell_at E4.out 1).1
    have f0 := (cell_at E4.out 0).2
    have f1 := (cell_at E4.out 1).2
    refine hK.out (Act.put _ (some 53) _) _ ct (fun hHeld => ?_)
    clear hK K hown hb
    simp only [Act.put, List.setIfInBounds_toArray, List.set_cons_zero, List.set_cons_succ]
    refine takeM 6 47 ?_ rfl rfl (by kernel_rfl) (by kernel_rfl) (by kernel_rfl) (fun _ _ _ h => h) (Or.inl ⟨by rfl, ?_⟩) hHeld ?_
    rotate_left
    · (intro wx hSw; (try dsimp only at hSw); go_simp; try with_reducible rfl)
    simp only [List.setIfInBounds_toArray, List.set_cons_zero, List.set_cons_succ]
    refine takeM 7 54 ?_ rfl rfl (by kernel_rfl) (by kernel_rfl) (by kernel_rfl) (fun _ _ _ h => h) (Or.inl ⟨by rfl, ?_⟩) hHeld ?_
    rotate_left
    · (intro wx hSw; (try dsimp only at hSw); go_simp; try with_reducible rfl)
    simp only [List.setIfInBounds_toArray, List.set_cons_zero, List.set_cons_succ]
    refine takeM 8 55 ?_ rfl rfl (by kernel_rfl) (by kernel_rfl) (by kernel_rfl) (fun _ _ _ h => h) (Or.inl ⟨by rfl, ?_⟩) hHeld ?_
    rotate_left
    · (intro wx hSw; (try dsimp only at hSw); go_simp; try with_reducible rfl)
    simp only [List.setIfInBounds_toArray, List.set_cons_zero, List.set_cons_succ]
    refine wpAnyH_ready (rs := [9]) (by kernel_rfl) (by simp) ?_
    refine AllReadyH.cons rfl (fun K hK => ?_) AllReadyH.nil
    go_simp
    have ct : ((w8.setCell ⟨g4, 0, none⟩ (.slice x1 k1 y1)).setCell ⟨g4, 1, none⟩ (.slice u1 l1 v1)).cell? ⟨g3, 0, none⟩ = some (.int .i64 tx1) := (cell_at (var_set E3.out (set2 w8 g4 _ _) (show g3 ≠ g4 by have := HG4.out; have := HG8.out; omega)) 0).1
    refine hK.out _ _ ct (fun hHeld => ?_)
    clear hK K
    refine wpAnyH_done (by kernel_rfl) ?_ _
    have ks := set2 w8 g4 (.slice x1 k1 y1) (.slice u1 l1 v1)
    have E4n := hide (set2_heap (a := .slice x1 k1 y1) (b := .slice u1 l1 v1) E4.out)
    have E4 := E4n
    have HDk := hide (diskOwn_set HDk.out ks (by have := HG4.out; have := HG8.out; have := HLow.out; omega))
    have E3 := hide (var_set E3.out ks (by have := HG4.out; have := HG8.out; have := HLow.out; omega))
    have E8 := hide (var_set E8.out ks (by have := HG4.out; have := HG8.out; have := HLow.out; omega))
    have HB := hide (below_set HB.out ks (by have := HG4.out; have := HB1.out.size; omega))
    have HM := hide (below_set HM.out ks (by have := HG4.out; omega))
    have HLt : Hid (g8 < ((w8.setCell ⟨g4, 0, none⟩ (.slice x1 k1 y1)).setCell ⟨g4, 1, none⟩ (.slice u1 l1 v1)).heap.size) := hide (by have := HSzw8.out; have := HLow.out; have := ks.2.2.2.1; omega)
    obtain ⟨w9, hws⟩ : ∃ ws, ws = ((w8.setCell ⟨g4, 0, none⟩ (.slice x1 k1 y1)).setCell ⟨g4, 1, none⟩ (.slice u1 l1 v1)) := ⟨_, rfl⟩
    rw [← hws] at E3 E4 E8 HDk HB HM HLt ⊢
    clear hws ks E4n d0 d1 f0 f1 ct
    have HBe := hide (fun wx ht he h => implBestMeta_any (.agg #[.slice x1 k1 y1, .slice u1 l1 v1]) (newP 40) [(pg, ta)] (by rw [new40_length]; omega) (by simp) new40_size (sizes40 (l := [ta]) rfl (by intro s hs; rw [List.mem_singleton.1 hs]; exact hza)) wx ht he h)
    have d0 := (cell_at E4.out 0).1
    have d1 := (cell_at E4.out 1).1
    go_wp2_with fail
    refine (HBe.out _ (sumTab_below HT.out HB.out) (errTab_below HE.out HB.out) (disk_of_own HDk.out)).mono ?_
    clear d0 d1 HBe
    rintro e w10 ⟨mo, vo, ok, rfl, hbm, hmo, hb⟩
    obtain ⟨rfl, rfl⟩ : mo = m ∧ ok = true := by
      rw [HPg0.out, HTx.out.1] at hbm
      exact bestA HG.out.1 hbm
    obtain ⟨tx2, ro2, ne2, a2, n2, c2, rfl⟩ := meta_form6 (meta_of_own hmo)
    obtain ⟨w11, hwv⟩ : ∃ ws, ws = w10.alloc (.cells #[.int .i64 tx2, .int .i64 ro2, .int .i64 ne2, .slice a2 n2 c2] 40 (0, 0)) := ⟨_, rfl⟩
    obtain ⟨g11, hgv⟩ : ∃ g, g = w10.heap.size := ⟨_, rfl⟩
    have hbv : Below w10.heap.size w10 w11 := by rw [hwv]; exact (Below.refl _ _).alloc (Nat.le_refl _) _
    have E11 : Hid (w11.heap[g11]? = some (.cells #[.int .i64 tx2, .int .i64 ro2, .int .i64 ne2, .slice a2 n2 c2] 40 (0, 0))) := hide (by rw [hwv, hgv]; exact heap_alloc_new w10 _)
    have E3 := hide (staysM (staysM E3.out hb) hbv)
    have E4 := hide (staysM (staysM E4.out hb) hbv)
    have E8 := hide (staysM (staysM E8.out hb) hbv)
    have HDk := hide (diskOwn_below (diskOwn_below HDk.out hb) hbv)
    have HB : Hid (Below w.heap.size w w11) := hide ((HB.out.trans (hb.mono HB.out.size)).trans (hbv.mono (Nat.le_trans HB.out.size hb.size)))
    have HM : Hid (Below w1.heap.size w1 w11) := hide ((HM.out.trans (hb.mono HM.out.size)).trans (hbv.mono (Nat.le_trans HM.out.size hb.size)))
    have HLow : Hid (g8 < g11 ∧ g11 < w11.heap.size ∧ g8 < w9.heap.size ∧ g8 < w11.heap.size) := hide (by
      have h1 := (Array.getElem?_eq_some_iff.1 E8.out).1
      have h2 := (Array.getElem?_eq_some_iff.1 E11.out).1
      have h3 := HLow.out
      have h4 := HLt.out
      have h5 := hb.size
      exact ⟨by omega, h2, by omega, h1⟩)
    have HO2 := hide (metaOwn_below hmo hbv)
    clear hbm hmo hb hbv
    have HPg := hide (fun wx => implMetaPage_any (tx1 + 1) wx)
    obtain ⟨pg2, hpg2⟩ : ∃ p, p = pgOf (tx1 + 1) := ⟨_, rfl⟩
    rw [← hpg2] at HPg HWr
    have HPg2 := hide hpg2
    have HWp : Hid (∀ wx, DiskAt wx (.agg #[.slice x1 k1 y1, .slice u1 l1 v1]) (newP 40) [(pg, ta)] → Calls Tryd.prog 33 #[.agg #[.slice x1 k1 y1, .slice u1 l1 v1], .int .i64 pg2, .string tb] wx fun e w' => ∃ v', e = .returned (.tuple #[v', .bool (writeOk (newP 40) [(pg, ta)] pg2 tb)]) ∧ DiskOwn w' wx.heap.size v' (newP 40) ([(pg, ta)] ++ [(pg2, tb)]) ∧ Below wx.heap.size wx w') := hide (fun wx h => by
      have := specWritePage_any (.agg #[.slice x1 k1 y1, .slice u1 l1 v1]) (newP 40) [(pg, ta)] pg2 tb (by omega) (by rw [new40_length]; omega) (by simp) new40_size (sizes40 (l := [ta]) rfl (by intro s hs; rw [List.mem_singleton.1 hs]; exact hza)) wx h
      rw [HWr.out.2.1] at this
      exact this)
    obtain ⟨wo2, hwo2⟩ : ∃ b, b = writeOk (newP 40) [(pg, ta)] pg2 tb := ⟨_, rfl⟩
    rw [← hwo2] at HWp
    clear hwo2 hpg2
    have ct : w11.cell? ⟨g8, 0, none⟩ = some (.int .i64 (tx1 + 1)) := (cell_at E8.out 0).1
    have d0 := (cell_at E4.out 0).1
    have d1 := (cell_at E4.out 1).1
    go_wp2_with fail
    rw [← hwv, ← hgv]
    clear hwv hgv
    refine wp_region_held_drew (S := fun wx => wx.cell? ⟨g8, 0, none⟩ = some (.int .i64 (tx1 + 1))) (by kernel_rfl) (show w11.drew.cell? ⟨g8, 0, none⟩ = some (.int .i64 (tx1 + 1)) from ct) (fun hHeld => ?_)
    refine takeM 1 63 ?_ rfl rfl (by kernel_rfl) (by kernel_rfl) (by kernel_rfl) (fun _ _ _ h => h) (Or.inl ⟨by rfl, ?_⟩) hHeld ?_
    rotate_left
    · (intro wx hSw; (try dsimp only at hSw); go_simp; try with_reducible rfl)
    simp only [List.setIfInBounds_toArray, List.set_cons_zero, List.set_cons_succ]
    refine takeM 2 64 ?_ rfl rfl (by kernel_rfl) (by kernel_rfl) (by kernel_rfl) (fun _ _ _ h => h) (Or.inl ⟨by rfl, ?_⟩) hHeld ?_
    rotate_left
    · (intro wx hSw; (try dsimp only at hSw); go_simp; try with_reducible rfl)
    simp only [List.setIfInBounds_toArray, List.set_cons_zero, List.set_cons_succ]
    refine takeM 4 66 ?_ rfl rfl (by kernel_rfl) (by kernel_rfl) (by kernel_rfl) (fun _ _ _ h => h) (Or.inl ⟨by rfl, ?_⟩) hHeld ?_
    rotate_left
    · (intro wx hSw; (try dsimp only at hSw); go_simp; try with_reducible rfl)
    simp only [List.setIfInBounds_toArray, List.set_cons_zero, List.set_cons_succ]
    refine wpAnyH_ready (rs := [0, 3]) (by kernel_rfl) (by simp) ?_
    refine ready2 rfl rfl ?_
    apply branch2
    · intro hG K hK
      go_simp
      refine hK.out _ _ hHeld (fun hHeld => ?_)
      clear hK K
      refine wpAnyH_ready (rs := [3]) (by kernel_rfl) (by simp) ?_
      refine AllReadyH.cons rfl (fun K hK => ?_) AllReadyH.nil
      refine step_call1 _ rfl 34 Tryd.f34 Tryd.func34 (by decide) (Option.some_ne_none _) (.tmp 64) #[3] rfl (.int .i64 (tx1 + 1)) rfl _ (HPg.out _) ?_
      rintro e wq ⟨rfl, rfl⟩
      refine ⟨_, rfl, ?_⟩
      refine hK.out (Act.put _ (some 65) _) _ hHeld (fun hHeld => ?_)
      clear hK K
      simp only [Act.put, List.setIfInBounds_toArray, List.set_cons_zero, List.set_cons_succ]
      exact hG
    · intro hG K hK
      refine step_call1 _ rfl 34 Tryd.f34 Tryd.func34 (by decide) (Option.some_ne_none _) (.tmp 64) #[3] rfl (.int .i64 (tx1 + 1)) rfl _ (HPg.out _) ?_
      rintro e wq ⟨rfl, rfl⟩
      refine ⟨_, rfl, ?_⟩
      refine hK.out (Act.put _ (some 65) _) _ hHeld (fun hHeld => ?_)
      clear hK K
      simp only [Act.put, List.setIfInBounds_toArray, List.set_cons_zero, List.set_cons_succ]
      refine wpAnyH_ready (rs := [0]) (by kernel_rfl) (by simp) ?_
      refine AllReadyH.cons rfl (fun K hK => ?_) AllReadyH.nil
      go_simp
      refine hK.out _ _ hHeld (fun hHeld => ?_)
      clear hK K
      exact hG
    refine wpAnyH_ready (rs := [5]) (by kernel_rfl) (by simp) ?_
    refine AllReadyH.cons rfl (fun K hK => ?_) AllReadyH.nil
    refine step_call3 _ rfl 33 Tryd.f33 Tryd.func33 (by decide) (Option.some_ne_none _) (.tmp 62) (.tmp 65) (.tmp 66) #[49, 3, 9] rfl (.agg #[.slice x1 k1 y1, .slice u1 l1 v1]) (.int .i64 pg2) (.string tb) rfl rfl rfl _ (HWp.out _ ?_) ?_
    · exact disk_below (disk_of_own HDk.out) (Below.refl _ _).drew
    rintro e w12 ⟨vv, rfl, hown, hb⟩
    obtain ⟨x2, k2, y2, u2, l2, v2, rfl, -, -⟩ := disk_formB (disk_of_own hown)
    refine ⟨_, rfl, ?_⟩
    have E3 := hide (staysM (show w11.drew.heap[g3]? = _ from E3.out) hb)
    have E4 := hide (staysM (show w11.drew.heap[g4]? = _ from E4.out) hb)
    have E8 := hide (staysM (show w11.drew.heap[g8]? = _ from E8.out) hb)
    have E11 := hide (staysM (show w11.drew.heap[g11]? = _ from E11.out) hb)
    have HDk : Hid (DiskOwn w12 w11.heap.size (.agg #[.slice x2 k2 y2, .slice u2 l2 v2]) _ _) := hide hown
    have HSzw12 : Hid (w11.heap.size ≤ w12.heap.size) := hide hb.size
    have HB : Hid (Below w.heap.size w w12) := hide (HB.out.drew.trans (hb.mono HB.out.size))
    have HM : Hid (Below w1.heap.size w1 w12) := hide (HM.out.drew.trans (hb.mono HM.out.size))
    have HO2 := hide (metaOwn_below HO2.out ((Below.refl _ _).drew.trans hb))
    have ct : w12.cell? ⟨g8, 0, none⟩ = some (.int .i64 (tx1 + 1)) := (cell_at E8.out 0).1
    have d0 := (cell_at E4.out 0).1
    have d1 := (cell_at E4.out 1).1
    have f0 := (cell_at E4.out 0).2
    have f1 := (cell_at E4.out 1).2
    refine hK.out (Act.put _ (some 67) _) _ ct (fun hHeld => ?_)
    clear hK K hown hb
    simp only [Act.put, List.setIfInBounds_toArray, List.set_cons_zero, List.set_cons_succ]
    refine takeM 6 61 ?_ rfl rfl (by kernel_rfl) (by kernel_rfl) (by kernel_rfl) (fun _ _ _ h => h) (Or.inl ⟨by rfl, ?_⟩) hHeld ?_
    rotate_left
    · (intro wx hSw; (try dsimp only at hSw); go_simp; try with_reducible rfl)
    simp only [List.setIfInBounds_toArray, List.set_cons_zero, List.set_cons_succ]
    refine takeM 7 68 ?_ rfl rfl (by kernel_rfl) (by kernel_rfl) (by kernel_rfl) (fun _ _ _ h => h) (Or.inl ⟨by rfl, ?_⟩) hHeld ?_
    rotate_left
    · (intro wx hSw; (try dsimp only at hSw); go_simp; try with_reducible rfl)
    simp only [List.setIfInBounds_toArray, List.set_cons_zero, List.set_cons_succ]
    refine takeM 8 69 ?_ rfl rfl (by kernel_rfl) (by kernel_rfl) (by kernel_rfl) (fun _ _ _ h => h) (Or.inl ⟨by rfl, ?_⟩) hHeld ?_
    rotate_left
    · (intro wx hSw; (try dsimp only at hSw); go_simp; try with_reducible rfl)
    simp only [List.setIfInBounds_toArray, List.set_cons_zero, List.set_cons_succ]
    refine wpAnyH_ready (rs := [9]) (by kernel_rfl) (by simp) ?_
    refine AllReadyH.cons rfl (fun K hK => ?_) AllReadyH.nil
    go_simp
    have ct : ((w12.setCell ⟨g4, 0, none⟩ (.slice x2 k2 y2)).setCell ⟨g4, 1, none⟩ (.slice u2 l2 v2)).cell? ⟨g8, 0, none⟩ = some (.int .i64 (tx1 + 1)) := (cell_at (var_set E8.out (set2 w12 g4 _ _) (show g8 ≠ g4 by have := HG4.out; have := HG8.out; omega)) 0).1
    refine hK.out _ _ ct (fun hHeld => ?_)
    clear hK K
    refine wpAnyH_done (by kernel_rfl) ?_ _
    have ks := set2 w12 g4 (.slice x2 k2 y2) (.slice u2 l2 v2)
    have E4n := hide (set2_heap (a := .slice x2 k2 y2) (b := .slice u2 l2 v2) E4.out)
    have E4 := E4n
    have HDk := hide (diskOwn_set HDk.out ks (by have := HG4.out; have := HG8.out; have := HLow.out; omega))
    have E3 := hide (var_set E3.out ks (by have := HG4.out; have := HG8.out; have := HLow.out; omega))
    have E8 := hide (var_set E8.out ks (by have := HG4.out; have := HG8.out; have := HLow.out; omega))
    have E11 := hide (var_set E11.out ks (by have := HG4.out; have := HG8.out; have := HLow.out; omega))
    have HB := hide (below_set HB.out ks (by have := HG4.out; have := HB1.out.size; omega))
    have HM := hide (below_set HM.out ks (by have := HG4.out; omega))
    have HO2 := hide (metaOwn_set HO2.out ks (by have := HG4.out; have := HG8.out; have := HLow.out; omega))
    have HLt : Hid (g8 < ((w12.setCell ⟨g4, 0, none⟩ (.slice x2 k2 y2)).setCell ⟨g4, 1, none⟩ (.slice u2 l2 v2)).heap.size) := hide (by have := HSzw12.out; have := HLow.out; have := ks.2.2.2.1; omega)
    obtain ⟨w13, hws⟩ : ∃ ws, ws = ((w12.setCell ⟨g4, 0, none⟩ (.slice x2 k2 y2)).setCell ⟨g4, 1, none⟩ (.slice u2 l2 v2)) := ⟨_, rfl⟩
    rw [← hws] at E3 E4 E8 E11 HDk HB HM HLt HO2 ⊢
    clear hws ks E4n d0 d1 f0 f1 ct
    have HBe := hide (fun wx ht he h => implBestMeta_any (.agg #[.slice x2 k2 y2, .slice u2 l2 v2]) (newP 40) ([(pg, ta)] ++ [(pg2, tb)]) (by rw [new40_length]; omega) (by simp) new40_size (sizes40 (l := [ta, tb]) rfl (by intro s hs; rcases List.mem_cons.1 hs with e | hs; (rw [e]; exact hza); (rw [List.mem_singleton.1 hs]; exact hzb))) wx ht he h)
    have d0 := (cell_at E4.out 0).1
    have d1 := (cell_at E4.out 1).1
    go_wp2_with fail
    refine (HBe.out _ (sumTab_below HT.out HB.out) (errTab_below HE.out HB.out) (disk_of_own HDk.out)).mono ?_
    clear d0 d1 HBe
    rintro e w14 ⟨mo2, vo, ok, rfl, hbm, hmo, hb⟩
    obtain ⟨rfl, rfl⟩ : mo2 = n ∧ ok = true := by
      rw [HPg0.out, HPg2.out, HTx.out.1, HTx.out.2] at hbm
      exact bestB (by omega) HG.out.1 HG.out.2 HNt.out hbm
    obtain ⟨tx3, ro3, ne3, a3, n3, c3, rfl⟩ := meta_form6 (meta_of_own hmo)
    obtain ⟨w15, hwv⟩ : ∃ ws, ws = w14.alloc (.cells #[.int .i64 tx3, .int .i64 ro3, .int .i64 ne3, .slice a3 n3 c3] 40 (0, 0)) := ⟨_, rfl⟩
    obtain ⟨g13, hgv⟩ : ∃ g, g = w14.heap.size := ⟨_, rfl⟩
    have hbv : Below w14.heap.size w14 w15 := by rw [hwv]; exact (Below.refl _ _).alloc (Nat.le_refl _) _
    have E13 : Hid (w15.heap[g13]? = some (.cells #[.int .i64 tx3, .int .i64 ro3, .int .i64 ne3, .slice a3 n3 c3] 40 (0, 0))) := hide (by rw [hwv, hgv]; exact heap_alloc_new w14 _)
    have E3 := hide (staysM (staysM E3.out hb) hbv)
    have E4 := hide (staysM (staysM E4.out hb) hbv)
    have E8 := hide (staysM (staysM E8.out hb) hbv)
    have E11 := hide (staysM (staysM E11.out hb) hbv)
    have HDk := hide (diskOwn_below (diskOwn_below HDk.out hb) hbv)
    have HB : Hid (Below w.heap.size w w15) := hide ((HB.out.trans (hb.mono HB.out.size)).trans (hbv.mono (Nat.le_trans HB.out.size hb.size)))
    have HM : Hid (Below w1.heap.size w1 w15) := hide ((HM.out.trans (hb.mono HM.out.size)).trans (hbv.mono (Nat.le_trans HM.out.size hb.size)))
    have HLow : Hid (g8 < g13 ∧ g13 < w15.heap.size ∧ g8 < w13.heap.size ∧ g8 < w15.heap.size) := hide (by
      have h1 := (Array.getElem?_eq_some_iff.1 E8.out).1
      have h2 := (Array.getElem?_eq_some_iff.1 E13.out).1
      have h3 := HLow.out
      have h4 := HLt.out
      have h5 := hb.size
      exact ⟨by omega, h2, by omega, h1⟩)
    have HO2 := hide (metaOwn_below (metaOwn_below HO2.out hb) hbv)
    have HO3 := hide (metaOwn_below hmo hbv)
    clear hbm hmo hb hbv
    have HWx : Hid (∀ wx, DiskAt wx (.agg #[.slice x2 k2 y2, .slice u2 l2 v2]) (newP 40) ([(pg, ta)] ++ [(pg2, tb)]) → Calls Tryd.prog 33 #[.agg #[.slice x2 k2 y2, .slice u2 l2 v2], .int .i64 pg2, .string ⟨#[120]⟩] wx fun e w' => ∃ v', e = .returned (.tuple #[v', .bool (writeOk (newP 40) ([(pg, ta)] ++ [(pg2, tb)]) pg2 ⟨#[120]⟩)]) ∧ DiskOwn w' wx.heap.size v' (newP 40) ([(pg, ta)] ++ [(pg2, tb)] ++ [(pg2, ⟨#[120]⟩)]) ∧ Below wx.heap.size wx w') := hide (fun wx h => by
      have := specWritePage_any (.agg #[.slice x2 k2 y2, .slice u2 l2 v2]) (newP 40) ([(pg, ta)] ++ [(pg2, tb)]) pg2 ⟨#[120]⟩ (by decide) (by rw [new40_length]; omega) (by simp) new40_size (sizes40 (l := [ta, tb]) rfl (by intro s hs; rcases List.mem_cons.1 hs with e | hs; (rw [e]; exact hza); (rw [List.mem_singleton.1 hs]; exact hzb))) wx h
      rw [HWr.out.2.2] at this
      exact this)
    obtain ⟨wo3, hwo3⟩ : ∃ b, b = writeOk (newP 40) ([(pg, ta)] ++ [(pg2, tb)]) pg2 ⟨#[120]⟩ := ⟨_, rfl⟩
    rw [← hwo3] at HWx
    clear hwo3
    have hS : w15.drew.cell? ⟨g4, 0, none⟩ = some (.slice x2 k2 y2) ∧ w15.drew.cell? ⟨g4, 1, none⟩ = some (.slice u2 l2 v2) ∧ w15.drew.cell? ⟨g8, 0, none⟩ = some (.int .i64 (tx1 + 1)) := ⟨(cell_at E4.out 0).1, (cell_at E4.out 1).1, (cell_at E8.out 0).1⟩
    have HS13 : Hid (∀ wx, Below w15.heap.size w15 wx → wx.cell? ⟨g4, 0, none⟩ = some (.slice x2 k2 y2) ∧ wx.cell? ⟨g4, 1, none⟩ = some (.slice u2 l2 v2) ∧ wx.cell? ⟨g8, 0, none⟩ = some (.int .i64 (tx1 + 1))) := hide (fun wx hb => ⟨(cell_at (staysM E4.out hb) 0).1, (cell_at (staysM E4.out hb) 1).1, (cell_at (staysM E8.out hb) 0).1⟩)
    go_wp2_with fail
    rw [← hwv, ← hgv]
    clear hwv hgv
    refine wp_region_held_drew (S := fun wx => wx.cell? ⟨g4, 0, none⟩ = some (.slice x2 k2 y2) ∧ wx.cell? ⟨g4, 1, none⟩ = some (.slice u2 l2 v2) ∧ wx.cell? ⟨g8, 0, none⟩ = some (.int .i64 (tx1 + 1))) (by kernel_rfl) hS (fun hHeld => ?_)
    refine takeM 0 76 ?_ rfl rfl (by kernel_rfl) (by kernel_rfl) (by kernel_rfl) (fun _ _ _ h => h) (Or.inl ⟨by rfl, ?_⟩) hHeld ?_
    rotate_left
    · (intro wx hSw; (try dsimp only at hSw); go_simp; try with_reducible rfl)
    simp only [List.setIfInBounds_toArray, List.set_cons_zero, List.set_cons_succ]
    refine takeM 1 77 ?_ rfl rfl (by kernel_rfl) (by kernel_rfl) (by kernel_rfl) (fun _ _ _ h => h) (Or.inl ⟨by rfl, ?_⟩) hHeld ?_
    rotate_left
    · (intro wx hSw; (try dsimp only at hSw); go_simp; try with_reducible rfl)
    simp only [List.setIfInBounds_toArray, List.set_cons_zero, List.set_cons_succ]
    refine takeM 2 78 ?_ rfl rfl (by kernel_rfl) (by kernel_rfl) (by kernel_rfl) (fun _ _ _ h => h) (Or.inl ⟨by rfl, ?_⟩) hHeld ?_
    rotate_left
    · (intro wx hSw; (try dsimp only at hSw); go_simp; try with_reducible rfl)
    simp only [List.setIfInBounds_toArray, List.set_cons_zero, List.set_cons_succ]
    refine wpAnyH_ready (rs := [3, 8]) (by kernel_rfl) (by simp) ?_
    refine ready2 rfl rfl ?_
    apply branch2
    · intro hG K hK
      refine step_call1 _ rfl 34 Tryd.f34 Tryd.func34 (by decide) (Option.some_ne_none _) (.tmp 78) #[3] rfl (.int .i64 (tx1 + 1)) rfl _ (HPg.out _) ?_
      rintro e wq ⟨rfl, rfl⟩
      refine ⟨_, rfl, ?_⟩
      refine hK.out (Act.put _ (some 79) _) _ hHeld (fun hHeld => ?_)
      clear hK K
      simp only [Act.put, List.setIfInBounds_toArray, List.set_cons_zero, List.set_cons_succ]
      refine wpAnyH_ready (rs := [4, 8]) (by kernel_rfl) (by simp) ?_
      refine AllReadyH.cons rfl (fun K hK => ?_) (AllReadyH.cons rfl (fun K hK => ?_) AllReadyH.nil)
      · skip
        refine step_call3 _ rfl 33 Tryd.f33 Tryd.func33 (by decide) (Option.some_ne_none _) (.tmp 76) (.tmp 79) (.const (.string ⟨#[120]⟩)) #[49, 3, 9] rfl (.agg #[.slice x2 k2 y2, .slice u2 l2 v2]) (.int .i64 pg2) (.string ⟨#[120]⟩) rfl rfl rfl _ (HWx.out _ ?_) ?_
        · exact disk_below (disk_of_own HDk.out) ((Below.refl _ _).drew)
        rintro e w16 ⟨vv, rfl, hown, hb⟩
        obtain ⟨x3, k3, y3, u3, l3, v3, rfl, -, -⟩ := disk_formB (disk_of_own hown)
        have hb0 : Below w15.heap.size w15 w16 := ((Below.refl _ _).drew).trans (hb.mono (by simp))
        refine ⟨_, rfl, ?_⟩
        refine hK.out (Act.put _ (some 80) _) _ (HS13.out _ hb0) (fun hHeld => ?_)
        clear hK K
        simp only [Act.put, List.setIfInBounds_toArray, List.set_cons_zero, List.set_cons_succ]
        refine takeM 5 75 ?_ rfl rfl (by kernel_rfl) (by kernel_rfl) (by kernel_rfl) (fun _ _ _ h => h) (Or.inl ⟨by rfl, ?_⟩) hHeld ?_
        rotate_left
        · (intro wx hSw; (try dsimp only at hSw); go_simp; try with_reducible rfl)
        simp only [List.setIfInBounds_toArray, List.set_cons_zero, List.set_cons_succ]
        refine takeM 6 81 ?_ rfl rfl (by kernel_rfl) (by kernel_rfl) (by kernel_rfl) (fun _ _ _ h => h) (Or.inl ⟨by rfl, ?_⟩) hHeld ?_
        rotate_left
        · (intro wx hSw; (try dsimp only at hSw); go_simp; try with_reducible rfl)
        simp only [List.setIfInBounds_toArray, List.set_cons_zero, List.set_cons_succ]
        refine takeM 7 82 ?_ rfl rfl (by kernel_rfl) (by kernel_rfl) (by kernel_rfl) (fun _ _ _ h => h) (Or.inl ⟨by rfl, ?_⟩) hHeld ?_
        rotate_left
        · (intro wx hSw; (try dsimp only at hSw); go_simp; try with_reducible rfl)
        simp only [List.setIfInBounds_toArray, List.set_cons_zero, List.set_cons_succ]
        refine wpAnyH_ready (rs := [8]) (by kernel_rfl) (by simp) ?_
        refine AllReadyH.cons rfl (fun K hK => ?_) AllReadyH.nil
        go_simp
        refine hK.out _ _ (HS13.out _ (hb0.alloc hb0.size _)) (fun hHeld => ?_)
        clear hK K
        refine wpAnyH_ready (rs := [9]) (by kernel_rfl) (by simp) ?_
        refine AllReadyH.cons rfl (fun K hK => ?_) AllReadyH.nil
        go_simp
        obtain ⟨wE, hwE⟩ : ∃ ws, ws = w16.alloc (.cells #[.slice x3 k3 y3, .slice u3 l3 v3] 49 (0, 0)) := ⟨_, rfl⟩
        have hbE : Below w16.heap.size w16 wE := by rw [hwE]; exact (Below.refl _ _).alloc (Nat.le_refl _) _
        have HE15 : Hid (Below w15.heap.size w15 wE) := hide (hb0.trans (hbE.mono hb0.size))
        refine hK.out _ _ (by rw [← hwE]; exact HS13.out _ HE15.out) (fun hHeld => ?_)
        clear hK K
        rw [← hwE] at hHeld ⊢
        refine takeM 10 16 ?_ rfl rfl (by kernel_rfl) (by kernel_rfl) (by kernel_rfl) (fun _ _ _ h => h) (Or.inl ⟨by rfl, ?_⟩) hHeld ?_
        rotate_left
        · (intro wx hSw; (try dsimp only at hSw); go_simp; try with_reducible rfl)
        simp only [List.setIfInBounds_toArray, List.set_cons_zero, List.set_cons_succ]
        refine wpAnyH_done (by kernel_rfl) ?_ _
        obtain ⟨g15, hg15⟩ : ∃ g, g = w16.heap.size := ⟨_, rfl⟩
        have E15 : Hid (wE.heap[g15]? = some (.cells #[.slice x3 k3 y3, .slice u3 l3 v3] 49 (0, 0))) := hide (by rw [hwE, hg15]; exact heap_alloc_new w16 _)
        have HDk3 := hide (disk_below (disk_of_own hown) hbE)
        rw [← hg15]
        clear hwE hg15 hbE hown hb hb0 hHeld hG
        have E3 := hide (staysM E3.out HE15.out)
        have E8 := hide (staysM E8.out HE15.out)
        have E11 := hide (staysM E11.out HE15.out)
        have E13 := hide (staysM E13.out HE15.out)
        have HO2 := hide (metaOwn_below HO2.out HE15.out)
        have HO3 := hide (metaOwn_below HO3.out HE15.out)
        have HB : Hid (Below w.heap.size w wE) := hide (HB.out.trans (HE15.out.mono HB.out.size))
        have HM : Hid (Below w1.heap.size w1 wE) := hide (HM.out.trans (HE15.out.mono HM.out.size))
        have HBe := hide (fun wx ht he h => implBestMeta_any (.agg #[.slice x3 k3 y3, .slice u3 l3 v3]) (newP 40) ([(pg, ta)] ++ [(pg2, tb)] ++ [(pg2, ⟨#[120]⟩)]) (by rw [new40_length]; omega) (by simp) new40_size (sizes40 (l := [ta, tb, ⟨#[120]⟩]) rfl (by intro s hs; rcases List.mem_cons.1 hs with e | hs; (rw [e]; exact hza); (rcases List.mem_cons.1 hs with e | hs; (rw [e]; exact hzb); (rw [List.mem_singleton.1 hs]; decide)))) wx ht he h)
        have d0 := (cell_at E15.out 0).1
        have d1 := (cell_at E15.out 1).1
        go_wp2_with fail
        refine (HBe.out _ (sumTab_below HT.out HB.out) (errTab_below HE.out HB.out) HDk3.out).mono ?_
        clear d0 d1 HBe
        rintro e w17 ⟨mo3, vo, ok, rfl, hbm, hmo, hb⟩
        obtain ⟨rfl, rfl⟩ : mo3 = mo ∧ ok = true := by
          rw [HPg0.out, HPg2.out, HTx.out.1] at hbm
          exact bestC (by omega) HG.out.1 hbm
        obtain ⟨tx4, ro4, ne4, a4, n4, c4, rfl⟩ := meta_form6 (meta_of_own hmo)
        obtain ⟨w18, hwv⟩ : ∃ ws, ws = w17.alloc (.cells #[.int .i64 tx4, .int .i64 ro4, .int .i64 ne4, .slice a4 n4 c4] 40 (0, 0)) := ⟨_, rfl⟩
        obtain ⟨g17, hgv⟩ : ∃ g, g = w17.heap.size := ⟨_, rfl⟩
        have hbv : Below w17.heap.size w17 w18 := by rw [hwv]; exact (Below.refl _ _).alloc (Nat.le_refl _) _
        have E17 : Hid (w18.heap[g17]? = some (.cells #[.int .i64 tx4, .int .i64 ro4, .int .i64 ne4, .slice a4 n4 c4] 40 (0, 0))) := hide (by rw [hwv, hgv]; exact heap_alloc_new w17 _)
        have hbw : Below wE.heap.size wE w18 := hb.trans (hbv.mono hb.size)
        have HO4 := hide (meta_below (meta_of_own hmo) hbv)
        have E3 := hide (staysM E3.out hbw)
        have E8 := hide (staysM E8.out hbw)
        have E11 := hide (staysM E11.out hbw)
        have E13 := hide (staysM E13.out hbw)
        have HO2 := hide (metaOwn_below HO2.out hbw)
        have HO3 := hide (metaOwn_below HO3.out hbw)
        have HB : Hid (Below w.heap.size w w18) := hide (HB.out.trans (hbw.mono HB.out.size))
        have HM : Hid (Below w1.heap.size w1 w18) := hide (HM.out.trans (hbw.mono HM.out.size))
        clear hbm hmo hb hbv hbw
        go_wp2_with fail
        rw [← hwv, ← hgv]
        clear hwv hgv
        refine (drawBestMeta_any a len cap _ (code_below HD.out HB.out)).mono ?_
        rintro e w19 ⟨vx, ps, ls, rfl, hdx, b1, b2, b3, b4, hb⟩
        obtain ⟨x5, k5, y5, u5, l5, v5, rfl, -, -⟩ := disk_formB hdx
        have HBi := hide (fun wx ht he h => implBestMeta_any (.agg #[.slice x5 k5 y5, .slice u5 l5 v5]) ps ls b1 b2 b3 b4 wx ht he h)
        have HBs := hide (fun wx h => specBestMeta_any (.agg #[.slice x5 k5 y5, .slice u5 l5 v5]) ps ls b1 b2 b3 b4 wx h)
        obtain ⟨w20, hwv⟩ : ∃ ws, ws = w19.alloc (.cells #[.slice x5 k5 y5, .slice u5 l5 v5] 49 (0, 0)) := ⟨_, rfl⟩
        obtain ⟨g19, hgv⟩ : ∃ g, g = w19.heap.size := ⟨_, rfl⟩
        have hbv : Below w19.heap.size w19 w20 := by rw [hwv]; exact (Below.refl _ _).alloc (Nat.le_refl _) _
        have E19 : Hid (w20.heap[g19]? = some (.cells #[.slice x5 k5 y5, .slice u5 l5 v5] 49 (0, 0))) := hide (by rw [hwv, hgv]; exact heap_alloc_new w19 _)
        have HDx := hide (disk_below hdx hbv)
        have hbw : Below w18.heap.size w18 w20 := hb.trans (hbv.mono hb.size)
        have E3 := hide (staysM E3.out hbw)
        have E8 := hide (staysM E8.out hbw)
        have E11 := hide (staysM E11.out hbw)
        have E13 := hide (staysM E13.out hbw)
        have E17 := hide (staysM E17.out hbw)
        have HO2 := hide (metaOwn_below HO2.out hbw)
        have HO3 := hide (metaOwn_below HO3.out hbw)
        have HO4 := hide (meta_below HO4.out hbw)
        have HB : Hid (Below w.heap.size w w20) := hide (HB.out.trans (hbw.mono HB.out.size))
        have HM : Hid (Below w1.heap.size w1 w20) := hide (HM.out.trans (hbw.mono HM.out.size))
        clear hdx b1 b2 b3 b4 hb hbv hbw
        go_wp2_with fail
        rw [← hwv, ← hgv]
        clear hwv hgv
        refine (HBi.out _ (sumTab_below HT.out HB.out) (errTab_below HE.out HB.out) HDx.out).mono ?_
        rintro e w21 ⟨my, vy, may, rfl, hby, hmy, hb⟩
        obtain ⟨tx6, ro6, ne6, a6, n6, c6, rfl⟩ := meta_form6 (meta_of_own hmy)
        have HBy := hide hby
        obtain ⟨w22, hwv⟩ : ∃ ws, ws = w21.alloc (.cells #[.int .i64 tx6, .int .i64 ro6, .int .i64 ne6, .slice a6 n6 c6] 40 (0, 0)) := ⟨_, rfl⟩
        obtain ⟨g20, hgv⟩ : ∃ g, g = w21.heap.size := ⟨_, rfl⟩
        have hbv : Below w21.heap.size w21 w22 := by rw [hwv]; exact (Below.refl _ _).alloc (Nat.le_refl _) _
        have E20 : Hid (w22.heap[g20]? = some (.cells #[.int .i64 tx6, .int .i64 ro6, .int .i64 ne6, .slice a6 n6 c6] 40 (0, 0))) := hide (by rw [hwv, hgv]; exact heap_alloc_new w21 _)
        have h19 := staysM E19.out hb
        have p0 := (cell_at h19 0).1
        have p1 := (cell_at h19 1).1
        have hl0 : g19 < w21.heap.size := (Array.getElem?_eq_some_iff.1 h19).1
        have hne0 : g19 ≠ w21.heap.size := by omega
        have hbw : Below w20.heap.size w20 w22 := hb.trans (hbv.mono hb.size)
        have E3 := hide (staysM E3.out hbw)
        have E8 := hide (staysM E8.out hbw)
        have E11 := hide (staysM E11.out hbw)
        have E13 := hide (staysM E13.out hbw)
        have E17 := hide (staysM E17.out hbw)
        have HO2 := hide (metaOwn_below HO2.out hbw)
        have HO3 := hide (metaOwn_below HO3.out hbw)
        have HO4 := hide (meta_below HO4.out hbw)
        have HO6 := hide (meta_below (meta_of_own hmy) hbv)
        have HDx := hide (disk_below HDx.out hbw)
        have HB : Hid (Below w.heap.size w w22) := hide (HB.out.trans (hbw.mono HB.out.size))
        have HM : Hid (Below w1.heap.size w1 w22) := hide (HM.out.trans (hbw.mono HM.out.size))
        clear hby hmy hb hbv hbw h19
        go_wp2_with fail
        rw [← hwv, ← hgv]
        clear hwv hgv p0 p1 hl0 hne0
        refine (HBs.out _ HDx.out).mono ?_
        rintro e w23 ⟨mz, vz, want, rfl, hbz, hmz, hb⟩
        obtain ⟨rfl, rfl⟩ := bestM_one hbz HBy.out
        obtain ⟨tx7, ro7, ne7, a7, n7, c7, rfl⟩ := meta_form6 (meta_of_own hmz)
        obtain ⟨s61, s62⟩ := best_smallB hbz
        have HS1 := hide (fun wx h h' => sameMeta_same mo3 HSz.out.1 HSz.out.2 (.agg #[.int .i64 tx2, .int .i64 ro2, .int .i64 ne2, .slice a2 n2 c2]) (.agg #[.int .i64 tx1, .int .i64 ro1, .int .i64 ne1, .slice a1 n1 c1]) wx h h')
        have HS2 := hide (fun wx h h' => sameMeta_same mo2 HSzN.out.1 HSzN.out.2 (.agg #[.int .i64 tx3, .int .i64 ro3, .int .i64 ne3, .slice a3 n3 c3]) (.agg #[.int .i64 (tx1 + 1), .int .i64 ro1, .int .i64 ne1, .slice a1 n1 c1]) wx h h')
        have HS3 := hide (fun wx h h' => sameMeta_same mo3 HSz.out.1 HSz.out.2 (.agg #[.int .i64 tx4, .int .i64 ro4, .int .i64 ne4, .slice a4 n4 c4]) (.agg #[.int .i64 tx1, .int .i64 ro1, .int .i64 ne1, .slice a1 n1 c1]) wx h h')
        have HS4 := hide (fun wx h h' => sameMeta_same mz s61 s62 (.agg #[.int .i64 tx6, .int .i64 ro6, .int .i64 ne6, .slice a6 n6 c6]) (.agg #[.int .i64 tx7, .int .i64 ro7, .int .i64 ne7, .slice a7 n7 c7]) wx h h')
        have HP5 : Hid (∀ wx, Calls Tryd.prog 34 #[.int .i64 5] wx fun e w' => e = .returned (.int .i64 1) ∧ wx = w') := hide (fun wx => implMetaPage_any 5 wx)
        have HP6 : Hid (∀ wx, Calls Tryd.prog 34 #[.int .i64 6] wx fun e w' => e = .returned (.int .i64 0) ∧ wx = w') := hide (fun wx => implMetaPage_any 6 wx)
        obtain ⟨w24, hwv⟩ : ∃ ws, ws = w23.alloc (.cells #[.int .i64 tx7, .int .i64 ro7, .int .i64 ne7, .slice a7 n7 c7] 40 (0, 0)) := ⟨_, rfl⟩
        obtain ⟨g22, hgv⟩ : ∃ g, g = w23.heap.size := ⟨_, rfl⟩
        have hbv : Below w23.heap.size w23 w24 := by rw [hwv]; exact (Below.refl _ _).alloc (Nat.le_refl _) _
        have E22 : Hid (w24.heap[g22]? = some (.cells #[.int .i64 tx7, .int .i64 ro7, .int .i64 ne7, .slice a7 n7 c7] 40 (0, 0))) := hide (by rw [hwv, hgv]; exact heap_alloc_new w23 _)
        have h11 := staysM E11.out hb
        have h3 := staysM E3.out hb
        have hbw : Below w22.heap.size w22 w24 := hb.trans (hbv.mono hb.size)
        have E3 := hide (staysM E3.out hbw)
        have E8 := hide (staysM E8.out hbw)
        have E11 := hide (staysM E11.out hbw)
        have E13 := hide (staysM E13.out hbw)
        have E17 := hide (staysM E17.out hbw)
        have E20 := hide (staysM E20.out hbw)
        have HO2 := hide (meta_below (meta_of_own HO2.out) hbw)
        have HO3 := hide (meta_below (meta_of_own HO3.out) hbw)
        have HO4 := hide (meta_below HO4.out hbw)
        have HO6 := hide (meta_below HO6.out hbw)
        have HO7 := hide (meta_below (meta_of_own hmz) hbv)
        have HB : Hid (Below w.heap.size w w24) := hide (HB.out.trans (hbw.mono HB.out.size))
        have HM : Hid (Below w1.heap.size w1 w24) := hide (HM.out.trans (hbw.mono HM.out.size))
        have dmm : (want == want) = true := by cases want <;> rfl
        have p0 := (cell_at h11 0).1
        have p1 := (cell_at h11 1).1
        have p2 := (cell_at h11 2).1
        have p3 := (cell_at h11 3).1
        have q0 := (cell_at h3 0).1
        have q1 := (cell_at h3 1).1
        have q2 := (cell_at h3 2).1
        have q3 := (cell_at h3 3).1
        have hl0 : g11 < w23.heap.size := (Array.getElem?_eq_some_iff.1 h11).1
        have hne0 : g11 ≠ w23.heap.size := by omega
        have hl1 : g3 < w23.heap.size := (Array.getElem?_eq_some_iff.1 h3).1
        have hne1 : g3 ≠ w23.heap.size := by omega
        clear hbz hmz hb hbv hbw h11 h3 s61 s62
        go_wp2_with fail
        rw [← hwv, ← hgv]
        clear hwv hgv p0 p1 p2 p3 q0 q1 q2 q3 hl0 hne0 hl1 hne1
        refine (HS1.out _ HO2.out (meta_below HA1.out HM.out)).mono ?_
        rintro e w25 ⟨rfl, hb⟩
        have E3 := hide (staysM E3.out hb)
        have E8 := hide (staysM E8.out hb)
        have E13 := hide (staysM E13.out hb)
        have E17 := hide (staysM E17.out hb)
        have E20 := hide (staysM E20.out hb)
        have E22 := hide (staysM E22.out hb)
        have HO3 := hide (meta_below HO3.out hb)
        have HO4 := hide (meta_below HO4.out hb)
        have HO6 := hide (meta_below HO6.out hb)
        have HO7 := hide (meta_below HO7.out hb)
        have HB : Hid (Below w.heap.size w w25) := hide (HB.out.trans (hb.mono HB.out.size))
        have HM : Hid (Below w1.heap.size w1 w25) := hide (HM.out.trans (hb.mono HM.out.size))
        have p0 := (cell_at E13.out 0).1
        have p1 := (cell_at E13.out 1).1
        have p2 := (cell_at E13.out 2).1
        have p3 := (cell_at E13.out 3).1
        have q0 := (cell_at E8.out 0).1
        have q1 := (cell_at E8.out 1).1
        have q2 := (cell_at E8.out 2).1
        have q3 := (cell_at E8.out 3).1
        clear hb
        go_wp2_with fail
        clear p0 p1 p2 p3 q0 q1 q2 q3
        refine (HS2.out _ HO3.out (HAtN.out _ (meta_below HA1.out HM.out))).mono ?_
        rintro e w26 ⟨rfl, hb⟩
        have E3 := hide (staysM E3.out hb)
        have E17 := hide (staysM E17.out hb)
        have E20 := hide (staysM E20.out hb)
        have E22 := hide (staysM E22.out hb)
        have HO4 := hide (meta_below HO4.out hb)
        have HO6 := hide (meta_below HO6.out hb)
        have HO7 := hide (meta_below HO7.out hb)
        have HB : Hid (Below w.heap.size w w26) := hide (HB.out.trans (hb.mono HB.out.size))
        have HM : Hid (Below w1.heap.size w1 w26) := hide (HM.out.trans (hb.mono HM.out.size))
        have p0 := (cell_at E17.out 0).1
        have p1 := (cell_at E17.out 1).1
        have p2 := (cell_at E17.out 2).1
        have p3 := (cell_at E17.out 3).1
        have q0 := (cell_at E3.out 0).1
        have q1 := (cell_at E3.out 1).1
        have q2 := (cell_at E3.out 2).1
        have q3 := (cell_at E3.out 3).1
        clear hb
        go_wp2_with fail
        clear p0 p1 p2 p3 q0 q1 q2 q3
        refine (HS3.out _ HO4.out (meta_below HA1.out HM.out)).mono ?_
        rintro e w27 ⟨rfl, hb⟩
        have E20 := hide (staysM E20.out hb)
        have E22 := hide (staysM E22.out hb)
        have HO6 := hide (meta_below HO6.out hb)
        have HO7 := hide (meta_below HO7.out hb)
        have HB : Hid (Below w.heap.size w w27) := hide (HB.out.trans (hb.mono HB.out.size))
        have p0 := (cell_at E20.out 0).1
        have p1 := (cell_at E20.out 1).1
        have p2 := (cell_at E20.out 2).1
        have p3 := (cell_at E20.out 3).1
        have q0 := (cell_at E22.out 0).1
        have q1 := (cell_at E22.out 1).1
        have q2 := (cell_at E22.out 2).1
        have q3 := (cell_at E22.out 3).1
        clear hb
        go_wp2_with fail
        clear p0 p1 p2 p3 q0 q1 q2 q3
        refine (HS4.out _ HO6.out HO7.out).mono ?_
        rintro e w28 ⟨rfl, hb⟩
        have HB : Hid (Below w.heap.size w w28) := hide (HB.out.trans (hb.mono HB.out.size))
        clear hb
        go_wp2_with fail
        refine (HP5.out _).mono ?_
        rintro e w29 ⟨rfl, rfl⟩
        go_wp2_with fail
        refine (HP6.out _).mono ?_
        rintro e w29 ⟨rfl, rfl⟩
        go_wp2_with fail
        go_ret
        exact ⟨rfl, HB.out⟩
      · skip
        go_simp
        refine hK.out _ _ (HS13.out _ ((Below.refl _ _).drew.alloc (Nat.le_refl _) _)) (fun hHeld => ?_)
        clear hK K
        exact hG
    · intro hG K hK
      go_simp
      refine hK.out _ _ (HS13.out _ ((Below.refl _ _).drew.alloc (Nat.le_refl _) _)) (fun hHeld => ?_)
      clear hK K
      refine wpAnyH_ready (rs := [3]) (by kernel_rfl) (by simp) ?_
      refine AllReadyH.cons rfl (fun K hK => ?_) AllReadyH.nil
      refine step_call1 _ rfl 34 Tryd.f34 Tryd.func34 (by decide) (Option.some_ne_none _) (.tmp 78) #[3] rfl (.int .i64 (tx1 + 1)) rfl _ (HPg.out _) ?_
      rintro e wq ⟨rfl, rfl⟩
      refine ⟨_, rfl, ?_⟩
      refine hK.out (Act.put _ (some 79) _) _ hHeld (fun hHeld => ?_)
      clear hK K
      simp only [Act.put, List.setIfInBounds_toArray, List.set_cons_zero, List.set_cons_succ]
      exact hG
    · refine wpAnyH_ready (rs := [4]) (by kernel_rfl) (by simp) ?_
      refine AllReadyH.cons rfl (fun K hK => ?_) AllReadyH.nil
      refine step_call3 _ rfl 33 Tryd.f33 Tryd.func33 (by decide) (Option.some_ne_none _) (.tmp 76) (.tmp 79) (.const (.string ⟨#[120]⟩)) #[49, 3, 9] rfl (.agg #[.slice x2 k2 y2, .slice u2 l2 v2]) (.int .i64 pg2) (.string ⟨#[120]⟩) rfl rfl rfl _ (HWx.out _ ?_) ?_
      · exact disk_below (disk_of_own HDk.out) ((Below.refl _ _).drew.alloc (Nat.le_refl _) _)
      rintro e w16 ⟨vv, rfl, hown, hb⟩
      obtain ⟨x3, k3, y3, u3, l3, v3, rfl, -, -⟩ := disk_formB (disk_of_own hown)
      have hb0 : Below w15.heap.size w15 w16 := ((Below.refl _ _).drew.alloc (Nat.le_refl _) _).trans (hb.mono (by simp))
      refine ⟨_, rfl, ?_⟩
      refine hK.out (Act.put _ (some 80) _) _ (HS13.out _ hb0) (fun hHeld => ?_)
      clear hK K
      simp only [Act.put, List.setIfInBounds_toArray, List.set_cons_zero, List.set_cons_succ]
      refine takeM 5 75 ?_ rfl rfl (by kernel_rfl) (by kernel_rfl) (by kernel_rfl) (fun _ _ _ h => h) (Or.inl ⟨by rfl, ?_⟩) hHeld ?_
      rotate_left
      · (intro wx hSw; (try dsimp only at hSw); go_simp; try with_reducible rfl)
      simp only [List.setIfInBounds_toArray, List.set_cons_zero, List.set_cons_succ]
      refine takeM 6 81 ?_ rfl rfl (by kernel_rfl) (by kernel_rfl) (by kernel_rfl) (fun _ _ _ h => h) (Or.inl ⟨by rfl, ?_⟩) hHeld ?_
      rotate_left
      · (intro wx hSw; (try dsimp only at hSw); go_simp; try with_reducible rfl)
      simp only [List.setIfInBounds_toArray, List.set_cons_zero, List.set_cons_succ]
      refine takeM 7 82 ?_ rfl rfl (by kernel_rfl) (by kernel_rfl) (by kernel_rfl) (fun _ _ _ h => h) (Or.inl ⟨by rfl, ?_⟩) hHeld ?_
      rotate_left
      · (intro wx hSw; (try dsimp only at hSw); go_simp; try with_reducible rfl)
      simp only [List.setIfInBounds_toArray, List.set_cons_zero, List.set_cons_succ]
      refine wpAnyH_ready (rs := [9]) (by kernel_rfl) (by simp) ?_
      refine AllReadyH.cons rfl (fun K hK => ?_) AllReadyH.nil
      have hE : w16.heap[w15.heap.size]? = some (.cells #[.slice none 0 0, .slice none 0 0] 49 (0, 0)) := staysM (heap_alloc_new w15.drew _) hb
      have e0 := (cell_at hE 0).1
      have e1 := (cell_at hE 1).1
      have z0 := (cell_at hE 0).2
      have z1 := (cell_at hE 1).2
      go_simp
      obtain ⟨wE, hwE⟩ : ∃ ws, ws = (w16.setCell ⟨w15.heap.size, 0, none⟩ (.slice x3 k3 y3)).setCell ⟨w15.heap.size, 1, none⟩ (.slice u3 l3 v3) := ⟨_, rfl⟩
      have ks : Kept w16 wE (fun k => k = w15.heap.size) := by rw [hwE]; exact set2 _ _ _ _
      have HE15 : Hid (Below w15.heap.size w15 wE) := hide (below_set hb0 ks (Nat.le_refl _))
      have hSE := HS13.out _ HE15.out
      rw [hwE] at hSE
      refine hK.out _ _ hSE (fun hHeld => ?_)
      clear hK K hSE
      rw [← hwE] at hHeld ⊢
      refine takeM 10 16 ?_ rfl rfl (by kernel_rfl) (by kernel_rfl) (by kernel_rfl) (fun _ _ _ h => h) (Or.inl ⟨by rfl, ?_⟩) hHeld ?_
      rotate_left
      · (intro wx hSw; (try dsimp only at hSw); go_simp; try with_reducible rfl)
      simp only [List.setIfInBounds_toArray, List.set_cons_zero, List.set_cons_succ]
      refine wpAnyH_done (by kernel_rfl) ?_ _
      have HDk3 := hide (disk_of_own (diskOwn_set hown ks (by simp)))
      obtain ⟨g15, hg15⟩ : ∃ g, g = w15.heap.size := ⟨_, rfl⟩
      have E15 : Hid (wE.heap[g15]? = some (.cells #[.slice x3 k3 y3, .slice u3 l3 v3] 49 (0, 0))) := hide (by rw [hwE, hg15]; exact set2_heap hE)
      rw [← hg15]
      clear hwE hg15 hown hb hb0 hHeld ks hE e0 e1 z0 z1
      have E3 := hide (staysM E3.out HE15.out)
      have E8 := hide (staysM E8.out HE15.out)
      have E11 := hide (staysM E11.out HE15.out)
      have E13 := hide (staysM E13.out HE15.out)
      have HO2 := hide (metaOwn_below HO2.out HE15.out)
      have HO3 := hide (metaOwn_below HO3.out HE15.out)
      have HB : Hid (Below w.heap.size w wE) := hide (HB.out.trans (HE15.out.mono HB.out.size))
      have HM : Hid (Below w1.heap.size w1 wE) := hide (HM.out.trans (HE15.out.mono HM.out.size))
      have HBe := hide (fun wx ht he h => implBestMeta_any (.agg #[.slice x3 k3 y3, .slice u3 l3 v3]) (newP 40) ([(pg, ta)] ++ [(pg2, tb)] ++ [(pg2, ⟨#[120]⟩)]) (by rw [new40_length]; omega) (by simp) new40_size (sizes40 (l := [ta, tb, ⟨#[120]⟩]) rfl (by intro s hs; rcases List.mem_cons.1 hs with e | hs; (rw [e]; exact hza); (rcases List.mem_cons.1 hs with e | hs; (rw [e]; exact hzb); (rw [List.mem_singleton.1 hs]; decide)))) wx ht he h)
      have d0 := (cell_at E15.out 0).1
      have d1 := (cell_at E15.out 1).1
      go_wp2_with fail
      refine (HBe.out _ (sumTab_below HT.out HB.out) (errTab_below HE.out HB.out) HDk3.out).mono ?_
      clear d0 d1 HBe
      rintro e w17 ⟨mo3, vo, ok, rfl, hbm, hmo, hb⟩
      obtain ⟨rfl, rfl⟩ : mo3 = mo ∧ ok = true := by
        rw [HPg0.out, HPg2.out, HTx.out.1] at hbm
        exact bestC (by omega) HG.out.1 hbm
      obtain ⟨tx4, ro4, ne4, a4, n4, c4, rfl⟩ := meta_form6 (meta_of_own hmo)
      obtain ⟨w18, hwv⟩ : ∃ ws, ws = w17.alloc (.cells #[.int .i64 tx4, .int .i64 ro4, .int .i64 ne4, .slice a4 n4 c4] 40 (0, 0)) := ⟨_, rfl⟩
      obtain ⟨g17, hgv⟩ : ∃ g, g = w17.heap.size := ⟨_, rfl⟩
      have hbv : Below w17.heap.size w17 w18 := by rw [hwv]; exact (Below.refl _ _).alloc (Nat.le_refl _) _
      have E17 : Hid (w18.heap[g17]? = some (.cells #[.int .i64 tx4, .int .i64 ro4, .int .i64 ne4, .slice a4 n4 c4] 40 (0, 0))) := hide (by rw [hwv, hgv]; exact heap_alloc_new w17 _)
      have hbw : Below wE.heap.size wE w18 := hb.trans (hbv.mono hb.size)
      have HO4 := hide (meta_below (meta_of_own hmo) hbv)
      have E3 := hide (staysM E3.out hbw)
      have E8 := hide (staysM E8.out hbw)
      have E11 := hide (staysM E11.out hbw)
      have E13 := hide (staysM E13.out hbw)
      have HO2 := hide (metaOwn_below HO2.out hbw)
      have HO3 := hide (metaOwn_below HO3.out hbw)
      have HB : Hid (Below w.heap.size w w18) := hide (HB.out.trans (hbw.mono HB.out.size))
      have HM : Hid (Below w1.heap.size w1 w18) := hide (HM.out.trans (hbw.mono HM.out.size))
      clear hbm hmo hb hbv hbw
      go_wp2_with fail
      rw [← hwv, ← hgv]
      clear hwv hgv
      refine (drawBestMeta_any a len cap _ (code_below HD.out HB.out)).mono ?_
      rintro e w19 ⟨vx, ps, ls, rfl, hdx, b1, b2, b3, b4, hb⟩
      obtain ⟨x5, k5, y5, u5, l5, v5, rfl, -, -⟩ := disk_formB hdx
      have HBi := hide (fun wx ht he h => implBestMeta_any (.agg #[.slice x5 k5 y5, .slice u5 l5 v5]) ps ls b1 b2 b3 b4 wx ht he h)
      have HBs := hide (fun wx h => specBestMeta_any (.agg #[.slice x5 k5 y5, .slice u5 l5 v5]) ps ls b1 b2 b3 b4 wx h)
      obtain ⟨w20, hwv⟩ : ∃ ws, ws = w19.alloc (.cells #[.slice x5 k5 y5, .slice u5 l5 v5] 49 (0, 0)) := ⟨_, rfl⟩
      obtain ⟨g19, hgv⟩ : ∃ g, g = w19.heap.size := ⟨_, rfl⟩
      have hbv : Below w19.heap.size w19 w20 := by rw [hwv]; exact (Below.refl _ _).alloc (Nat.le_refl _) _
      have E19 : Hid (w20.heap[g19]? = some (.cells #[.slice x5 k5 y5, .slice u5 l5 v5] 49 (0, 0))) := hide (by rw [hwv, hgv]; exact heap_alloc_new w19 _)
      have HDx := hide (disk_below hdx hbv)
      have hbw : Below w18.heap.size w18 w20 := hb.trans (hbv.mono hb.size)
      have E3 := hide (staysM E3.out hbw)
      have E8 := hide (staysM E8.out hbw)
      have E11 := hide (staysM E11.out hbw)
      have E13 := hide (staysM E13.out hbw)
      have E17 := hide (staysM E17.out hbw)
      have HO2 := hide (metaOwn_below HO2.out hbw)
      have HO3 := hide (metaOwn_below HO3.out hbw)
      have HO4 := hide (meta_below HO4.out hbw)
      have HB : Hid (Below w.heap.size w w20) := hide (HB.out.trans (hbw.mono HB.out.size))
      have HM : Hid (Below w1.heap.size w1 w20) := hide (HM.out.trans (hbw.mono HM.out.size))
      clear hdx b1 b2 b3 b4 hb hbv hbw
      go_wp2_with fail
      rw [← hwv, ← hgv]
      clear hwv hgv
      refine (HBi.out _ (sumTab_below HT.out HB.out) (errTab_below HE.out HB.out) HDx.out).mono ?_
      rintro e w21 ⟨my, vy, may, rfl, hby, hmy, hb⟩
      obtain ⟨tx6, ro6, ne6, a6, n6, c6, rfl⟩ := meta_form6 (meta_of_own hmy)
      have HBy := hide hby
      obtain ⟨w22, hwv⟩ : ∃ ws, ws = w21.alloc (.cells #[.int .i64 tx6, .int .i64 ro6, .int .i64 ne6, .slice a6 n6 c6] 40 (0, 0)) := ⟨_, rfl⟩
      obtain ⟨g20, hgv⟩ : ∃ g, g = w21.heap.size := ⟨_, rfl⟩
      have hbv : Below w21.heap.size w21 w22 := by rw [hwv]; exact (Below.refl _ _).alloc (Nat.le_refl _) _
      have E20 : Hid (w22.heap[g20]? = some (.cells #[.int .i64 tx6, .int .i64 ro6, .int .i64 ne6, .slice a6 n6 c6] 40 (0, 0))) := hide (by rw [hwv, hgv]; exact heap_alloc_new w21 _)
      have h19 := staysM E19.out hb
      have p0 := (cell_at h19 0).1
      have p1 := (cell_at h19 1).1
      have hl0 : g19 < w21.heap.size := (Array.getElem?_eq_some_iff.1 h19).1
      have hne0 : g19 ≠ w21.heap.size := by omega
      have hbw : Below w20.heap.size w20 w22 := hb.trans (hbv.mono hb.size)
      have E3 := hide (staysM E3.out hbw)
      have E8 := hide (staysM E8.out hbw)
      have E11 := hide (staysM E11.out hbw)
      have E13 := hide (staysM E13.out hbw)
      have E17 := hide (staysM E17.out hbw)
      have HO2 := hide (metaOwn_below HO2.out hbw)
      have HO3 := hide (metaOwn_below HO3.out hbw)
      have HO4 := hide (meta_below HO4.out hbw)
      have HO6 := hide (meta_below (meta_of_own hmy) hbv)
      have HDx := hide (disk_below HDx.out hbw)
      have HB : Hid (Below w.heap.size w w22) := hide (HB.out.trans (hbw.mono HB.out.size))
      have HM : Hid (Below w1.heap.size w1 w22) := hide (HM.out.trans (hbw.mono HM.out.size))
      clear hby hmy hb hbv hbw h19
      go_wp2_with fail
      rw [← hwv, ← hgv]
      clear hwv hgv p0 p1 hl0 hne0
      refine (HBs.out _ HDx.out).mono ?_
      rintro e w23 ⟨mz, vz, want, rfl, hbz, hmz, hb⟩
      obtain ⟨rfl, rfl⟩ := bestM_one hbz HBy.out
      obtain ⟨tx7, ro7, ne7, a7, n7, c7, rfl⟩ := meta_form6 (meta_of_own hmz)
      obtain ⟨s61, s62⟩ := best_smallB hbz
      have HS1 := hide (fun wx h h' => sameMeta_same mo3 HSz.out.1 HSz.out.2 (.agg #[.int .i64 tx2, .int .i64 ro2, .int .i64 ne2, .slice a2 n2 c2]) (.agg #[.int .i64 tx1, .int .i64 ro1, .int .i64 ne1, .slice a1 n1 c1]) wx h h')
      have HS2 := hide (fun wx h h' => sameMeta_same mo2 HSzN.out.1 HSzN.out.2 (.agg #[.int .i64 tx3, .int .i64 ro3, .int .i64 ne3, .slice a3 n3 c3]) (.agg #[.int .i64 (tx1 + 1), .int .i64 ro1, .int .i64 ne1, .slice a1 n1 c1]) wx h h')
      have HS3 := hide (fun wx h h' => sameMeta_same mo3 HSz.out.1 HSz.out.2 (.agg #[.int .i64 tx4, .int .i64 ro4, .int .i64 ne4, .slice a4 n4 c4]) (.agg #[.int .i64 tx1, .int .i64 ro1, .int .i64 ne1, .slice a1 n1 c1]) wx h h')
      have HS4 := hide (fun wx h h' => sameMeta_same mz s61 s62 (.agg #[.int .i64 tx6, .int .i64 ro6, .int .i64 ne6, .slice a6 n6 c6]) (.agg #[.int .i64 tx7, .int .i64 ro7, .int .i64 ne7, .slice a7 n7 c7]) wx h h')
      have HP5 : Hid (∀ wx, Calls Tryd.prog 34 #[.int .i64 5] wx fun e w' => e = .returned (.int .i64 1) ∧ wx = w') := hide (fun wx => implMetaPage_any 5 wx)
      have HP6 : Hid (∀ wx, Calls Tryd.prog 34 #[.int .i64 6] wx fun e w' => e = .returned (.int .i64 0) ∧ wx = w') := hide (fun wx => implMetaPage_any 6 wx)
      obtain ⟨w24, hwv⟩ : ∃ ws, ws = w23.alloc (.cells #[.int .i64 tx7, .int .i64 ro7, .int .i64 ne7, .slice a7 n7 c7] 40 (0, 0)) := ⟨_, rfl⟩
      obtain ⟨g22, hgv⟩ : ∃ g, g = w23.heap.size := ⟨_, rfl⟩
      have hbv : Below w23.heap.size w23 w24 := by rw [hwv]; exact (Below.refl _ _).alloc (Nat.le_refl _) _
      have E22 : Hid (w24.heap[g22]? = some (.cells #[.int .i64 tx7, .int .i64 ro7, .int .i64 ne7, .slice a7 n7 c7] 40 (0, 0))) := hide (by rw [hwv, hgv]; exact heap_alloc_new w23 _)
      have h11 := staysM E11.out hb
      have h3 := staysM E3.out hb
      have hbw : Below w22.heap.size w22 w24 := hb.trans (hbv.mono hb.size)
      have E3 := hide (staysM E3.out hbw)
      have E8 := hide (staysM E8.out hbw)
      have E11 := hide (staysM E11.out hbw)
      have E13 := hide (staysM E13.out hbw)
      have E17 := hide (staysM E17.out hbw)
      have E20 := hide (staysM E20.out hbw)
      have HO2 := hide (meta_below (meta_of_own HO2.out) hbw)
      have HO3 := hide (meta_below (meta_of_own HO3.out) hbw)
      have HO4 := hide (meta_below HO4.out hbw)
      have HO6 := hide (meta_below HO6.out hbw)
      have HO7 := hide (meta_below (meta_of_own hmz) hbv)
      have HB : Hid (Below w.heap.size w w24) := hide (HB.out.trans (hbw.mono HB.out.size))
      have HM : Hid (Below w1.heap.size w1 w24) := hide (HM.out.trans (hbw.mono HM.out.size))
      have dmm : (want == want) = true := by cases want <;> rfl
      have p0 := (cell_at h11 0).1
      have p1 := (cell_at h11 1).1
      have p2 := (cell_at h11 2).1
      have p3 := (cell_at h11 3).1
      have q0 := (cell_at h3 0).1
      have q1 := (cell_at h3 1).1
      have q2 := (cell_at h3 2).1
      have q3 := (cell_at h3 3).1
      have hl0 : g11 < w23.heap.size := (Array.getElem?_eq_some_iff.1 h11).1
      have hne0 : g11 ≠ w23.heap.size := by omega
      have hl1 : g3 < w23.heap.size := (Array.getElem?_eq_some_iff.1 h3).1
      have hne1 : g3 ≠ w23.heap.size := by omega
      clear hbz hmz hb hbv hbw h11 h3 s61 s62
      go_wp2_with fail
      rw [← hwv, ← hgv]
      clear hwv hgv p0 p1 p2 p3 q0 q1 q2 q3 hl0 hne0 hl1 hne1
      refine (HS1.out _ HO2.out (meta_below HA1.out HM.out)).mono ?_
      rintro e w25 ⟨rfl, hb⟩
      have E3 := hide (staysM E3.out hb)
      have E8 := hide (staysM E8.out hb)
      have E13 := hide (staysM E13.out hb)
      have E17 := hide (staysM E17.out hb)
      have E20 := hide (staysM E20.out hb)
      have E22 := hide (staysM E22.out hb)
      have HO3 := hide (meta_below HO3.out hb)
      have HO4 := hide (meta_below HO4.out hb)
      have HO6 := hide (meta_below HO6.out hb)
      have HO7 := hide (meta_below HO7.out hb)
      have HB : Hid (Below w.heap.size w w25) := hide (HB.out.trans (hb.mono HB.out.size))
      have HM : Hid (Below w1.heap.size w1 w25) := hide (HM.out.trans (hb.mono HM.out.size))
      have p0 := (cell_at E13.out 0).1
      have p1 := (cell_at E13.out 1).1
      have p2 := (cell_at E13.out 2).1
      have p3 := (cell_at E13.out 3).1
      have q0 := (cell_at E8.out 0).1
      have q1 := (cell_at E8.out 1).1
      have q2 := (cell_at E8.out 2).1
      have q3 := (cell_at E8.out 3).1
      clear hb
      go_wp2_with fail
      clear p0 p1 p2 p3 q0 q1 q2 q3
      refine (HS2.out _ HO3.out (HAtN.out _ (meta_below HA1.out HM.out))).mono ?_
      rintro e w26 ⟨rfl, hb⟩
      have E3 := hide (staysM E3.out hb)
      have E17 := hide (staysM E17.out hb)
      have E20 := hide (staysM E20.out hb)
      have E22 := hide (staysM E22.out hb)
      have HO4 := hide (meta_below HO4.out hb)
      have HO6 := hide (meta_below HO6.out hb)
      have HO7 := hide (meta_below HO7.out hb)
      have HB : Hid (Below w.heap.size w w26) := hide (HB.out.trans (hb.mono HB.out.size))
      have HM : Hid (Below w1.heap.size w1 w26) := hide (HM.out.trans (hb.mono HM.out.size))
      have p0 := (cell_at E17.out 0).1
      have p1 := (cell_at E17.out 1).1
      have p2 := (cell_at E17.out 2).1
      have p3 := (cell_at E17.out 3).1
      have q0 := (cell_at E3.out 0).1
      have q1 := (cell_at E3.out 1).1
      have q2 := (cell_at E3.out 2).1
      have q3 := (cell_at E3.out 3).1
      clear hb
      go_wp2_with fail
      clear p0 p1 p2 p3 q0 q1 q2 q3
      refine (HS3.out _ HO4.out (meta_below HA1.out HM.out)).mono ?_
      rintro e w27 ⟨rfl, hb⟩
      have E20 := hide (staysM E20.out hb)
      have E22 := hide (staysM E22.out hb)
      have HO6 := hide (meta_below HO6.out hb)
      have HO7 := hide (meta_below HO7.out hb)
      have HB : Hid (Below w.heap.size w w27) := hide (HB.out.trans (hb.mono HB.out.size))
      have p0 := (cell_at E20.out 0).1
      have p1 := (cell_at E20.out 1).1
      have p2 := (cell_at E20.out 2).1
      have p3 := (cell_at E20.out 3).1
      have q0 := (cell_at E22.out 0).1
      have q1 := (cell_at E22.out 1).1
      have q2 := (cell_at E22.out 2).1
      have q3 := (cell_at E22.out 3).1
      clear hb
      go_wp2_with fail
      clear p0 p1 p2 p3 q0 q1 q2 q3
      refine (HS4.out _ HO6.out HO7.out).mono ?_
      rintro e w28 ⟨rfl, hb⟩
      have HB : Hid (Below w.heap.size w w28) := hide (HB.out.trans (hb.mono HB.out.size))
      clear hb
      go_wp2_with fail
      refine (HP5.out _).mono ?_
      rintro e w29 ⟨rfl, rfl⟩
      go_wp2_with fail
      refine (HP6.out _).mono ?_
      rintro e w29 ⟨rfl, rfl⟩
      go_wp2_with fail
      go_ret
      exact ⟨rfl, HB.out⟩
end Go.Proofs.YtglcfaibgjiigaaDoor
