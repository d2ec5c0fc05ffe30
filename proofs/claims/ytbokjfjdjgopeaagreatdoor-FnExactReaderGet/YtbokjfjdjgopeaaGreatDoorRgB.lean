/-
  Several texts in one. Disks (pages and what is late), read only ('DiskAt') or in new memory ('DiskOwn'), and the laws' own helpers over them by contracts: szDisk, toDisk, eqDisk, markDisk, heldDisk. · What a law holds over its calls: facts on blocks of an interval ('Held'), which stay where nothing of that interval is turned. · Rows of ints in memory of one's own that may begin in the midst of their block ('IntOwn'), and laws.markIntS over such a row by a contract. · Works (a disk, the next page, usable, gone and fresh pages), read only ('WorkAt') or in new memory ('WorkOwn'), and the laws' own helpers over them by contracts: szWork, toWork, eqWork, heldWork, markWork.
-/
import Derived.Test.YtbokjfjdjgopeaaGreatDoorNode
namespace Go.Proofs.YtbokjfjdjgopeaaGreatDoor
open Go.RowKit

/-- a disk that reads so -/
def DiskAt (w : World) (v : Value) (ps : List ByteArray) (ls : List (Int × ByteArray)) : Prop :=
  ∃ vp vl, v = .agg #[vp, vl] ∧ RowAt w 1 vp ps.length (strs ps) ∧ RowAt w 2 vl ls.length (puts ls)

/-- a disk in memory of its own -/
def DiskOwn (w : World) (B : Nat) (v : Value) (ps : List ByteArray) (ls : List (Int × ByteArray)) : Prop :=
  ∃ vp vl, v = .agg #[vp, vl] ∧ w.ownsRow B 9 1 vp ps.length (strs ps) ∧ w.ownsRow B 126 2 vl ls.length (puts ls)

theorem disk_of_own {w : World} {B : Nat} {v : Value} {ps : List ByteArray} {ls : List (Int × ByteArray)} (h : DiskOwn w B v ps ls) : DiskAt w v ps ls := by
  obtain ⟨vp, vl, e, h1, h2⟩ := h
  exact ⟨vp, vl, e, row_of_own h1, row_of_own h2⟩

theorem disk_below {w w' : World} {v : Value} {ps : List ByteArray} {ls : List (Int × ByteArray)} (h : DiskAt w v ps ls) (hb : Below w.heap.size w w') : DiskAt w' v ps ls := by
  obtain ⟨vp, vl, e, h1, h2⟩ := h
  exact ⟨vp, vl, e, row_below h1 hb, row_below h2 hb⟩

theorem diskOwn_below {w w' : World} {B : Nat} {v : Value} {ps : List ByteArray} {ls : List (Int × ByteArray)} (h : DiskOwn w B v ps ls) (hb : Below w.heap.size w w') : DiskOwn w' B v ps ls := by
  obtain ⟨vp, vl, e, h1, h2⟩ := h
  exact ⟨vp, vl, e, own_stays h1 hb, own_stays h2 hb⟩

/-- the blocks of a disk's two rows -/
def diskBlocks (v : Value) (k : Nat) : Prop := ∃ vp vl, v = .agg #[vp, vl] ∧ (vp.ownBlock = some k ∨ vl.ownBlock = some k)

theorem disk_kept {w w' : World} {v : Value} {ps : List ByteArray} {ls : List (Int × ByteArray)} {S : Nat → Prop} (h : DiskAt w v ps ls) (hk : Kept w w' S) (hS : ∀ k, k < w.heap.size → diskBlocks v k → ¬ S k) : DiskAt w' v ps ls := by
  obtain ⟨vp, vl, rfl, h1, h2⟩ := h
  exact ⟨vp, vl, rfl, row_kept h1 hk (Or.inr fun k hlt e => hS k hlt ⟨vp, vl, rfl, Or.inl e⟩), row_kept h2 hk (Or.inr fun k hlt e => hS k hlt ⟨vp, vl, rfl, Or.inr e⟩)⟩

theorem diskOwn_kept {w w' : World} {B : Nat} {v : Value} {ps : List ByteArray} {ls : List (Int × ByteArray)} {S : Nat → Prop} (h : DiskOwn w B v ps ls) (hk : Kept w w' S) (hS : ∀ k, diskBlocks v k → ¬ S k) : DiskOwn w' B v ps ls := by
  obtain ⟨vp, vl, rfl, h1, h2⟩ := h
  exact ⟨vp, vl, rfl, own_kept h1 hk (fun k e => hS k ⟨vp, vl, rfl, Or.inl e⟩), own_kept h2 hk (fun k e => hS k ⟨vp, vl, rfl, Or.inr e⟩)⟩

theorem diskOwn_lt {w : World} {B : Nat} {v : Value} {ps : List ByteArray} {ls : List (Int × ByteArray)} (h : DiskOwn w B v ps ls) : ∀ k, diskBlocks v k → B ≤ k ∧ k < w.heap.size := by
  obtain ⟨vp, vl, rfl, h1, h2⟩ := h
  rintro k ⟨vp', vl', e, hk⟩
  have e2 : vp = vp' ∧ vl = vl' := by injection e with e; injection e with e; injection e with e1 e; injection e with e2; exact ⟨e1, e2⟩
  obtain ⟨rfl, rfl⟩ := e2
  rcases hk with hk | hk
  · exact h1.lt k hk
  · exact h2.lt k hk

set_option maxHeartbeats 400000 in
theorem szDisk_any (v : Value) (ps : List ByteArray) (ls : List (Int × ByteArray)) (hp : ps.length ≤ maxLen) (hps : ∀ s ∈ ps, s.size ≤ maxLen) (hl : ls.length ≤ maxLen) (hls : ∀ p ∈ ls, p.2.size ≤ maxLen) (left : Nat) (hleft : left ≤ 1048576) (w : World) (hd : DiskAt w v ps ls) :
    Calls Tryz.prog 9 #[v, .int .i64 (left : Int)] w fun e w' => e = .returned (.int .i64 (szOut left (bulkS ps + bulkP ls))) ∧ Below w.heap.size w w' := by
  obtain ⟨vp, vl, rfl, h1, h2⟩ := hd
  have hbB : ∀ o : Obj, Below w.heap.size w (w.alloc o) := fun o => (Below.refl w.heap.size w).alloc (Nat.le_refl _) _
  have HB := hide hbB
  have HC1 := hide (fun wx h => szStringS_any ps hp hps vp left hleft wx h)
  have H1 := hide h1
  have H2 := hide h2
  have HP := hide (⟨hl, hls⟩ : ls.length ≤ maxLen ∧ ∀ p ∈ ls, p.2.size ≤ maxLen)
  clear hp hps hl hls h1 h2 hbB
  by_cases hn : left < bulkS ps
  · have HO : Hid (szOut left (bulkS ps + bulkP ls) = -1) := hide (szOut_no (by omega))
    rw [szOut_no hn] at HC1
    go_enter Tryz.func9, Tryz.ntmps9
    go_wp2_with fail
    refine (HC1.out _ (row_below H1.out (HB.out _))).mono ?_
    rintro e w1 ⟨rfl, rfl⟩
    go_wp2_with fail
    go_ret
    rw [HO.out]
    exact ⟨rfl, HB.out _⟩
  · obtain ⟨m, hm⟩ : ∃ m, m = left - bulkS ps := ⟨_, rfl⟩
    rw [szOut_yes (by omega), ← hm] at HC1
    have hml : m ≤ 1048576 := by omega
    have HC2 := hide (fun wx h => szPutS_any ls HP.out.1 HP.out.2 vl m hml wx h)
    by_cases hn2 : m < bulkP ls
    · have HO : Hid (szOut left (bulkS ps + bulkP ls) = -1) := hide (szOut_no (by omega))
      rw [szOut_no hn2] at HC2
      clear hm hn hn2
      go_enter Tryz.func9, Tryz.ntmps9
      go_wp2_with fail
      refine (HC1.out _ (row_below H1.out (HB.out _))).mono ?_
      rintro e w1 ⟨rfl, rfl⟩
      go_wp2_with fail
      refine (HC2.out _ (row_below H2.out (HB.out _))).mono ?_
      rintro e w2 ⟨rfl, hb2⟩
      go_wp2_with fail
      go_ret
      rw [HO.out]
      exact ⟨rfl, (HB.out _).trans (hb2.mono (HB.out _).size)⟩
    · obtain ⟨r, hr⟩ : ∃ r, r = m - bulkP ls := ⟨_, rfl⟩
      rw [szOut_yes (by omega), ← hr] at HC2
      have hrl : r ≤ 1048576 := by omega
      have HO : Hid (szOut left (bulkS ps + bulkP ls) = (r : Int)) := hide (by rw [szOut_yes (by omega)]; congr 1; omega)
      clear hm hn hn2 hr
      go_enter Tryz.func9, Tryz.ntmps9
      go_wp2_with fail
      refine (HC1.out _ (row_below H1.out (HB.out _))).mono ?_
      rintro e w1 ⟨rfl, rfl⟩
      go_wp2_with fail
      refine (HC2.out _ (row_below H2.out (HB.out _))).mono ?_
      rintro e w2 ⟨rfl, hb2⟩
      go_wp2_with fail
      go_ret
      rw [HO.out]
      exact ⟨rfl, (HB.out _).trans (hb2.mono (HB.out _).size)⟩

set_option maxHeartbeats 1000000 in
theorem toDisk_any (v : Value) (ps : List ByteArray) (ls : List (Int × ByteArray)) (hp : ps.length ≤ 1048576) (hl : ls.length ≤ 1048576) (w : World) (hd : DiskAt w v ps ls) :
    Calls Tryz.prog 15 #[v] w fun e w' => ∃ v', e = .returned v' ∧ DiskOwn w' w.heap.size v' ps ls ∧ Below w.heap.size w w' := by
  obtain ⟨vp, vl, rfl, h1, h2⟩ := hd
  have HC1 := hide (fun wx h => toStringS_any ps hp vp wx h)
  have HC2 := hide (fun wx h => toPutS_any ls hl vl wx h)
  have H1 := hide h1
  have H2 := hide h2
  clear h1 h2 hp hl
  obtain ⟨w0, hw0⟩ : ∃ w0, w0 = ((w.alloc (Obj.cells #[vp, vl] 25)).alloc (Obj.cells #[.slice none 0 0, .slice none 0 0] 42)).alloc (Obj.cells #[.slice none 0 0, .slice none 0 0] 42) := ⟨_, rfl⟩
  have hb0 : Below w.heap.size w w0 := by rw [hw0]; exact (((Below.refl w.heap.size w).alloc (Nat.le_refl _) _).alloc (by simp) _).alloc (by simp; omega) _
  go_enter Tryz.func15, Tryz.ntmps15
  go_wp2_with fail
  rw [← hw0]
  refine (HC1.out _ (row_below H1.out hb0)).mono ?_
  rintro e w1 ⟨u1, rfl, hown1, hb1⟩
  obtain ⟨x1, c1, rfl⟩ := own_slice hown1
  obtain ⟨q0, q1, q2, hs0⟩ := three_allocs w (Obj.cells #[vp, vl] 25) (Obj.cells #[.slice none 0 0, .slice none 0 0] 42) (Obj.cells #[.slice none 0 0, .slice none 0 0] 42)
  rw [← hw0] at q0 q1 q2 hs0
  obtain ⟨a0, ha0⟩ : ∃ a, a = w.heap.size := ⟨_, rfl⟩
  rw [← ha0] at q0 q1 q2 hs0 ⊢
  obtain ⟨a1, ha1⟩ : ∃ a, a = a0 + 1 := ⟨_, rfl⟩
  obtain ⟨a2, ha2⟩ : ∃ a, a = a0 + 1 + 1 := ⟨_, rfl⟩
  rw [← ha2, ← ha1]
  rw [← ha1] at q1
  rw [← ha2] at q2
  have HW0 := hide hw0
  have HA := hide (⟨ha0, ha1, ha2, hs0⟩ : a0 = w.heap.size ∧ a1 = a0 + 1 ∧ a2 = a0 + 1 + 1 ∧ w0.heap.size = a0 + 3)
  have HB0 := hide hb0
  have r0 := (hb1.block a0 (by omega)).trans q0
  have r1 := (hb1.block a1 (by omega)).trans q1
  have r2 := (hb1.block a2 (by omega)).trans q2
  have hn20 : a2 ≠ a0 := by omega
  have hn21 : a2 ≠ a1 := by omega
  have hn10 : a1 ≠ a0 := by omega
  have HN := hide (⟨hn20, hn21, hn10⟩ : a2 ≠ a0 ∧ a2 ≠ a1 ∧ a1 ≠ a0)
  clear hw0 ha0 ha1 ha2 hs0 hb0 q0 q1 q2
  have s2 : (w1.setCell ⟨a2, 0, none⟩ (.slice x1 ps.length c1)).heap[a2]? = some (Obj.cells #[(.slice x1 ps.length c1), .slice none 0 0] 42) := heap_setCell_same w1 a2 0 _ _ _ r2
  have s0 : (w1.setCell ⟨a2, 0, none⟩ (.slice x1 ps.length c1)).heap[a0]? = some (Obj.cells #[vp, vl] 25) := (heap_setCell_other w1 ⟨a2, 0, none⟩ a0 (.slice x1 ps.length c1) (by exact fun e => hn20 e.symm)).trans r0
  have s1 : (w1.setCell ⟨a2, 0, none⟩ (.slice x1 ps.length c1)).heap[a1]? = some (Obj.cells #[.slice none 0 0, .slice none 0 0] 42) := (heap_setCell_other w1 ⟨a2, 0, none⟩ a1 (.slice x1 ps.length c1) (by exact fun e => hn21 e.symm)).trans r1
  have c20 : w1.cell? ⟨a2, 0, none⟩ = some (.slice none 0 0) := (cell_at r2 0).1
  have f20 := (cell_at r2 0).2
  have c01 : (w1.setCell ⟨a2, 0, none⟩ (.slice x1 ps.length c1)).cell? ⟨a0, 1, none⟩ = some vl := (cell_at s0 1).1
  have HB1 := hide hb1
  have HO1 := hide hown1
  have HR := hide (⟨s0, s1, s2⟩ : (w1.setCell ⟨a2, 0, none⟩ (.slice x1 ps.length c1)).heap[a0]? = some (Obj.cells #[vp, vl] 25) ∧ (w1.setCell ⟨a2, 0, none⟩ (.slice x1 ps.length c1)).heap[a1]? = some (Obj.cells #[.slice none 0 0, .slice none 0 0] 42) ∧ (w1.setCell ⟨a2, 0, none⟩ (.slice x1 ps.length c1)).heap[a2]? = some (Obj.cells #[(.slice x1 ps.length c1), .slice none 0 0] 42))
  clear hb1 hown1 r0 r1 r2 s0 s1 s2 hn20 hn21 hn10
  go_wp2_with fail
  have HB2 : Hid (Below w.heap.size w (w1.setCell ⟨a2, 0, none⟩ (.slice x1 ps.length c1))) := hide ((HB0.out.trans (HB1.out.mono HB0.out.size)).setCell (by have := HA.out; show _ ≤ a2; omega) _)
  refine (HC2.out _ (row_below H2.out HB2.out)).mono ?_
  rintro e w3 ⟨u2, rfl, hown2, hb3⟩
  obtain ⟨x2, c2, rfl⟩ := own_slice hown2
  have hsz : (w1.setCell ⟨a2, 0, none⟩ (.slice x1 ps.length c1)).heap.size = w1.heap.size := by simp
  have hlt2 : a2 < (w1.setCell ⟨a2, 0, none⟩ (.slice x1 ps.length c1)).heap.size := (Array.getElem?_eq_some_iff.1 HR.out.2.2).1
  have hlt1 : a1 < (w1.setCell ⟨a2, 0, none⟩ (.slice x1 ps.length c1)).heap.size := (Array.getElem?_eq_some_iff.1 HR.out.2.1).1
  have t1 := (hb3.block a1 hlt1).trans HR.out.2.1
  have t2 := (hb3.block a2 hlt2).trans HR.out.2.2
  have d21 : w3.cell? ⟨a2, 1, none⟩ = some (.slice none 0 0) := (cell_at t2 1).1
  have f21 := (cell_at t2 1).2
  have v2 : (w3.setCell ⟨a2, 1, none⟩ (.slice x2 ls.length c2)).heap[a2]? = some (Obj.cells #[.slice x1 ps.length c1, .slice x2 ls.length c2] 42) := heap_setCell_same w3 a2 1 _ _ _ t2
  have v1 : (w3.setCell ⟨a2, 1, none⟩ (.slice x2 ls.length c2)).heap[a1]? = some (Obj.cells #[.slice none 0 0, .slice none 0 0] 42) := (heap_setCell_other w3 ⟨a2, 1, none⟩ a1 _ (by exact fun e => HN.out.2.1 e.symm)).trans t1
  have e20 : (w3.setCell ⟨a2, 1, none⟩ (.slice x2 ls.length c2)).cell? ⟨a2, 0, none⟩ = some (.slice x1 ps.length c1) := (cell_at v2 0).1
  have e21 : (w3.setCell ⟨a2, 1, none⟩ (.slice x2 ls.length c2)).cell? ⟨a2, 1, none⟩ = some (.slice x2 ls.length c2) := (cell_at v2 1).1
  have e10 : (w3.setCell ⟨a2, 1, none⟩ (.slice x2 ls.length c2)).cell? ⟨a1, 0, none⟩ = some (.slice none 0 0) := (cell_at v1 0).1
  have e11 : (w3.setCell ⟨a2, 1, none⟩ (.slice x2 ls.length c2)).cell? ⟨a1, 1, none⟩ = some (.slice none 0 0) := (cell_at v1 1).1
  have g10 := (cell_at v1 0).2
  have g11 := (cell_at v1 1).2
  have HB3 := hide hb3
  have HO2 := hide hown2
  have HV := hide v1
  clear hb3 hown2 t1 t2 v1 v2 hlt1 hlt2 hsz
  go_wp2_with fail
  have y1 : ((w3.setCell ⟨a2, 1, none⟩ (.slice x2 ls.length c2)).setCell ⟨a1, 0, none⟩ (.slice x1 ps.length c1)).heap[a1]? = some (Obj.cells #[.slice x1 ps.length c1, .slice none 0 0] 42) := heap_setCell_same _ a1 0 _ _ _ HV.out
  have y2 : (((w3.setCell ⟨a2, 1, none⟩ (.slice x2 ls.length c2)).setCell ⟨a1, 0, none⟩ (.slice x1 ps.length c1)).setCell ⟨a1, 1, none⟩ (.slice x2 ls.length c2)).heap[a1]? = some (Obj.cells #[.slice x1 ps.length c1, .slice x2 ls.length c2] 42) := heap_setCell_same _ a1 1 _ _ _ y1
  have z0 := (cell_at y2 0).1
  have z1 := (cell_at y2 1).1
  have hA := HA.out
  have k1 : Kept w1 (w1.setCell ⟨a2, 0, none⟩ (.slice x1 ps.length c1)) (fun k => k = a1 ∨ k = a2) := kept_mono (kept_setCell _ _ _ _) (fun j _ h => Or.inr h)
  have k2 : Kept w3 (((w3.setCell ⟨a2, 1, none⟩ (.slice x2 ls.length c2)).setCell ⟨a1, 0, none⟩ (.slice x1 ps.length c1)).setCell ⟨a1, 1, none⟩ (.slice x2 ls.length c2)) (fun k => k = a1 ∨ k = a2) := kept_trans (kept_trans (kept_mono (kept_setCell _ _ _ _) (fun j _ h => Or.inr h)) (kept_setCell _ _ _ _) (fun j _ h => Or.inl h)) (kept_setCell _ _ _ _) (fun j _ h => Or.inl h)
  have k3 := kept_trans (kept_trans k1 (kept_of_all HB3.out (fun _ => False)) (fun j _ h => h.elim)) k2 (fun j _ h => h)
  refine bodyPost_ret (v := .agg #[.slice x1 ps.length c1, .slice x2 ls.length c2]) (by simp [results, Tryz.results15, go_sem, z0, z1]) rfl ⟨_, rfl, ⟨_, _, rfl, ?_, ?_⟩, ?_⟩
  · exact own_down (own_kept HO1.out k3 (fun k hk => by have := (HO1.out.lt k hk).1; omega)) (by omega)
  · refine own_down (own_kept HO2.out k2 (fun k hk => by have h1 := (HO2.out.lt k hk).1; have h2 := HB1.out.size; simp at h1; omega)) (by have h2 := HB1.out.size; simp; omega)
  · refine ((((HB2.out.trans (HB3.out.mono HB2.out.size)).setCell ?_ _).setCell ?_ _).setCell ?_ _)
    · show _ ≤ a2; omega
    · show _ ≤ a1; omega
    · show _ ≤ a1; omega

set_option maxHeartbeats 1000000 in
theorem eqDisk_any (v u : Value) (ps qs : List ByteArray) (ls ms : List (Int × ByteArray)) (hp : ps.length ≤ 9223372036854775807) (hq : qs.length ≤ 9223372036854775807) (hl : ls.length ≤ 9223372036854775807) (hm : ms.length ≤ 9223372036854775807) (w : World) (hd : DiskAt w v ps ls) (hu : DiskAt w u qs ms) :
    Calls Tryz.prog 22 #[v, u] w fun e w' => e = .returned (.bool (decide ((ps, ls) = (qs, ms)))) ∧ Below w.heap.size w w' := by
  obtain ⟨vp, vl, rfl, h1, h2⟩ := hd
  obtain ⟨up, ul, rfl, h3, h4⟩ := hu
  have HC1 := hide (fun wx h h' => eqStringS_row ps qs hp hq vp up wx h h')
  have HC2 := hide (fun wx h h' => eqPutS_row ls ms hl hm vl ul wx h h')
  have HR := hide (⟨h1, h2, h3, h4⟩ : RowAt w 1 vp ps.length (strs ps) ∧ RowAt w 2 vl ls.length (puts ls) ∧ RowAt w 1 up qs.length (strs qs) ∧ RowAt w 2 ul ms.length (puts ms))
  clear h1 h2 h3 h4 hp hq hl hm
  obtain ⟨w0, hw0⟩ : ∃ w0, w0 = (w.alloc (Obj.cells #[vp, vl] 42)).alloc (Obj.cells #[up, ul] 42) := ⟨_, rfl⟩
  have hb0 : Below w.heap.size w w0 := by rw [hw0]; exact ((Below.refl w.heap.size w).alloc (Nat.le_refl _) _).alloc (by simp) _
  obtain ⟨q0, q1, hs0⟩ := two_allocs w (Obj.cells #[vp, vl] 42) (Obj.cells #[up, ul] 42)
  rw [← hw0] at q0 q1 hs0
  have HB0 := hide hb0
  have HQ := hide (⟨q0, q1, hs0⟩ : w0.heap[w.heap.size]? = some (Obj.cells #[vp, vl] 42) ∧ w0.heap[w.heap.size + 1]? = some (Obj.cells #[up, ul] 42) ∧ w0.heap.size = w.heap.size + 2)
  clear hb0 q0 q1 hs0
  by_cases h1 : ps = qs
  · rw [decide_eq_true h1] at HC1
    go_enter Tryz.func22, Tryz.ntmps22
    go_wp2_with fail
    rw [← hw0]
    refine (HC1.out _ (row_below HR.out.1 HB0.out) (row_below HR.out.2.2.1 HB0.out)).mono ?_
    rintro e w1 ⟨rfl, hb1⟩
    have HB1 : Hid (Below w.heap.size w w1) := hide (HB0.out.trans (hb1.mono HB0.out.size))
    have c0 : w1.cell? ⟨w.heap.size, 1, none⟩ = some vl := (cell_at ((hb1.block _ (by rw [HQ.out.2.2]; omega)).trans HQ.out.1) 1).1
    have c1 : w1.cell? ⟨w.heap.size + 1, 1, none⟩ = some ul := (cell_at ((hb1.block _ (by rw [HQ.out.2.2]; omega)).trans HQ.out.2.1) 1).1
    have HW := hide hw0
    clear hb1 hw0
    by_cases h2 : ls = ms
    · rw [decide_eq_true h2] at HC2
      have HD : Hid (decide ((ps, ls) = (qs, ms)) = true) := hide (by rw [h1, h2]; simp)
      clear h1 h2
      go_wp2_with fail
      refine (HC2.out _ (row_below HR.out.2.1 HB1.out) (row_below HR.out.2.2.2 HB1.out)).mono ?_
      rintro e w2 ⟨rfl, hb2⟩
      go_wp2_with fail
      go_ret
      rw [HD.out]
      exact ⟨rfl, HB1.out.trans (hb2.mono HB1.out.size)⟩
    · rw [decide_eq_false h2] at HC2
      have HD : Hid (decide ((ps, ls) = (qs, ms)) = false) := hide (by simp [h2])
      clear h1 h2
      go_wp2_with fail
      refine (HC2.out _ (row_below HR.out.2.1 HB1.out) (row_below HR.out.2.2.2 HB1.out)).mono ?_
      rintro e w2 ⟨rfl, hb2⟩
      go_wp2_with fail
      go_ret
      rw [HD.out]
      exact ⟨rfl, HB1.out.trans (hb2.mono HB1.out.size)⟩
  · rw [decide_eq_false h1] at HC1
    have HD : Hid (decide ((ps, ls) = (qs, ms)) = false) := hide (by simp [h1])
    clear h1
    go_enter Tryz.func22, Tryz.ntmps22
    go_wp2_with fail
    rw [← hw0]
    refine (HC1.out _ (row_below HR.out.1 HB0.out) (row_below HR.out.2.2.1 HB0.out)).mono ?_
    rintro e w1 ⟨rfl, hb1⟩
    have HW := hide hw0
    clear hw0
    go_wp2_with fail
    go_ret
    rw [HD.out]
    exact ⟨rfl, HB0.out.trans (hb1.mono HB0.out.size)⟩

theorem Tryz.types_part : (9 : Nat) ≠ 126 := by decide

end Go.Proofs.YtbokjfjdjgopeaaGreatDoor

namespace Go.Proofs.YtbokjfjdjgopeaaGreatDoor
open Go.RowKit

/-- a fact that hangs on the blocks B .. U - 1 alone -/
def Loc (B U : Nat) (p : World → Prop) : Prop := ∀ w w' : World, w.heap.size ≤ w'.heap.size → U ≤ w.heap.size → (∀ k, B ≤ k → k < U → w'.heap[k]? = w.heap[k]?) → p w → p w'

structure Held (wr : World) (B U : Nat) (p : World → Prop) : Prop where
  loc : Loc B U p
  le : U ≤ wr.heap.size
  is : p wr

theorem held_below {wr wr' : World} {B U : Nat} {p : World → Prop} (h : Held wr B U p) (hb : Below wr.heap.size wr wr') : Held wr' B U p :=
  ⟨h.loc, Nat.le_trans h.le hb.size, h.loc wr wr' hb.size h.le (fun k _ hk => hb.block k (Nat.lt_of_lt_of_le hk h.le)) h.is⟩

theorem held_kept {wr wr' : World} {B U : Nat} {p : World → Prop} {S : Nat → Prop} (h : Held wr B U p) (hk : Kept wr wr' S) (hS : ∀ k, B ≤ k → k < U → ¬ S k) : Held wr' B U p :=
  ⟨h.loc, Nat.le_trans h.le hk.2.2.2.1, h.loc wr wr' hk.2.2.2.1 h.le (fun k h1 h2 => hk.2.2.2.2 k (Nat.lt_of_lt_of_le h2 h.le) (hS k h1 h2)) h.is⟩

/-- a variable of two cells -/
def IsVar (g : Nat) (u0 u1 : Value) (t : TypeId) (w : World) : Prop := w.heap[g]? = some (Obj.cells #[u0, u1] t)

theorem held_var {w : World} {g : Nat} {u0 u1 : Value} {t : TypeId} (h : w.heap[g]? = some (Obj.cells #[u0, u1] t)) : Held w g (g + 1) (IsVar g u0 u1 t) :=
  ⟨fun a b _ _ hk hp => (hk g (Nat.le_refl _) (by omega)).trans hp, (Array.getElem?_eq_some_iff.1 h).1, h⟩

theorem held_cells {w : World} {B U g : Nat} {u0 u1 : Value} {t : TypeId} (h : Held w B U (IsVar g u0 u1 t)) : w.cell? ⟨g, 0, none⟩ = some u0 ∧ w.cell? ⟨g, 1, none⟩ = some u1 := ⟨(cell_at h.is 0).1, (cell_at h.is 1).1⟩

/-- a disk of our own whose rows lie in B .. U - 1 -/
def IsDisk (B U : Nat) (v : Value) (ps : List ByteArray) (ls : List (Int × ByteArray)) (w : World) : Prop := DiskOwn w B v ps ls ∧ ∀ k, diskBlocks v k → k < U

theorem diskOwn_loc {w w' : World} {B U : Nat} {v : Value} {ps : List ByteArray} {ls : List (Int × ByteArray)} (h : IsDisk B U v ps ls w) (_hs : w.heap.size ≤ w'.heap.size) (hk : ∀ k, B ≤ k → k < U → w'.heap[k]? = w.heap[k]?) : IsDisk B U v ps ls w' := by
  refine ⟨?_, h.2⟩
  have hl := diskOwn_lt h.1
  have hu := h.2
  obtain ⟨⟨vp, vl, rfl, h1, h2⟩, -⟩ := h
  have key : ∀ {e sz n : Nat} {u : Value} {xs : List Value}, w.ownsRow B e sz u n xs → (∀ k, u.ownBlock = some k → k < U) → w'.ownsRow B e sz u n xs := fun {e sz n u xs} h hlt => by
    refine ⟨h.1, ?_⟩
    rcases h.2 with ⟨rfl, hn⟩ | ⟨g, cap, cur, rfl, hg, hh, rest⟩
    · exact Or.inl ⟨rfl, hn⟩
    · exact Or.inr ⟨g, cap, cur, rfl, hg, (hk g hg (hlt g rfl)).trans hh, rest⟩
  exact ⟨vp, vl, rfl, key h1 (fun k e => hu k ⟨vp, vl, rfl, Or.inl e⟩), key h2 (fun k e => hu k ⟨vp, vl, rfl, Or.inr e⟩)⟩

theorem held_disk {w : World} {B : Nat} {v : Value} {ps : List ByteArray} {ls : List (Int × ByteArray)} (h : DiskOwn w B v ps ls) : Held w B w.heap.size (IsDisk B w.heap.size v ps ls) :=
  ⟨fun _ _ hs _ hk hp => diskOwn_loc hp hs hk, Nat.le_refl _, h, fun k hk => (diskOwn_lt h k hk).2⟩

/-- the same disk with other contents, turned in place -/
theorem held_again {w : World} {B U : Nat} {v : Value} {ps qs : List ByteArray} {ls ms : List (Int × ByteArray)} {w' : World} (h : Held w B U (IsDisk B U v ps ls)) (hd : DiskOwn w' B v qs ms) (hs : w.heap.size ≤ w'.heap.size) : Held w' B U (IsDisk B U v qs ms) :=
  ⟨fun _ _ hs _ hk hp => diskOwn_loc hp hs hk, Nat.le_trans h.le hs, hd, h.is.2⟩

theorem disk_form {w : World} {B : Nat} {v : Value} {ps : List ByteArray} {ls : List (Int × ByteArray)} (h : DiskOwn w B v ps ls) : ∃ x c y d, v = .agg #[.slice x ps.length c, .slice y ls.length d] := by
  obtain ⟨vp, vl, rfl, h1, h2⟩ := h
  obtain ⟨x, c, rfl⟩ := own_slice h1
  obtain ⟨y, d, rfl⟩ := own_slice h2
  exact ⟨x, c, y, d, rfl⟩

/-- a new variable behind what was -/
theorem new_var (w : World) (u0 u1 : Value) (t : TypeId) : Below w.heap.size w (w.alloc (Obj.cells #[u0, u1] t)) ∧ Held (w.alloc (Obj.cells #[u0, u1] t)) w.heap.size (w.heap.size + 1) (IsVar w.heap.size u0 u1 t) :=
  ⟨(Below.refl _ _).alloc (Nat.le_refl _) _, held_var (heap_alloc_new w _)⟩
end Go.Proofs.YtbokjfjdjgopeaaGreatDoor

namespace Go.Proofs.YtbokjfjdjgopeaaGreatDoor
open Go.RowKit

/-- a row of ints in memory of its own, from a place of its block on -/
def IntOwn (w : World) (B : Nat) (v : Value) (l : List Int) : Prop :=
  ∃ a cap, v = .slice a l.length cap ∧ l.length ≤ cap ∧ (a = none ∧ l = [] ∨ ∃ g off cs, a = some ⟨g, off, none⟩ ∧ B ≤ g ∧ w.heap[g]? = some (.cells cs 3 (0, 0)) ∧ ∀ i, i < l.length → cs[off + i]? = (ints l)[i]?)

theorem intOwn_cap {w : World} {B : Nat} {v : Value} {l : List Int} (h : IntOwn w B v l) : ∃ a cap, v = .slice a l.length cap ∧ l.length ≤ cap := by
  obtain ⟨a, cap, e, hc, -⟩ := h
  exact ⟨a, cap, e, hc⟩

theorem intOwn_row {w : World} {B : Nat} {v : Value} {l : List Int} (h : IntOwn w B v l) : RowAt w 1 v l.length (ints l) := by
  obtain ⟨a, cap, rfl, hcap, h⟩ := h
  refine ⟨by rw [ints_length]; omega, a, cap, rfl, ?_⟩
  rcases h with ⟨-, rfl⟩ | ⟨g, off, cs, rfl, -, hh, hc⟩
  · exact Or.inl rfl
  · exact Or.inr ⟨g, off, rfl, (Array.getElem?_eq_some_iff.1 hh).1, fun j hj => (cell_at hh (off + j)).1.trans (hc j (by omega))⟩

theorem intOwn_slice {w : World} {B : Nat} {v : Value} {l : List Int} (h : IntOwn w B v l) : ∃ a cap, v = .slice a l.length cap := by
  obtain ⟨a, cap, e, -⟩ := h
  exact ⟨a, cap, e⟩

theorem intOwn_lt {w : World} {B : Nat} {v : Value} {l : List Int} (h : IntOwn w B v l) : ∀ k, v.ownBlock = some k → B ≤ k ∧ k < w.heap.size := by
  obtain ⟨a, cap, rfl, hcap, h⟩ := h
  intro k hk
  rcases h with ⟨rfl, -⟩ | ⟨g, off, cs, rfl, hB, hh, -⟩
  · cases hk
  · injection hk with hk
    have hk : g = k := hk
    subst hk
    exact ⟨hB, (Array.getElem?_eq_some_iff.1 hh).1⟩

theorem intOwn_typ {w : World} {B : Nat} {v : Value} {l : List Int} (h : IntOwn w B v l) {k : Nat} (hk : v.ownBlock = some k) : ∃ cs, w.heap[k]? = some (.cells cs 3 (0, 0)) := by
  obtain ⟨a, cap, rfl, hcap, h⟩ := h
  rcases h with ⟨rfl, -⟩ | ⟨g, off, cs, rfl, hB, hh, -⟩
  · cases hk
  · injection hk with hk
    have hk : g = k := hk
    subst hk
    exact ⟨cs, hh⟩

theorem intOwn_kept {w w' : World} {B : Nat} {v : Value} {l : List Int} {S : Nat → Prop} (h : IntOwn w B v l) (hk : Kept w w' S) (hS : ∀ k, v.ownBlock = some k → ¬ S k) : IntOwn w' B v l := by
  obtain ⟨a, cap, rfl, hcap, h⟩ := h
  refine ⟨a, cap, rfl, hcap, ?_⟩
  rcases h with h | ⟨g, off, cs, rfl, hB, hh, hc⟩
  · exact Or.inl h
  · exact Or.inr ⟨g, off, cs, rfl, hB, (hk.2.2.2.2 g (Array.getElem?_eq_some_iff.1 hh).1 (hS g rfl)).trans hh, hc⟩

theorem intOwn_below {w w' : World} {B : Nat} {v : Value} {l : List Int} (h : IntOwn w B v l) (hb : Below w.heap.size w w') : IntOwn w' B v l :=
  intOwn_kept h (kept_of_all hb (fun _ => False)) (fun _ _ h => h)

theorem intOwn_down {w : World} {B B' : Nat} {v : Value} {l : List Int} (h : IntOwn w B v l) (hB : B' ≤ B) : IntOwn w B' v l := by
  obtain ⟨a, cap, rfl, hcap, h⟩ := h
  refine ⟨a, cap, rfl, hcap, ?_⟩
  rcases h with h | ⟨g, off, cs, rfl, hg, hh, hc⟩
  · exact Or.inl h
  · exact Or.inr ⟨g, off, cs, rfl, Nat.le_trans hB hg, hh, hc⟩

theorem intOwn_of_own {w : World} {B : Nat} {v : Value} {l : List Int} (h : w.ownsRow B 3 1 v l.length (ints l)) : IntOwn w B v l := by
  have hc := h
  rcases h.2 with ⟨rfl, h0⟩ | ⟨g, cap, cur, rfl, hg, hh, hnc, -⟩
  · have h0 : l.length = 0 := h0
    exact ⟨none, 0, by rw [h0], by omega, Or.inl ⟨rfl, List.eq_nil_of_length_eq_zero h0⟩⟩
  · exact ⟨_, _, rfl, hnc, Or.inr ⟨g, 0, cur, rfl, hg, hh, fun i hi => by rw [Nat.zero_add]; exact (cell_at hh i).1.symm.trans (hc.cellAt i (by omega))⟩⟩

/-- all but the first one -/
theorem intOwn_tail {w : World} {B g off c c' : Nat} {x : Int} {l : List Int} {n n' : Nat} (hn : n = l.length + 1) (hn' : n' = l.length) (hc' : l.length ≤ c') (h : IntOwn w B (.slice (some ⟨g, off, none⟩) n c) (x :: l)) : IntOwn w B (.slice (some ⟨g, off + 1, none⟩) n' c') l := by
  subst hn hn'
  obtain ⟨a, cap, e, -, h⟩ := h
  injection e with e1 e2 e3
  subst e1
  rcases h with ⟨h, -⟩ | ⟨g', off', cs, e, hB, hh, hc⟩
  · cases h
  · injection e with e
    injection e with e1 e2
    subst e1 e2
    refine ⟨_, _, rfl, hc', Or.inr ⟨g, off + 1, cs, rfl, hB, hh, fun i hi => ?_⟩⟩
    have := hc (i + 1) (by simp; omega)
    rw [Nat.add_assoc, Nat.add_comm 1 i, this]
    simp [ints]

theorem intOwn_apart {w : World} {B B' e sz n : Nat} {v v' : Value} {xs : List Value} {l : List Int} (h : w.ownsRow B e sz v n xs) (h' : IntOwn w B' v' l) (hne : e ≠ 3) (k : Nat) (h1 : v.ownBlock = some k) : v'.ownBlock ≠ some k := by
  intro h2
  obtain ⟨cs, hh'⟩ := intOwn_typ h' h2
  rcases h.2 with ⟨rfl, -⟩ | ⟨g, cap, cur, rfl, -, hh, -⟩
  · cases h1
  · injection h1 with h1
    have h1 : g = k := h1
    subst h1
    rw [hh] at hh'
    injection hh' with hh'
    injection hh' with _ he _
    exact hne he

theorem intOwn_stored {w : World} {B g off n cap : Nat} {m : List Int} (k : Nat) (x : Int) (hn : n = m.length) (hk : k < m.length) (h : IntOwn w B (.slice (some ⟨g, off, none⟩) n cap) m) : IntOwn (w.setCell ⟨g, off + k, none⟩ (.int .i64 x)) B (.slice (some ⟨g, off, none⟩) n cap) (m.set k x) := by
  subst hn
  obtain ⟨a, cap', e, hcp, h⟩ := h
  injection e with e1 e2 e3
  subst e1 e3
  rcases h with ⟨h, -⟩ | ⟨g', off', cs, e, hB, hh, hc⟩
  · cases h
  · injection e with e
    injection e with e1 e2
    subst e1 e2
    have h2 := heap_setCell_same w g (off + k) _ _ (.int .i64 x) hh
    refine ⟨_, _, by rw [List.length_set], by rw [List.length_set]; exact hcp, Or.inr ⟨g, off, _, rfl, hB, h2, fun i hi => ?_⟩⟩
    rw [List.length_set] at hi
    rw [← ints_set]
    have hsz : off + k < cs.size := by
      have := hc k hk
      rw [ints_at m k hk] at this
      exact (Array.getElem?_eq_some_iff.1 this).1
    by_cases e : k = i
    · subst e
      rw [Array.getElem?_setIfInBounds_self_of_lt hsz, List.getElem?_set_self (by rw [ints_length]; exact hk)]
    · rw [Array.getElem?_setIfInBounds_ne (by omega), List.getElem?_set_ne e]
      exact hc i hi

theorem intOwn_cell {w : World} {B g off n cap : Nat} {m : List Int} (k : Nat) (hn : n = m.length) (hk : k < m.length) (h : IntOwn w B (.slice (some ⟨g, off, none⟩) n cap) m) : w.cell? ⟨g, off + k, none⟩ = some (.int .i64 m[k]) ∧ w.frozen? ⟨g, off + k, none⟩ = false := by
  subst hn
  obtain ⟨a, cap', e, hcp, h⟩ := h
  injection e with e1 e2 e3
  subst e1 e3
  rcases h with ⟨h, -⟩ | ⟨g', off', cs, e, hB, hh, hc⟩
  · cases h
  · injection e with e
    injection e with e1 e2
    subst e1 e2
    exact ⟨(cell_at hh _).1.trans ((hc k hk).trans (ints_at m k hk)), (cell_at hh _).2⟩

end Go.Proofs.YtbokjfjdjgopeaaGreatDoor

namespace Go.Proofs.YtbokjfjdjgopeaaGreatDoor
open Go.RowKit

/-- a work as plain data -/
structure Wk where
  ps : List ByteArray
  ls : List (Int × ByteArray)
  next : Int
  us : List Int
  gs : List Int
  fs : List Int

def Wk.bulk (k : Wk) : Nat := bulkS k.ps + bulkP k.ls + k.us.length + k.gs.length + k.fs.length

/-- what comes in with a work -/
def Wk.fits (k : Wk) : Prop := k.ps.length ≤ maxLen ∧ (∀ s ∈ k.ps, s.size ≤ maxLen) ∧ k.ls.length ≤ maxLen ∧ (∀ p ∈ k.ls, p.2.size ≤ maxLen) ∧ k.us.length ≤ maxLen ∧ k.gs.length ≤ maxLen ∧ k.fs.length ≤ maxLen

/-- a work that is small enough -/
def Wk.small (k : Wk) : Prop := k.ps.length ≤ 1048576 ∧ (∀ s ∈ k.ps, s.size ≤ 1048576) ∧ k.ls.length ≤ 1048576 ∧ (∀ p ∈ k.ls, p.2.size ≤ 1048576) ∧ k.us.length ≤ 2000000 ∧ k.gs.length ≤ 2000000 ∧ k.fs.length ≤ 2000000

/-- a work that reads so -/
def WorkAt (w : World) (v : Value) (k : Wk) : Prop :=
  ∃ vp vl vu vg vf, v = .agg #[vp, vl, .int .i64 k.next, vu, vg, vf] ∧ DiskAt w (.agg #[vp, vl]) k.ps k.ls ∧ RowAt w 1 vu k.us.length (ints k.us) ∧ RowAt w 1 vg k.gs.length (ints k.gs) ∧ RowAt w 1 vf k.fs.length (ints k.fs) ∧ ∃ a cap, vu = .slice a k.us.length cap ∧ k.us.length ≤ cap

/-- a work in memory of its own: no two of its rows share a block -/
def WorkOwn (w : World) (B : Nat) (v : Value) (k : Wk) : Prop :=
  ∃ vp vl vu vg vf, v = .agg #[vp, vl, .int .i64 k.next, vu, vg, vf] ∧ DiskOwn w B (.agg #[vp, vl]) k.ps k.ls ∧ IntOwn w B vu k.us ∧ IntOwn w B vg k.gs ∧ IntOwn w B vf k.fs ∧
    (∀ j, vu.ownBlock = some j → vg.ownBlock ≠ some j) ∧ (∀ j, vu.ownBlock = some j → vf.ownBlock ≠ some j) ∧ (∀ j, vg.ownBlock = some j → vf.ownBlock ≠ some j)

def workBlocks (v : Value) (j : Nat) : Prop := ∃ vp vl n vu vg vf, v = .agg #[vp, vl, n, vu, vg, vf] ∧ (diskBlocks (.agg #[vp, vl]) j ∨ vu.ownBlock = some j ∨ vg.ownBlock = some j ∨ vf.ownBlock = some j)

theorem agg6 {a b c d e f a' b' c' d' e' f' : Value} (h : Value.agg #[a, b, c, d, e, f] = .agg #[a', b', c', d', e', f']) : a = a' ∧ b = b' ∧ c = c' ∧ d = d' ∧ e = e' ∧ f = f' := by
  injection h with h
  have := congrArg Array.toList h
  simp at this
  exact this

theorem work_of_own {w : World} {B : Nat} {v : Value} {k : Wk} (h : WorkOwn w B v k) : WorkAt w v k := by
  obtain ⟨vp, vl, vu, vg, vf, e, h1, h2, h3, h4, -⟩ := h
  exact ⟨vp, vl, vu, vg, vf, e, disk_of_own h1, intOwn_row h2, intOwn_row h3, intOwn_row h4, intOwn_cap h2⟩

theorem work_below {w w' : World} {v : Value} {k : Wk} (h : WorkAt w v k) (hb : Below w.heap.size w w') : WorkAt w' v k := by
  obtain ⟨vp, vl, vu, vg, vf, e, h1, h2, h3, h4, h5⟩ := h
  exact ⟨vp, vl, vu, vg, vf, e, disk_below h1 hb, row_below h2 hb, row_below h3 hb, row_below h4 hb, h5⟩

theorem workOwn_kept {w w' : World} {B : Nat} {v : Value} {k : Wk} {S : Nat → Prop} (h : WorkOwn w B v k) (hk : Kept w w' S) (hS : ∀ j, workBlocks v j → ¬ S j) : WorkOwn w' B v k := by
  obtain ⟨vp, vl, vu, vg, vf, rfl, h1, h2, h3, h4, h5⟩ := h
  exact ⟨vp, vl, vu, vg, vf, rfl, diskOwn_kept h1 hk (fun j e => hS j ⟨_, _, _, _, _, _, rfl, Or.inl e⟩), intOwn_kept h2 hk (fun j e => hS j ⟨_, _, _, _, _, _, rfl, Or.inr (Or.inl e)⟩), intOwn_kept h3 hk (fun j e => hS j ⟨_, _, _, _, _, _, rfl, Or.inr (Or.inr (Or.inl e))⟩), intOwn_kept h4 hk (fun j e => hS j ⟨_, _, _, _, _, _, rfl, Or.inr (Or.inr (Or.inr e))⟩), h5⟩

theorem workOwn_below {w w' : World} {B : Nat} {v : Value} {k : Wk} (h : WorkOwn w B v k) (hb : Below w.heap.size w w') : WorkOwn w' B v k :=
  workOwn_kept h (kept_of_all hb (fun _ => False)) (fun _ _ h => h)

theorem workOwn_lt {w : World} {B : Nat} {v : Value} {k : Wk} (h : WorkOwn w B v k) : ∀ j, workBlocks v j → B ≤ j ∧ j < w.heap.size := by
  obtain ⟨vp, vl, vu, vg, vf, rfl, h1, h2, h3, h4, -⟩ := h
  rintro j ⟨vp', vl', n', vu', vg', vf', e, hj⟩
  obtain ⟨rfl, rfl, -, rfl, rfl, rfl⟩ := agg6 e
  rcases hj with hj | hj | hj | hj
  · exact diskOwn_lt h1 j hj
  · exact intOwn_lt h2 j hj
  · exact intOwn_lt h3 j hj
  · exact intOwn_lt h4 j hj

theorem workOwn_down {w : World} {B B' : Nat} {v : Value} {k : Wk} (h : WorkOwn w B v k) (hB : B' ≤ B) : WorkOwn w B' v k := by
  obtain ⟨vp, vl, vu, vg, vf, e, ⟨vp', vl', e1, d1, d2⟩, h2, h3, h4, h5⟩ := h
  exact ⟨vp, vl, vu, vg, vf, e, ⟨vp', vl', e1, own_down d1 hB, own_down d2 hB⟩, intOwn_down h2 hB, intOwn_down h3 hB, intOwn_down h4 hB, h5⟩

theorem bulk_inW {ps : List ByteArray} {ls : List (Int × ByteArray)} (h : bulkS ps + bulkP ls ≤ 1048576) : ps.length ≤ 1048576 ∧ (∀ s ∈ ps, s.size ≤ 1048576) ∧ ls.length ≤ 1048576 ∧ ∀ p ∈ ls, p.2.size ≤ 1048576 := by
  rw [bulkS_eq] at h
  unfold bulkP at h
  refine ⟨by omega, fun s hs => ?_, by omega, fun p hp => ?_⟩
  · obtain ⟨i, hi, rfl⟩ := List.getElem_of_mem hs
    have h1 := sumS_succ ps i hi
    have h2 := sumS_mono ps (i + 1)
    omega
  · obtain ⟨i, hi, rfl⟩ := List.getElem_of_mem hp
    have h1 := sumP_succ ls i hi
    have h2 := sumP_mono ls (i + 1)
    omega

theorem bulkW_in {k : Wk} (h : k.bulk ≤ 1048576) : k.small := by
  unfold Wk.bulk at h
  obtain ⟨h1, h2, h3, h4⟩ := bulk_inW (ps := k.ps) (ls := k.ls) (by omega)
  exact ⟨h1, h2, h3, h4, by omega, by omega, by omega⟩

theorem work_form {w : World} {B : Nat} {v : Value} {k : Wk} (h : WorkOwn w B v k) : ∃ a1 c1 a2 c2 a3 c3 a4 c4 a5 c5, v = .agg #[.slice a1 k.ps.length c1, .slice a2 k.ls.length c2, .int .i64 k.next, .slice a3 k.us.length c3, .slice a4 k.gs.length c4, .slice a5 k.fs.length c5] := by
  obtain ⟨vp, vl, vu, vg, vf, rfl, h1, h2, h3, h4, -⟩ := h
  obtain ⟨a1, c1, a2, c2, e⟩ := disk_form h1
  injection e with e
  injection e with e
  injection e with e1 e
  injection e with e2
  subst e1 e2
  obtain ⟨a3, c3, rfl⟩ := intOwn_slice h2
  obtain ⟨a4, c4, rfl⟩ := intOwn_slice h3
  obtain ⟨a5, c5, rfl⟩ := intOwn_slice h4
  exact ⟨_, _, _, _, _, _, _, _, _, _, rfl⟩


set_option maxHeartbeats 4000000 in
set_option maxRecDepth 100000 in
theorem szWork_any (v : Value) (k : Wk) (hk : k.fits) (left : Nat) (hleft : left ≤ 1048576) (w : World) (hd : WorkAt w v k) :
    Calls Tryz.prog 30 #[v, .int .i64 (left : Int)] w fun e w' => e = .returned (.int .i64 (szOut left k.bulk)) ∧ Below w.heap.size w w' := by
  obtain ⟨f1, f2, f3, f4, f5, f6, f7⟩ := hk
  obtain ⟨vp, vl, vu, vg, vf, rfl, h1, h2, h3, h4, -⟩ := hd
  obtain ⟨ua, uc, rfl⟩ : ∃ a cap, vu = .slice a k.us.length cap := by obtain ⟨-, a, cap, e, -⟩ := h2; exact ⟨a, cap, e⟩
  obtain ⟨ga, gc, rfl⟩ : ∃ a cap, vg = .slice a k.gs.length cap := by obtain ⟨-, a, cap, e, -⟩ := h3; exact ⟨a, cap, e⟩
  obtain ⟨fa, fc, rfl⟩ : ∃ a cap, vf = .slice a k.fs.length cap := by obtain ⟨-, a, cap, e, -⟩ := h4; exact ⟨a, cap, e⟩
  obtain ⟨w0, hw0⟩ : ∃ w0, w0 = w.alloc (Obj.cells #[vp, vl, .int .i64 k.next, .slice ua k.us.length uc, .slice ga k.gs.length gc, .slice fa k.fs.length fc] 32) := ⟨_, rfl⟩
  have hb0 : Below w.heap.size w w0 := by rw [hw0]; exact (Below.refl w.heap.size w).alloc (Nat.le_refl _) _
  have hblk : w0.heap[w.heap.size]? = some (Obj.cells #[vp, vl, .int .i64 k.next, .slice ua k.us.length uc, .slice ga k.gs.length gc, .slice fa k.fs.length fc] 32) := by rw [hw0]; exact heap_alloc_new w _
  have HPb : Hid (∀ wx, Below w0.heap.size w0 wx → wx.cell? ⟨w.heap.size, 3, none⟩ = some (.slice ua k.us.length uc) ∧ wx.cell? ⟨w.heap.size, 4, none⟩ = some (.slice ga k.gs.length gc) ∧ wx.cell? ⟨w.heap.size, 5, none⟩ = some (.slice fa k.fs.length fc)) := hide (fun wx hb => by
    have hq := (hb.block _ (Array.getElem?_eq_some_iff.1 hblk).1).trans hblk
    exact ⟨(cell_at hq 3).1, (cell_at hq 4).1, (cell_at hq 5).1⟩)
  have HC1 := hide (szDisk_any (.agg #[vp, vl]) k.ps k.ls f1 f2 f3 f4 left hleft w0 (disk_below h1 hb0))
  have HB := hide hb0
  obtain ⟨n1, hn1⟩ : ∃ n, n = k.us.length := ⟨_, rfl⟩
  obtain ⟨n2, hn2⟩ : ∃ n, n = k.gs.length := ⟨_, rfl⟩
  obtain ⟨n3, hn3⟩ : ∃ n, n = k.fs.length := ⟨_, rfl⟩
  obtain ⟨nx, hnx⟩ : ∃ n, n = k.next := ⟨_, rfl⟩
  obtain ⟨b0, hbb⟩ : ∃ b, b = bulkS k.ps + bulkP k.ls := ⟨_, rfl⟩
  have hbulk : k.bulk = b0 + n1 + n2 + n3 := by unfold Wk.bulk; omega
  rw [hbulk]
  rw [← hn1, ← hn2, ← hn3] at HPb
  rw [← hn1, ← hn2, ← hn3, ← hnx] at hw0 ⊢
  rw [← hbb] at HC1
  rw [← hn1] at f5
  rw [← hn2] at f6
  rw [← hn3] at f7
  clear f1 f2 f3 f4 h1 h2 h3 h4 hb0 hblk hbulk hn1 hn2 hn3 hnx hbb
  have d5 := hide (szIntS_any ua n1 uc f5)
  have d6 := hide (szIntS_any ga n2 gc f6)
  have d7 := hide (szIntS_any fa n3 fc f7)
  clear f5 f6 f7
  by_cases q1 : b0 ≤ left
  · obtain ⟨m1, hm1⟩ : ∃ m, m = left - b0 := ⟨_, rfl⟩
    have hml1 : m1 ≤ 1048576 := by omega
    rw [szOut_yes q1, ← hm1] at HC1
    have HC2 := hide (fun wx => d5.out m1 hml1 wx)
    by_cases q2 : n1 ≤ m1
    · obtain ⟨m2, hm2⟩ : ∃ m, m = m1 - n1 := ⟨_, rfl⟩
      have hml2 : m2 ≤ 1048576 := by omega
      rw [szOut_yes q2, ← hm2] at HC2
      have HC3 := hide (fun wx => d6.out m2 hml2 wx)
      by_cases q3 : n2 ≤ m2
      · obtain ⟨m3, hm3⟩ : ∃ m, m = m2 - n2 := ⟨_, rfl⟩
        have hml3 : m3 ≤ 1048576 := by omega
        rw [szOut_yes q3, ← hm3] at HC3
        have HC4 := hide (fun wx => d7.out m3 hml3 wx)
        by_cases q4 : n3 ≤ m3
        · obtain ⟨m4, hm4⟩ : ∃ m, m = m3 - n3 := ⟨_, rfl⟩
          have hml4 : m4 ≤ 1048576 := by omega
          rw [szOut_yes q4, ← hm4] at HC4
          have HO : Hid (szOut left (b0 + n1 + n2 + n3) = (m4 : Int)) := hide (by rw [szOut_yes (by omega)]; congr 1; omega)
          clear q1 q2 q3 q4 hm1 hm2 hm3 hm4
          go_enter Tryz.func30, Tryz.ntmps30
          go_wp2_with fail
          rw [← hw0]
          clear hw0
          refine HC1.out.mono ?_
          rintro e w1 ⟨rfl, hb1⟩
          obtain ⟨p3, p4, p5⟩ := HPb.out w1 hb1
          have HB1 : Hid (Below w.heap.size w w1) := hide (HB.out.trans (hb1.mono HB.out.size))
          clear hb1
          go_wp2_with fail
          refine (HC2.out _).mono ?_
          rintro e w2 ⟨rfl, rfl⟩
          go_wp2_with fail
          refine (HC3.out _).mono ?_
          rintro e w2 ⟨rfl, rfl⟩
          go_wp2_with fail
          refine (HC4.out _).mono ?_
          rintro e w2 ⟨rfl, rfl⟩
          go_wp2_with fail
          go_ret
          rw [HO.out]
          exact ⟨rfl, HB1.out⟩
        · rw [szOut_no (by omega)] at HC4
          have HO : Hid (szOut left (b0 + n1 + n2 + n3) = -1) := hide (szOut_no (by omega))
          clear q1 q2 q3 q4 hm1 hm2 hm3
          go_enter Tryz.func30, Tryz.ntmps30
          go_wp2_with fail
          rw [← hw0]
          clear hw0
          refine HC1.out.mono ?_
          rintro e w1 ⟨rfl, hb1⟩
          obtain ⟨p3, p4, p5⟩ := HPb.out w1 hb1
          have HB1 : Hid (Below w.heap.size w w1) := hide (HB.out.trans (hb1.mono HB.out.size))
          clear hb1
          go_wp2_with fail
          refine (HC2.out _).mono ?_
          rintro e w2 ⟨rfl, rfl⟩
          go_wp2_with fail
          refine (HC3.out _).mono ?_
          rintro e w2 ⟨rfl, rfl⟩
          go_wp2_with fail
          refine (HC4.out _).mono ?_
          rintro e w2 ⟨rfl, rfl⟩
          go_wp2_with fail
          go_ret
          rw [HO.out]
          exact ⟨rfl, HB1.out⟩
      · rw [szOut_no (by omega)] at HC3
        have HO : Hid (szOut left (b0 + n1 + n2 + n3) = -1) := hide (szOut_no (by omega))
        clear q1 q2 q3 hm1 hm2
        go_enter Tryz.func30, Tryz.ntmps30
        go_wp2_with fail
        rw [← hw0]
        clear hw0
        refine HC1.out.mono ?_
        rintro e w1 ⟨rfl, hb1⟩
        obtain ⟨p3, p4, p5⟩ := HPb.out w1 hb1
        have HB1 : Hid (Below w.heap.size w w1) := hide (HB.out.trans (hb1.mono HB.out.size))
        clear hb1
        go_wp2_with fail
        refine (HC2.out _).mono ?_
        rintro e w2 ⟨rfl, rfl⟩
        go_wp2_with fail
        refine (HC3.out _).mono ?_
        rintro e w2 ⟨rfl, rfl⟩
        go_wp2_with fail
        go_ret
        rw [HO.out]
        exact ⟨rfl, HB1.out⟩
    · rw [szOut_no (by omega)] at HC2
      have HO : Hid (szOut left (b0 + n1 + n2 + n3) = -1) := hide (szOut_no (by omega))
      clear q1 q2 hm1
      go_enter Tryz.func30, Tryz.ntmps30
      go_wp2_with fail
      rw [← hw0]
      clear hw0
      refine HC1.out.mono ?_
      rintro e w1 ⟨rfl, hb1⟩
      obtain ⟨p3, p4, p5⟩ := HPb.out w1 hb1
      have HB1 : Hid (Below w.heap.size w w1) := hide (HB.out.trans (hb1.mono HB.out.size))
      clear hb1
      go_wp2_with fail
      refine (HC2.out _).mono ?_
      rintro e w2 ⟨rfl, rfl⟩
      go_wp2_with fail
      go_ret
      rw [HO.out]
      exact ⟨rfl, HB1.out⟩
  · rw [szOut_no (by omega)] at HC1
    have HO : Hid (szOut left (b0 + n1 + n2 + n3) = -1) := hide (szOut_no (by omega))
    clear q1 
    go_enter Tryz.func30, Tryz.ntmps30
    go_wp2_with fail
    rw [← hw0]
    clear hw0
    refine HC1.out.mono ?_
    rintro e w1 ⟨rfl, hb1⟩
    obtain ⟨p3, p4, p5⟩ := HPb.out w1 hb1
    have HB1 : Hid (Below w.heap.size w w1) := hide (HB.out.trans (hb1.mono HB.out.size))
    clear hb1
    go_wp2_with fail
    go_ret
    rw [HO.out]
    exact ⟨rfl, HB1.out⟩

theorem cells3 {w : World} {a0 a1 a2 : Nat} {o0 o1 o2 : Obj} (h : w.heap[a0]? = some o0 ∧ w.heap[a1]? = some o1 ∧ w.heap[a2]? = some o2) {w' : World} (hb : Below w.heap.size w w') : w'.heap[a0]? = some o0 ∧ w'.heap[a1]? = some o1 ∧ w'.heap[a2]? = some o2 :=
  ⟨(hb.block _ (Array.getElem?_eq_some_iff.1 h.1).1).trans h.1, (hb.block _ (Array.getElem?_eq_some_iff.1 h.2.1).1).trans h.2.1, (hb.block _ (Array.getElem?_eq_some_iff.1 h.2.2).1).trans h.2.2⟩

set_option maxHeartbeats 2000000 in
set_option maxRecDepth 100000 in
theorem toWork_any (v : Value) (k : Wk) (hk : k.bulk ≤ 1048576) (w : World) (hd : WorkAt w v k) :
    Calls Tryz.prog 38 #[v] w fun e w' => ∃ v', e = .returned v' ∧ WorkOwn w' w.heap.size v' k ∧ Below w.heap.size w w' := by
  obtain ⟨f1, -, f3, -, -, -, -⟩ := bulkW_in hk
  obtain ⟨f5, f6, f7⟩ : k.us.length ≤ 1048576 ∧ k.gs.length ≤ 1048576 ∧ k.fs.length ≤ 1048576 := by unfold Wk.bulk at hk; omega
  obtain ⟨vp, vl, vu, vg, vf, rfl, h1, h2, h3, h4, -⟩ := hd
  have HC1 := hide (fun wx h => toDisk_any (.agg #[vp, vl]) k.ps k.ls f1 f3 wx h)
  have HC2 := hide (fun wx h => toIntS_any k.us f5 vu wx h)
  have HC3 := hide (fun wx h => toIntS_any k.gs f6 vg wx h)
  have HC4 := hide (fun wx h => toIntS_any k.fs f7 vf wx h)
  have H1 := hide h1
  have H2 := hide h2
  have H3 := hide h3
  have H4 := hide h4
  obtain ⟨nx, hnx⟩ : ∃ n, n = k.next := ⟨_, rfl⟩
  rw [← hnx]
  have HNx := hide hnx
  clear h1 h2 h3 h4 f1 f3 f5 f6 f7 hnx hk
  obtain ⟨w0, hw0⟩ : ∃ w0, w0 = ((w.alloc (Obj.cells #[vp, vl, .int .i64 nx, vu, vg, vf] 32)).alloc (Obj.cells #[.slice none 0 0, .slice none 0 0, .int .i64 0, .slice none 0 0, .slice none 0 0, .slice none 0 0] 48)).alloc (Obj.cells #[.slice none 0 0, .slice none 0 0, .int .i64 0, .slice none 0 0, .slice none 0 0, .slice none 0 0] 48) := ⟨_, rfl⟩
  have hb0 : Below w.heap.size w w0 := by rw [hw0]; exact (((Below.refl w.heap.size w).alloc (Nat.le_refl _) _).alloc (by simp) _).alloc (by simp; omega) _
  obtain ⟨q0, q1, q2, hs0⟩ := three_allocs w (Obj.cells #[vp, vl, .int .i64 nx, vu, vg, vf] 32) (Obj.cells #[.slice none 0 0, .slice none 0 0, .int .i64 0, .slice none 0 0, .slice none 0 0, .slice none 0 0] 48) (Obj.cells #[.slice none 0 0, .slice none 0 0, .int .i64 0, .slice none 0 0, .slice none 0 0, .slice none 0 0] 48)
  rw [← hw0] at q0 q1 q2 hs0
  have HB0 := hide hb0
  go_enter Tryz.func38, Tryz.ntmps38
  go_wp2_with fail
  rw [← hw0]
  clear hw0 hb0
  obtain ⟨a0, ha0⟩ : ∃ a, a = w.heap.size := ⟨_, rfl⟩
  rw [← ha0] at q0 q1 q2 hs0 ⊢
  obtain ⟨a1, ha1⟩ : ∃ a, a = a0 + 1 := ⟨_, rfl⟩
  obtain ⟨a2, ha2⟩ : ∃ a, a = a0 + 1 + 1 := ⟨_, rfl⟩
  rw [← ha2, ← ha1]
  rw [← ha1] at q1
  rw [← ha2] at q2
  have HA := hide (⟨ha0, ha1, ha2, hs0⟩ : a0 = w.heap.size ∧ a1 = a0 + 1 ∧ a2 = a0 + 1 + 1 ∧ w0.heap.size = a0 + 3)
  have HN : Hid (a0 ≠ a2 ∧ a1 ≠ a2) := hide ⟨by omega, by omega⟩
  have HY0 := hide (⟨q0, q1, q2⟩ : _ ∧ _ ∧ _)
  have HS0 : Hid (a0 + 3 ≤ w0.heap.size) := hide (by omega)
  have HB0' := hide HB0.out
  clear ha0 ha1 ha2 hs0 q0 q1 q2
  refine (HC1.out _ (disk_below H1.out HB0.out)).mono ?_
  rintro e w1 ⟨u1, rfl, hown, hb⟩
  obtain ⟨x1, c1, y1a, d1, rfl⟩ := disk_form hown
  obtain ⟨np, hnp⟩ : ∃ n, n = k.ps.length := ⟨_, rfl⟩
  obtain ⟨nl, hnl⟩ : ∃ n, n = k.ls.length := ⟨_, rfl⟩
  rw [← hnp, ← hnl] at hown ⊢
  have HNp := hide (⟨hnp, hnl⟩ : _ ∧ _)
  clear hnp hnl
  obtain ⟨p, r, o⟩ := cells3 HY0.out hb
  have HZ1 : Hid (w0.heap.size ≤ w1.heap.size) := hide hb.size
  have o_1 := heap_setCell_same w1 a2 0 _ _ (.slice x1 np c1) o
  have o_2 := heap_setCell_same _ a2 1 _ _ (.slice y1a nl d1) o_1
  have o_3 := heap_setCell_same _ a2 2 _ _ (.int .i64 nx) o_2
  obtain ⟨y1, hy⟩ : ∃ y, y = ((w1.setCell ⟨a2, 0, none⟩ (.slice x1 np c1)).setCell ⟨a2, 1, none⟩ (.slice y1a nl d1)).setCell ⟨a2, 2, none⟩ (.int .i64 nx) := ⟨_, rfl⟩
  have o' : y1.heap[a2]? = some (Obj.cells #[.slice x1 np c1, .slice y1a nl d1, .int .i64 nx, .slice none 0 0, .slice none 0 0, .slice none 0 0] 48) := by rw [hy]; exact o_3
  have p' : y1.heap[a0]? = some (Obj.cells #[vp, vl, .int .i64 nx, vu, vg, vf] 32) := by rw [hy]; exact blk_other (blk_other (blk_other p HN.out.1) HN.out.1) HN.out.1
  have r' : y1.heap[a1]? = some (Obj.cells #[.slice none 0 0, .slice none 0 0, .int .i64 0, .slice none 0 0, .slice none 0 0, .slice none 0 0] 48) := by rw [hy]; exact blk_other (blk_other (blk_other r HN.out.2) HN.out.2) HN.out.2
  have HY1 := hide (⟨p', r', o'⟩ : _ ∧ _ ∧ _)
  have hk : Kept w1 y1 (fun k => k = a2) := by rw [hy]; exact kept_trans (kept_trans (kept_setCell _ _ _ _) (kept_setCell _ _ _ _) (fun j _ h => h)) (kept_setCell _ _ _ _) (fun j _ h => h)
  have HK1 := hide hk
  have HS1 : Hid (y1.heap.size = w1.heap.size) := hide (by rw [hy]; simp)
  have HB1 : Hid (Below w.heap.size w y1) := hide ((HB0.out.trans (hb.mono HB0.out.size)).trans (below_of_kept hk (by have := HB0.out.size; have := hb.size; omega) (fun k hk => by have := HA.out; omega)))
  have HQ1 := hide hb
  have HO1 := hide hown
  have e20 : w1.cell? ⟨a2, 0, none⟩ = some (.slice none 0 0) := (cell_at o 0).1
  have g20 := (cell_at o 0).2
  have e21 : w1.cell? ⟨a2, 1, none⟩ = some (.slice none 0 0) := (cell_at o 1).1
  have g21 := (cell_at o 1).2
  have e22 : w1.cell? ⟨a2, 2, none⟩ = some (.int .i64 0) := (cell_at o 2).1
  have g22 := (cell_at o 2).2
  have nextc : (((w1.setCell ⟨a2, 0, none⟩ (.slice x1 np c1)).setCell ⟨a2, 1, none⟩ (.slice y1a nl d1)).setCell ⟨a2, 2, none⟩ (.int .i64 nx)).cell? ⟨a0, 3, none⟩ = some vu := by rw [← hy]; exact (cell_at p' 3).1
  have ncx : w1.cell? ⟨a0, 2, none⟩ = some (.int .i64 nx) := (cell_at p 2).1
  clear hb hown p r o p' r' o' hk o_3 o_1 o_2
  go_wp2_with fail
  rw [← hy]
  clear hy e20 g20 e21 g21 e22 g22 nextc ncx
  refine (HC2.out _ (row_below H2.out HB1.out)).mono ?_
  rintro e w2 ⟨u2, rfl, hown, hb⟩
  replace hown := intOwn_of_own hown
  obtain ⟨x2, c2, rfl⟩ := intOwn_slice hown
  obtain ⟨nu, hnu⟩ : ∃ n, n = k.us.length := ⟨_, rfl⟩
  rw [← hnu] at hown ⊢
  have HX2 := hide hnu
  clear hnu
  obtain ⟨p, r, o⟩ := cells3 HY1.out hb
  have HZ2 : Hid (y1.heap.size ≤ w2.heap.size) := hide hb.size
  have o_3 := heap_setCell_same w2 a2 3 _ _ (.slice x2 nu c2) o
  obtain ⟨y2, hy⟩ : ∃ y, y = w2.setCell ⟨a2, 3, none⟩ (.slice x2 nu c2) := ⟨_, rfl⟩
  have o' : y2.heap[a2]? = some (Obj.cells #[.slice x1 np c1, .slice y1a nl d1, .int .i64 nx, .slice x2 nu c2, .slice none 0 0, .slice none 0 0] 48) := by rw [hy]; exact o_3
  have p' : y2.heap[a0]? = some (Obj.cells #[vp, vl, .int .i64 nx, vu, vg, vf] 32) := by rw [hy]; exact blk_other p HN.out.1
  have r' : y2.heap[a1]? = some (Obj.cells #[.slice none 0 0, .slice none 0 0, .int .i64 0, .slice none 0 0, .slice none 0 0, .slice none 0 0] 48) := by rw [hy]; exact blk_other r HN.out.2
  have HY2 := hide (⟨p', r', o'⟩ : _ ∧ _ ∧ _)
  have hk : Kept w2 y2 (fun k => k = a2) := by rw [hy]; exact kept_setCell _ _ _ _
  have HK2 := hide hk
  have HS2 : Hid (y2.heap.size = w2.heap.size) := hide (by rw [hy]; simp)
  have HB2 : Hid (Below w.heap.size w y2) := hide ((HB1.out.trans (hb.mono HB1.out.size)).trans (below_of_kept hk (by have := HB1.out.size; have := hb.size; omega) (fun k hk => by have := HA.out; omega)))
  have HQ2 := hide hb
  have HO2 := hide hown
  have e2 : w2.cell? ⟨a2, 3, none⟩ = some (.slice none 0 0) := (cell_at o 3).1
  have g2 := (cell_at o 3).2
  have nextc : (w2.setCell ⟨a2, 3, none⟩ (.slice x2 nu c2)).cell? ⟨a0, 4, none⟩ = some vg := by rw [← hy]; exact (cell_at p' 4).1
  clear hb hown p r o p' r' o' hk o_3
  go_wp2_with fail
  rw [← hy]
  clear hy e2 g2 nextc
  refine (HC3.out _ (row_below H3.out HB2.out)).mono ?_
  rintro e w3 ⟨u3, rfl, hown, hb⟩
  replace hown := intOwn_of_own hown
  obtain ⟨x3, c3, rfl⟩ := intOwn_slice hown
  obtain ⟨ng, hng⟩ : ∃ n, n = k.gs.length := ⟨_, rfl⟩
  rw [← hng] at hown ⊢
  have HX3 := hide hng
  clear hng
  obtain ⟨p, r, o⟩ := cells3 HY2.out hb
  have HZ3 : Hid (y2.heap.size ≤ w3.heap.size) := hide hb.size
  have o_3 := heap_setCell_same w3 a2 4 _ _ (.slice x3 ng c3) o
  obtain ⟨y3, hy⟩ : ∃ y, y = w3.setCell ⟨a2, 4, none⟩ (.slice x3 ng c3) := ⟨_, rfl⟩
  have o' : y3.heap[a2]? = some (Obj.cells #[.slice x1 np c1, .slice y1a nl d1, .int .i64 nx, .slice x2 nu c2, .slice x3 ng c3, .slice none 0 0] 48) := by rw [hy]; exact o_3
  have p' : y3.heap[a0]? = some (Obj.cells #[vp, vl, .int .i64 nx, vu, vg, vf] 32) := by rw [hy]; exact blk_other p HN.out.1
  have r' : y3.heap[a1]? = some (Obj.cells #[.slice none 0 0, .slice none 0 0, .int .i64 0, .slice none 0 0, .slice none 0 0, .slice none 0 0] 48) := by rw [hy]; exact blk_other r HN.out.2
  have HY3 := hide (⟨p', r', o'⟩ : _ ∧ _ ∧ _)
  have hk : Kept w3 y3 (fun k => k = a2) := by rw [hy]; exact kept_setCell _ _ _ _
  have HK3 := hide hk
  have HS3 : Hid (y3.heap.size = w3.heap.size) := hide (by rw [hy]; simp)
  have HB3 : Hid (Below w.heap.size w y3) := hide ((HB2.out.trans (hb.mono HB2.out.size)).trans (below_of_kept hk (by have := HB2.out.size; have := hb.size; omega) (fun k hk => by have := HA.out; omega)))
  have HQ3 := hide hb
  have HO3 := hide hown
  have e2 : w3.cell? ⟨a2, 4, none⟩ = some (.slice none 0 0) := (cell_at o 4).1
  have g2 := (cell_at o 4).2
  have nextc : (w3.setCell ⟨a2, 4, none⟩ (.slice x3 ng c3)).cell? ⟨a0, 5, none⟩ = some vf := by rw [← hy]; exact (cell_at p' 5).1
  clear hb hown p r o p' r' o' hk o_3
  go_wp2_with fail
  rw [← hy]
  clear hy e2 g2 nextc
  refine (HC4.out _ (row_below H4.out HB3.out)).mono ?_
  rintro e w4 ⟨u4, rfl, hown, hb⟩
  replace hown := intOwn_of_own hown
  obtain ⟨x4, c4, rfl⟩ := intOwn_slice hown
  obtain ⟨nf, hnf⟩ : ∃ n, n = k.fs.length := ⟨_, rfl⟩
  rw [← hnf] at hown ⊢
  have HX4 := hide hnf
  clear hnf
  obtain ⟨p, r, o⟩ := cells3 HY3.out hb
  have HZ4 : Hid (y3.heap.size ≤ w4.heap.size) := hide hb.size
  have o_3 := heap_setCell_same w4 a2 5 _ _ (.slice x4 nf c4) o
  obtain ⟨y4, hy⟩ : ∃ y, y = w4.setCell ⟨a2, 5, none⟩ (.slice x4 nf c4) := ⟨_, rfl⟩
  have o' : y4.heap[a2]? = some (Obj.cells #[.slice x1 np c1, .slice y1a nl d1, .int .i64 nx, .slice x2 nu c2, .slice x3 ng c3, .slice x4 nf c4] 48) := by rw [hy]; exact o_3
  have p' : y4.heap[a0]? = some (Obj.cells #[vp, vl, .int .i64 nx, vu, vg, vf] 32) := by rw [hy]; exact blk_other p HN.out.1
  have r' : y4.heap[a1]? = some (Obj.cells #[.slice none 0 0, .slice none 0 0, .int .i64 0, .slice none 0 0, .slice none 0 0, .slice none 0 0] 48) := by rw [hy]; exact blk_other r HN.out.2
  have HY4 := hide (⟨p', r', o'⟩ : _ ∧ _ ∧ _)
  have hk : Kept w4 y4 (fun k => k = a2) := by rw [hy]; exact kept_setCell _ _ _ _
  have HK4 := hide hk
  have HS4 : Hid (y4.heap.size = w4.heap.size) := hide (by rw [hy]; simp)
  have HB4 : Hid (Below w.heap.size w y4) := hide ((HB3.out.trans (hb.mono HB3.out.size)).trans (below_of_kept hk (by have := HB3.out.size; have := hb.size; omega) (fun k hk => by have := HA.out; omega)))
  have HQ4 := hide hb
  have HO4 := hide hown
  have e2 : w4.cell? ⟨a2, 5, none⟩ = some (.slice none 0 0) := (cell_at o 5).1
  have g2 := (cell_at o 5).2
  have dd0 : (w4.setCell ⟨a2, 5, none⟩ (.slice x4 nf c4)).cell? ⟨a2, 0, none⟩ = some (.slice x1 np c1) := by rw [← hy]; exact (cell_at o' 0).1
  have e0 : (w4.setCell ⟨a2, 5, none⟩ (.slice x4 nf c4)).cell? ⟨a1, 0, none⟩ = some (.slice none 0 0) := by rw [← hy]; exact (cell_at r' 0).1
  have g0 : (w4.setCell ⟨a2, 5, none⟩ (.slice x4 nf c4)).frozen? ⟨a1, 0, none⟩ = false := by rw [← hy]; exact (cell_at r' 0).2
  have dd1 : (w4.setCell ⟨a2, 5, none⟩ (.slice x4 nf c4)).cell? ⟨a2, 1, none⟩ = some (.slice y1a nl d1) := by rw [← hy]; exact (cell_at o' 1).1
  have e1 : (w4.setCell ⟨a2, 5, none⟩ (.slice x4 nf c4)).cell? ⟨a1, 1, none⟩ = some (.slice none 0 0) := by rw [← hy]; exact (cell_at r' 1).1
  have g1 : (w4.setCell ⟨a2, 5, none⟩ (.slice x4 nf c4)).frozen? ⟨a1, 1, none⟩ = false := by rw [← hy]; exact (cell_at r' 1).2
  have dd2 : (w4.setCell ⟨a2, 5, none⟩ (.slice x4 nf c4)).cell? ⟨a2, 2, none⟩ = some (.int .i64 nx) := by rw [← hy]; exact (cell_at o' 2).1
  have e2 : (w4.setCell ⟨a2, 5, none⟩ (.slice x4 nf c4)).cell? ⟨a1, 2, none⟩ = some (.int .i64 0) := by rw [← hy]; exact (cell_at r' 2).1
  have g2 : (w4.setCell ⟨a2, 5, none⟩ (.slice x4 nf c4)).frozen? ⟨a1, 2, none⟩ = false := by rw [← hy]; exact (cell_at r' 2).2
  have dd3 : (w4.setCell ⟨a2, 5, none⟩ (.slice x4 nf c4)).cell? ⟨a2, 3, none⟩ = some (.slice x2 nu c2) := by rw [← hy]; exact (cell_at o' 3).1
  have e3 : (w4.setCell ⟨a2, 5, none⟩ (.slice x4 nf c4)).cell? ⟨a1, 3, none⟩ = some (.slice none 0 0) := by rw [← hy]; exact (cell_at r' 3).1
  have g3 : (w4.setCell ⟨a2, 5, none⟩ (.slice x4 nf c4)).frozen? ⟨a1, 3, none⟩ = false := by rw [← hy]; exact (cell_at r' 3).2
  have dd4 : (w4.setCell ⟨a2, 5, none⟩ (.slice x4 nf c4)).cell? ⟨a2, 4, none⟩ = some (.slice x3 ng c3) := by rw [← hy]; exact (cell_at o' 4).1
  have e4 : (w4.setCell ⟨a2, 5, none⟩ (.slice x4 nf c4)).cell? ⟨a1, 4, none⟩ = some (.slice none 0 0) := by rw [← hy]; exact (cell_at r' 4).1
  have g4 : (w4.setCell ⟨a2, 5, none⟩ (.slice x4 nf c4)).frozen? ⟨a1, 4, none⟩ = false := by rw [← hy]; exact (cell_at r' 4).2
  have dd5 : (w4.setCell ⟨a2, 5, none⟩ (.slice x4 nf c4)).cell? ⟨a2, 5, none⟩ = some (.slice x4 nf c4) := by rw [← hy]; exact (cell_at o' 5).1
  have e5 : (w4.setCell ⟨a2, 5, none⟩ (.slice x4 nf c4)).cell? ⟨a1, 5, none⟩ = some (.slice none 0 0) := by rw [← hy]; exact (cell_at r' 5).1
  have g5 : (w4.setCell ⟨a2, 5, none⟩ (.slice x4 nf c4)).frozen? ⟨a1, 5, none⟩ = false := by rw [← hy]; exact (cell_at r' 5).2
  have HR4 := hide r'
  have HYy := hide hy
  clear hb hown p r o p' r' o' hk o_3 hy
  go_wp2_with fail
  rw [← HYy.out]
  obtain ⟨yz, hyz⟩ : ∃ y, y = ((((((y4.setCell ⟨a1, 0, none⟩ (.slice x1 np c1)).setCell ⟨a1, 1, none⟩ (.slice y1a nl d1)).setCell ⟨a1, 2, none⟩ (.int .i64 nx)).setCell ⟨a1, 3, none⟩ (.slice x2 nu c2)).setCell ⟨a1, 4, none⟩ (.slice x3 ng c3)).setCell ⟨a1, 5, none⟩ (.slice x4 nf c4)) := ⟨_, rfl⟩
  rw [← hyz]
  have z : yz.heap[a1]? = some (Obj.cells #[.slice x1 np c1, .slice y1a nl d1, .int .i64 nx, .slice x2 nu c2, .slice x3 ng c3, .slice x4 nf c4] 48) := by rw [hyz]; exact (heap_setCell_same _ a1 5 _ _ _ (heap_setCell_same _ a1 4 _ _ _ (heap_setCell_same _ a1 3 _ _ _ (heap_setCell_same _ a1 2 _ _ _ (heap_setCell_same _ a1 1 _ _ _ (heap_setCell_same _ a1 0 _ _ _ HR4.out))))))
  have kz : Kept y4 yz (fun k => k = a1) := by rw [hyz]; exact kept_trans (kept_trans (kept_trans (kept_trans (kept_trans (kept_setCell _ _ _ _) (kept_setCell _ _ _ _) (fun j _ h => h)) (kept_setCell _ _ _ _) (fun j _ h => h)) (kept_setCell _ _ _ _) (fun j _ h => h)) (kept_setCell _ _ _ _) (fun j _ h => h)) (kept_setCell _ _ _ _) (fun j _ h => h)
  have hA := HA.out
  have s1 := HZ1.out
  have s2 := HZ2.out
  have s3 := HZ3.out
  have s4 := HZ4.out
  have t1 := HS1.out
  have t2 := HS2.out
  have t3 := HS3.out
  have t4 := HS4.out
  have lt1 := diskOwn_lt HO1.out
  have lt2 := intOwn_lt HO2.out
  have lt3 := intOwn_lt HO3.out
  have lt4 := intOwn_lt HO4.out
  have K1 : ∀ {S T : World}, Kept S T (fun k => k = a2) → Kept S T (fun k => k = a1 ∨ k = a2) := fun h => kept_mono h (fun j _ e => Or.inr e)
  have kz2 : Kept y4 yz (fun k => k = a1 ∨ k = a2) := kept_mono kz (fun j _ e => Or.inl e)
  have k4 : Kept w4 yz (fun k => k = a1 ∨ k = a2) := kept_trans (K1 HK4.out) kz2 (fun j _ h => h)
  have k3 : Kept w3 yz (fun k => k = a1 ∨ k = a2) := kept_trans (kept_trans (K1 HK3.out) (kept_of_all HQ4.out (fun _ => False)) (fun j _ h => h.elim)) k4 (fun j _ h => h)
  have k2 : Kept w2 yz (fun k => k = a1 ∨ k = a2) := kept_trans (kept_trans (K1 HK2.out) (kept_of_all HQ3.out (fun _ => False)) (fun j _ h => h.elim)) k3 (fun j _ h => h)
  have k1 : Kept w1 yz (fun k => k = a1 ∨ k = a2) := kept_trans (kept_trans (K1 HK1.out) (kept_of_all HQ2.out (fun _ => False)) (fun j _ h => h.elim)) k2 (fun j _ h => h)

  have z0 := (cell_at z 0).1
  have z1 := (cell_at z 1).1
  have z2 := (cell_at z 2).1
  have z3 := (cell_at z 3).1
  have z4 := (cell_at z 4).1
  have z5 := (cell_at z 5).1
  refine bodyPost_ret (v := .agg #[.slice x1 np c1, .slice y1a nl d1, .int .i64 nx, .slice x2 nu c2, .slice x3 ng c3, .slice x4 nf c4]) (by simp [results, Tryz.results38, go_sem, z0, z1, z2, z3, z4, z5]) rfl ⟨_, rfl, ⟨_, _, _, _, _, by rw [HNx.out], ?_, ?_, ?_, ?_, ?_, ?_, ?_⟩, ?_⟩
  · have h := diskOwn_kept HO1.out k1 (fun k hk => by have := lt1 k hk; omega)
    obtain ⟨vp', vl', e, d1', d2'⟩ := h
    exact ⟨vp', vl', e, own_down d1' (by omega), own_down d2' (by omega)⟩
  · exact intOwn_down (intOwn_kept HO2.out k2 (fun k hk => by have := lt2 k hk; omega)) (by omega)
  · exact intOwn_down (intOwn_kept HO3.out k3 (fun k hk => by have := lt3 k hk; omega)) (by omega)
  · exact intOwn_down (intOwn_kept HO4.out k4 (fun k hk => by have := lt4 k hk; omega)) (by omega)
  · intro j e1 e2; have := lt2 j e1; have := lt3 j e2; omega
  · intro j e1 e2; have := lt2 j e1; have := lt4 j e2; omega
  · intro j e1 e2; have := lt3 j e1; have := lt4 j e2; omega
  · exact HB4.out.trans (below_of_kept kz2 (by have := HB4.out.size; omega) (fun k hk => by omega))

set_option maxHeartbeats 1000000 in
set_option maxRecDepth 100000 in
theorem eqWork_same (v u : Value) (k : Wk) (hk : k.small) (w : World) (hd : WorkAt w v k) (hu : WorkAt w u k) :
    Calls Tryz.prog 49 #[v, u] w fun e w' => e = .returned (.bool true) ∧ Below w.heap.size w w' := by
  obtain ⟨f1, -, f3, -, f5, f6, f7⟩ := hk
  obtain ⟨vp, vl, vu, vg, vf, rfl, h1, h2, h3, h4, -⟩ := hd
  obtain ⟨up, ul, uu, ug, uf, rfl, g1, g2, g3, g4, -⟩ := hu
  have HC1 := hide (fun wx h h' => eqDisk_any (.agg #[vp, vl]) (.agg #[up, ul]) k.ps k.ps k.ls k.ls (by omega) (by omega) (by omega) (by omega) wx h h')
  have HC2 := hide (fun wx h h' => eqIntS_row k.us k.us (by omega) (by omega) vu uu wx h h')
  have HC3 := hide (fun wx h h' => eqIntS_row k.gs k.gs (by omega) (by omega) vg ug wx h h')
  have HC4 := hide (fun wx h h' => eqIntS_row k.fs k.fs (by omega) (by omega) vf uf wx h h')
  rw [decide_eq_true rfl] at HC1 HC2 HC3 HC4
  have H1 := hide (⟨h1, g1⟩ : _ ∧ _)
  have H2 := hide (⟨h2, g2⟩ : _ ∧ _)
  have H3 := hide (⟨h3, g3⟩ : _ ∧ _)
  have H4 := hide (⟨h4, g4⟩ : _ ∧ _)
  obtain ⟨nx, hnx⟩ : ∃ n, n = k.next := ⟨_, rfl⟩
  rw [← hnx]
  clear h1 h2 h3 h4 g1 g2 g3 g4 f1 f3 f5 f6 f7 hnx
  obtain ⟨w0, hw0⟩ : ∃ w0, w0 = (w.alloc (Obj.cells #[vp, vl, .int .i64 nx, vu, vg, vf] 48)).alloc (Obj.cells #[up, ul, .int .i64 nx, uu, ug, uf] 48) := ⟨_, rfl⟩
  have hb0 : Below w.heap.size w w0 := by rw [hw0]; exact ((Below.refl w.heap.size w).alloc (Nat.le_refl _) _).alloc (by simp) _
  obtain ⟨q0, q1, hs0⟩ := two_allocs w (Obj.cells #[vp, vl, .int .i64 nx, vu, vg, vf] 48) (Obj.cells #[up, ul, .int .i64 nx, uu, ug, uf] 48)
  rw [← hw0] at q0 q1 hs0
  have HPb : Hid (∀ wx, Below w0.heap.size w0 wx → (wx.cell? ⟨w.heap.size, 2, none⟩ = some (.int .i64 nx) ∧ wx.cell? ⟨w.heap.size, 3, none⟩ = some vu ∧ wx.cell? ⟨w.heap.size, 4, none⟩ = some vg ∧ wx.cell? ⟨w.heap.size, 5, none⟩ = some vf) ∧ wx.cell? ⟨w.heap.size + 1, 2, none⟩ = some (.int .i64 nx) ∧ wx.cell? ⟨w.heap.size + 1, 3, none⟩ = some uu ∧ wx.cell? ⟨w.heap.size + 1, 4, none⟩ = some ug ∧ wx.cell? ⟨w.heap.size + 1, 5, none⟩ = some uf) := hide (fun wx hb => by
    have h1 := (hb.block _ (Array.getElem?_eq_some_iff.1 q0).1).trans q0
    have h2 := (hb.block _ (Array.getElem?_eq_some_iff.1 q1).1).trans q1
    exact ⟨⟨(cell_at h1 2).1, (cell_at h1 3).1, (cell_at h1 4).1, (cell_at h1 5).1⟩, (cell_at h2 2).1, (cell_at h2 3).1, (cell_at h2 4).1, (cell_at h2 5).1⟩)
  have HB0 := hide hb0
  clear hb0 q0 q1 hs0
  go_enter Tryz.func49, Tryz.ntmps49
  go_wp2_with fail
  rw [← hw0]
  clear hw0
  refine (HC1.out _ (disk_below H1.out.1 HB0.out) (disk_below H1.out.2 HB0.out)).mono ?_
  rintro e w1 ⟨rfl, hb⟩
  have HX1 := hide hb
  have HB1 : Hid (Below w.heap.size w w1) := hide (HB0.out.trans (hb.mono HB0.out.size))
  obtain ⟨⟨p2, p3, p4, p5⟩, r2, r3, r4, r5⟩ := HPb.out w1 hb
  clear hb
  go_wp2_with fail
  clear p2 p3 p4 p5 r2 r3 r4 r5
  refine (HC2.out _ (row_below H2.out.1 HB1.out) (row_below H2.out.2 HB1.out)).mono ?_
  rintro e w2 ⟨rfl, hb⟩
  have HX2 : Hid (Below w0.heap.size w0 w2) := hide (HX1.out.trans (hb.mono HX1.out.size))
  have HB2 : Hid (Below w.heap.size w w2) := hide (HB1.out.trans (hb.mono HB1.out.size))
  obtain ⟨⟨p2, p3, p4, p5⟩, r2, r3, r4, r5⟩ := HPb.out w2 HX2.out
  clear hb
  go_wp2_with fail
  clear p2 p3 p4 p5 r2 r3 r4 r5
  refine (HC3.out _ (row_below H3.out.1 HB2.out) (row_below H3.out.2 HB2.out)).mono ?_
  rintro e w3 ⟨rfl, hb⟩
  have HX3 : Hid (Below w0.heap.size w0 w3) := hide (HX2.out.trans (hb.mono HX2.out.size))
  have HB3 : Hid (Below w.heap.size w w3) := hide (HB2.out.trans (hb.mono HB2.out.size))
  obtain ⟨⟨p2, p3, p4, p5⟩, r2, r3, r4, r5⟩ := HPb.out w3 HX3.out
  clear hb
  go_wp2_with fail
  clear p2 p3 p4 p5 r2 r3 r4 r5
  refine (HC4.out _ (row_below H4.out.1 HB3.out) (row_below H4.out.2 HB3.out)).mono ?_
  rintro e w4 ⟨rfl, hb⟩
  have HX4 : Hid (Below w0.heap.size w0 w4) := hide (HX3.out.trans (hb.mono HX3.out.size))
  have HB4 : Hid (Below w.heap.size w w4) := hide (HB3.out.trans (hb.mono HB3.out.size))
  obtain ⟨⟨p2, p3, p4, p5⟩, r2, r3, r4, r5⟩ := HPb.out w4 HX4.out
  clear hb
  go_wp2_with fail
  clear p2 p3 p4 p5 r2 r3 r4 r5
  go_ret
  exact ⟨rfl, HB4.out⟩

def marksW (k0 np nl nu ng nf : Nat) (nx : Int) : Wk := ⟨marksS k0 np, marksP (k0 + np) nl, nx, marksI (k0 + np + nl * 2) nu, marksI (k0 + np + nl * 2 + nu) ng, marksI (k0 + np + nl * 2 + nu + ng) nf⟩

theorem Tryz.put_int : (126 : Nat) ≠ 3 := by decide

theorem disk_int_apart {w : World} {B B' : Nat} {v v' : Value} {ps : List ByteArray} {ls : List (Int × ByteArray)} {l : List Int} (h : DiskOwn w B v ps ls) (h' : IntOwn w B' v' l) (j : Nat) (hj : diskBlocks v j) : v'.ownBlock ≠ some j := by
  obtain ⟨vp, vl, rfl, h1, h2⟩ := h
  obtain ⟨vp', vl', e, hk⟩ := hj
  injection e with e
  injection e with e
  injection e with e1 e
  injection e with e2
  subst e1 e2
  rcases hk with hk | hk
  · exact intOwn_apart h1 h' Tryz.str_int j hk
  · exact intOwn_apart h2 h' Tryz.put_int j hk

end Go.Proofs.YtbokjfjdjgopeaaGreatDoor
