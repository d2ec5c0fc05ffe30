/-
  Facts and contracts that the law's own text rests on, by their texts' names: DiskN, EnvN, IntOwn.
-/
import Derived.Test.YtdbpbhemnnffeaaGreatDoorXw2
namespace Go.Proofs.YtdbpbhemnnffeaaGreatDoor
open Go.RowKit
def DiskAt (w : World) (v : Value) (ps : List ByteArray) (ls : List (Int × ByteArray)) : Prop :=
  ∃ vp vl, v = .agg #[vp, vl] ∧ RowAt w 1 vp ps.length (strs ps) ∧ RowAt w 2 vl ls.length (puts ls)
def DiskOwn (w : World) (B : Nat) (v : Value) (ps : List ByteArray) (ls : List (Int × ByteArray)) : Prop :=
  ∃ vp vl, v = .agg #[vp, vl] ∧ w.ownsRow B 9 1 vp ps.length (strs ps) ∧ w.ownsRow B 147 2 vl ls.length (puts ls)
theorem disk_of_own {w : World} {B : Nat} {v : Value} {ps : List ByteArray} {ls : List (Int × ByteArray)} (h : DiskOwn w B v ps ls) : DiskAt w v ps ls := by
  obtain ⟨vp, vl, e, h1, h2⟩ := h
  exact ⟨vp, vl, e, row_of_own h1, row_of_own h2⟩
theorem disk_below {w w' : World} {v : Value} {ps : List ByteArray} {ls : List (Int × ByteArray)} (h : DiskAt w v ps ls) (hb : Below w.heap.size w w') : DiskAt w' v ps ls := by
  obtain ⟨vp, vl, e, h1, h2⟩ := h
  exact ⟨vp, vl, e, row_below h1 hb, row_below h2 hb⟩
def diskBlocks (v : Value) (k : Nat) : Prop := ∃ vp vl, v = .agg #[vp, vl] ∧ (vp.ownBlock = some k ∨ vl.ownBlock = some k)
theorem disk_kept {w w' : World} {v : Value} {ps : List ByteArray} {ls : List (Int × ByteArray)} {S : Nat → Prop} (h : DiskAt w v ps ls) (hk : Kept w w' S) (hS : ∀ k, k < w.heap.size → diskBlocks v k → ¬ S k) : DiskAt w' v ps ls := by
  obtain ⟨vp, vl, rfl, h1, h2⟩ := h
  exact ⟨vp, vl, rfl, row_kept h1 hk (Or.inr fun k hlt e => hS k hlt ⟨vp, vl, rfl, Or.inl e⟩), row_kept h2 hk (Or.inr fun k hlt e => hS k hlt ⟨vp, vl, rfl, Or.inr e⟩)⟩
theorem diskOwn_kept {w w' : World} {B : Nat} {v : Value} {ps : List ByteArray} {ls : List (Int × ByteArray)} {S : Nat → Prop} (h : DiskOwn w B v ps ls) (hk : Kept w w' S) (hS : ∀ k, diskBlocks v k → ¬ S k) : DiskOwn w' B v ps ls := by
  obtain ⟨vp, vl, rfl, h1, h2⟩ := h
  exact ⟨vp, vl, rfl, own_kept h1 hk (fun k e => hS k ⟨vp, vl, rfl, Or.inl e⟩), own_kept h2 hk (fun k e => hS k ⟨vp, vl, rfl, Or.inr e⟩)⟩
theorem diskOwn_lt {w : World} {B : Nat} {v : Value} {ps : List ByteArray} {ls : List (Int × ByteArray)} (h : DiskOwn w B v ps ls) : ∀ k, diskBlocks v k → B ≤ k ∧ k < w.heap.size := by
  obtain ⟨vp, vl, rfl, h1, h2⟩ := h
  rintro k ⟨vp', vl', e, hk⟩
  have e2 : vp = vp' ∧ vl = vl' := by injection e with e; injection e with e; injection e with e1 e; injection e with e2; exact ⟨e1, e2⟩
  obtain ⟨rfl, rfl⟩ := e2
  rcases hk with hk | hk
  · exact h1.lt k hk
  · exact h2.lt k hk
set_option maxHeartbeats 400000 in
theorem szDisk_any (v : Value) (ps : List ByteArray) (ls : List (Int × ByteArray)) (hp : ps.length ≤ maxLen) (hps : ∀ s ∈ ps, s.size ≤ maxLen) (hl : ls.length ≤ maxLen) (hls : ∀ p ∈ ls, p.2.size ≤ maxLen) (left : Nat) (hleft : left ≤ 1048576) (w : World) (hd : DiskAt w v ps ls) :
    Calls Tryz.prog 35 #[v, .int .i64 (left : Int)] w fun e w' => e = .returned (.int .i64 (szOut left (bulkS ps + bulkP ls))) ∧ Below w.heap.size w w' := by
  obtain ⟨vp, vl, rfl, h1, h2⟩ := hd
  have hbB : ∀ o : Obj, Below w.heap.size w (w.alloc o) := fun o => (Below.refl w.heap.size w).alloc (Nat.le_refl _) _
  have HB := hide hbB
  have HC1 := hide (fun wx h => szStringS_any ps hp hps vp left hleft wx h)
  have H1 := hide h1
  have H2 := hide h2
  have HP := hide (⟨hl, hls⟩ : ls.length ≤ maxLen ∧ ∀ p ∈ ls, p.2.size ≤ maxLen)
  clear hp hps hl hls h1 h2 hbB
  by_cases hn : left < bulkS ps
  · have HO : Hid (szOut left (bulkS ps + bulkP ls) = -1) := hide (szOut_no (by omega))
    rw [szOut_no hn] at HC1
    go_enter Tryz.func35, Tryz.ntmps35
    go_wp2_with fail
    refine (HC1.out _ (row_below H1.out (HB.out _))).mono ?_
    rintro e w1 ⟨rfl, rfl⟩
    go_wp2_with fail
    go_ret
    rw [HO.out]
    exact ⟨rfl, HB.out _⟩
  · obtain ⟨m, hm⟩ : ∃ m, m = left - bulkS ps := ⟨_, rfl⟩
    rw [szOut_yes (by omega), ← hm] at HC1
    have hml : m ≤ 1048576 := by omega
    have HC2 := hide (fun wx h => szPutS_any ls HP.out.1 HP.out.2 vl m hml wx h)
    by_cases hn2 : m < bulkP ls
    · have HO : Hid (szOut left (bulkS ps + bulkP ls) = -1) := hide (szOut_no (by omega))
      rw [szOut_no hn2] at HC2
      clear hm hn hn2
      go_enter Tryz.func35, Tryz.ntmps35
      go_wp2_with fail
      refine (HC1.out _ (row_below H1.out (HB.out _))).mono ?_
      rintro e w1 ⟨rfl, rfl⟩
      go_wp2_with fail
      refine (HC2.out _ (row_below H2.out (HB.out _))).mono ?_
      rintro e w2 ⟨rfl, hb2⟩
      go_wp2_with fail
      go_ret
      rw [HO.out]
      exact ⟨rfl, (HB.out _).trans (hb2.mono (HB.out _).size)⟩
    · obtain ⟨r, hr⟩ : ∃ r, r = m - bulkP ls := ⟨_, rfl⟩
      rw [szOut_yes (by omega), ← hr] at HC2
      have hrl : r ≤ 1048576 := by omega
      have HO : Hid (szOut left (bulkS ps + bulkP ls) = (r : Int)) := hide (by rw [szOut_yes (by omega)]; congr 1; omega)
      clear hm hn hn2 hr
      go_enter Tryz.func35, Tryz.ntmps35
      go_wp2_with fail
      refine (HC1.out _ (row_below H1.out (HB.out _))).mono ?_
      rintro e w1 ⟨rfl, rfl⟩
      go_wp2_with fail
      refine (HC2.out _ (row_below H2.out (HB.out _))).mono ?_
      rintro e w2 ⟨rfl, hb2⟩
      go_wp2_with fail
      go_ret
      rw [HO.out]
      exact ⟨rfl, (HB.out _).trans (hb2.mono (HB.out _).size)⟩
set_option maxHeartbeats 1000000 in
theorem toDisk_any (v : Value) (ps : List ByteArray) (ls : List (Int × ByteArray)) (hp : ps.length ≤ 1048576) (hl : ls.length ≤ 1048576) (w : World) (hd : DiskAt w v ps ls) :
    Calls Tryz.prog 42 #[v] w fun e w' => ∃ v', e = .returned v' ∧ DiskOwn w' w.heap.size v' ps ls ∧ Below w.heap.size w w' := by
  obtain ⟨vp, vl, rfl, h1, h2⟩ := hd
  have HC1 := hide (fun wx h => toStringS_any ps hp vp wx h)
  have HC2 := hide (fun wx h => toPutS_any ls hl vl wx h)
  have H1 := hide h1
  have H2 := hide h2
  clear h1 h2 hp hl
  obtain ⟨w0, hw0⟩ : ∃ w0, w0 = ((w.alloc (Obj.cells #[vp, vl] 25)).alloc (Obj.cells #[.slice none 0 0, .slice none 0 0] 45)).alloc (Obj.cells #[.slice none 0 0, .slice none 0 0] 45) := ⟨_, rfl⟩
  have hb0 : Below w.heap.size w w0 := by rw [hw0]; exact (((Below.refl w.heap.size w).alloc (Nat.le_refl _) _).alloc (by simp) _).alloc (by simp; omega) _
  go_enter Tryz.func42, Tryz.ntmps42
  go_wp2_with fail
  rw [← hw0]
  refine (HC1.out _ (row_below H1.out hb0)).mono ?_
  rintro e w1 ⟨u1, rfl, hown1, hb1⟩
  obtain ⟨x1, c1, rfl⟩ := own_slice hown1
  obtain ⟨q0, q1, q2, hs0⟩ := three_allocs w (Obj.cells #[vp, vl] 25) (Obj.cells #[.slice none 0 0, .slice none 0 0] 45) (Obj.cells #[.slice none 0 0, .slice none 0 0] 45)
  rw [← hw0] at q0 q1 q2 hs0
  obtain ⟨a0, ha0⟩ : ∃ a, a = w.heap.size := ⟨_, rfl⟩
  rw [← ha0] at q0 q1 q2 hs0 ⊢
  obtain ⟨a1, ha1⟩ : ∃ a, a = a0 + 1 := ⟨_, rfl⟩
  obtain ⟨a2, ha2⟩ : ∃ a, a = a0 + 1 + 1 := ⟨_, rfl⟩
  rw [← ha2, ← ha1]
  rw [← ha1] at q1
  rw [← ha2] at q2
  have HW0 := hide hw0
  have HA := hide (⟨ha0, ha1, ha2, hs0⟩ : a0 = w.heap.size ∧ a1 = a0 + 1 ∧ a2 = a0 + 1 + 1 ∧ w0.heap.size = a0 + 3)
  have HB0 := hide hb0
  have r0 := (hb1.block a0 (by omega)).trans q0
  have r1 := (hb1.block a1 (by omega)).trans q1
  have r2 := (hb1.block a2 (by omega)).trans q2
  have hn20 : a2 ≠ a0 := by omega
  have hn21 : a2 ≠ a1 := by omega
  have hn10 : a1 ≠ a0 := by omega
  have HN := hide (⟨hn20, hn21, hn10⟩ : a2 ≠ a0 ∧ a2 ≠ a1 ∧ a1 ≠ a0)
  clear hw0 ha0 ha1 ha2 hs0 hb0 q0 q1 q2
  have s2 : (w1.setCell ⟨a2, 0, none⟩ (.slice x1 ps.length c1)).heap[a2]? = some (Obj.cells #[(.slice x1 ps.length c1), .slice none 0 0] 45) := heap_setCell_same w1 a2 0 _ _ _ r2
  have s0 : (w1.setCell ⟨a2, 0, none⟩ (.slice x1 ps.length c1)).heap[a0]? = some (Obj.cells #[vp, vl] 25) := (heap_setCell_other w1 ⟨a2, 0, none⟩ a0 (.slice x1 ps.length c1) (by exact fun e => hn20 e.symm)).trans r0
  have s1 : (w1.setCell ⟨a2, 0, none⟩ (.slice x1 ps.length c1)).heap[a1]? = some (Obj.cells #[.slice none 0 0, .slice none 0 0] 45) := (heap_setCell_other w1 ⟨a2, 0, none⟩ a1 (.slice x1 ps.length c1) (by exact fun e => hn21 e.symm)).trans r1
  have c20 : w1.cell? ⟨a2, 0, none⟩ = some (.slice none 0 0) := (cell_at r2 0).1
  have f20 := (cell_at r2 0).2
  have c01 : (w1.setCell ⟨a2, 0, none⟩ (.slice x1 ps.length c1)).cell? ⟨a0, 1, none⟩ = some vl := (cell_at s0 1).1
  have HB1 := hide hb1
  have HO1 := hide hown1
  have HR := hide (⟨s0, s1, s2⟩ : (w1.setCell ⟨a2, 0, none⟩ (.slice x1 ps.length c1)).heap[a0]? = some (Obj.cells #[vp, vl] 25) ∧ (w1.setCell ⟨a2, 0, none⟩ (.slice x1 ps.length c1)).heap[a1]? = some (Obj.cells #[.slice none 0 0, .slice none 0 0] 45) ∧ (w1.setCell ⟨a2, 0, none⟩ (.slice x1 ps.length c1)).heap[a2]? = some (Obj.cells #[(.slice x1 ps.length c1), .slice none 0 0] 45))
  clear hb1 hown1 r0 r1 r2 s0 s1 s2 hn20 hn21 hn10
  go_wp2_with fail
  have HB2 : Hid (Below w.heap.size w (w1.setCell ⟨a2, 0, none⟩ (.slice x1 ps.length c1))) := hide ((HB0.out.trans (HB1.out.mono HB0.out.size)).setCell (by have := HA.out; show _ ≤ a2; omega) _)
  refine (HC2.out _ (row_below H2.out HB2.out)).mono ?_
  rintro e w3 ⟨u2, rfl, hown2, hb3⟩
  obtain ⟨x2, c2, rfl⟩ := own_slice hown2
  have hsz : (w1.setCell ⟨a2, 0, none⟩ (.slice x1 ps.length c1)).heap.size = w1.heap.size := by simp
  have hlt2 : a2 < (w1.setCell ⟨a2, 0, none⟩ (.slice x1 ps.length c1)).heap.size := (Array.getElem?_eq_some_iff.1 HR.out.2.2).1
  have hlt1 : a1 < (w1.setCell ⟨a2, 0, none⟩ (.slice x1 ps.length c1)).heap.size := (Array.getElem?_eq_some_iff.1 HR.out.2.1).1
  have t1 := (hb3.block a1 hlt1).trans HR.out.2.1
  have t2 := (hb3.block a2 hlt2).trans HR.out.2.2
  have d21 : w3.cell? ⟨a2, 1, none⟩ = some (.slice none 0 0) := (cell_at t2 1).1
  have f21 := (cell_at t2 1).2
  have v2 : (w3.setCell ⟨a2, 1, none⟩ (.slice x2 ls.length c2)).heap[a2]? = some (Obj.cells #[.slice x1 ps.length c1, .slice x2 ls.length c2] 45) := heap_setCell_same w3 a2 1 _ _ _ t2
  have v1 : (w3.setCell ⟨a2, 1, none⟩ (.slice x2 ls.length c2)).heap[a1]? = some (Obj.cells #[.slice none 0 0, .slice none 0 0] 45) := (heap_setCell_other w3 ⟨a2, 1, none⟩ a1 _ (by exact fun e => HN.out.2.1 e.symm)).trans t1
  have e20 : (w3.setCell ⟨a2, 1, none⟩ (.slice x2 ls.length c2)).cell? ⟨a2, 0, none⟩ = some (.slice x1 ps.length c1) := (cell_at v2 0).1
  have e21 : (w3.setCell ⟨a2, 1, none⟩ (.slice x2 ls.length c2)).cell? ⟨a2, 1, none⟩ = some (.slice x2 ls.length c2) := (cell_at v2 1).1
  have e10 : (w3.setCell ⟨a2, 1, none⟩ (.slice x2 ls.length c2)).cell? ⟨a1, 0, none⟩ = some (.slice none 0 0) := (cell_at v1 0).1
  have e11 : (w3.setCell ⟨a2, 1, none⟩ (.slice x2 ls.length c2)).cell? ⟨a1, 1, none⟩ = some (.slice none 0 0) := (cell_at v1 1).1
  have g10 := (cell_at v1 0).2
  have g11 := (cell_at v1 1).2
  have HB3 := hide hb3
  have HO2 := hide hown2
  have HV := hide v1
  clear hb3 hown2 t1 t2 v1 v2 hlt1 hlt2 hsz
  go_wp2_with fail
  have y1 : ((w3.setCell ⟨a2, 1, none⟩ (.slice x2 ls.length c2)).setCell ⟨a1, 0, none⟩ (.slice x1 ps.length c1)).heap[a1]? = some (Obj.cells #[.slice x1 ps.length c1, .slice none 0 0] 45) := heap_setCell_same _ a1 0 _ _ _ HV.out
  have y2 : (((w3.setCell ⟨a2, 1, none⟩ (.slice x2 ls.length c2)).setCell ⟨a1, 0, none⟩ (.slice x1 ps.length c1)).setCell ⟨a1, 1, none⟩ (.slice x2 ls.length c2)).heap[a1]? = some (Obj.cells #[.slice x1 ps.length c1, .slice x2 ls.length c2] 45) := heap_setCell_same _ a1 1 _ _ _ y1
  have z0 := (cell_at y2 0).1
  have z1 := (cell_at y2 1).1
  have hA := HA.out
  have k1 : Kept w1 (w1.setCell ⟨a2, 0, none⟩ (.slice x1 ps.length c1)) (fun k => k = a1 ∨ k = a2) := kept_mono (kept_setCell _ _ _ _) (fun j _ h => Or.inr h)
  have k2 : Kept w3 (((w3.setCell ⟨a2, 1, none⟩ (.slice x2 ls.length c2)).setCell ⟨a1, 0, none⟩ (.slice x1 ps.length c1)).setCell ⟨a1, 1, none⟩ (.slice x2 ls.length c2)) (fun k => k = a1 ∨ k = a2) := kept_trans (kept_trans (kept_mono (kept_setCell _ _ _ _) (fun j _ h => Or.inr h)) (kept_setCell _ _ _ _) (fun j _ h => Or.inl h)) (kept_setCell _ _ _ _) (fun j _ h => Or.inl h)
  have k3 := kept_trans (kept_trans k1 (kept_of_all HB3.out (fun _ => False)) (fun j _ h => h.elim)) k2 (fun j _ h => h)
  refine bodyPost_ret (v := .agg #[.slice x1 ps.length c1, .slice x2 ls.length c2]) (by simp [results, Tryz.results42, go_sem, z0, z1]) rfl ⟨_, rfl, ⟨_, _, rfl, ?_, ?_⟩, ?_⟩
  · exact own_down (own_kept HO1.out k3 (fun k hk => by have := (HO1.out.lt k hk).1; omega)) (by omega)
  · refine own_down (own_kept HO2.out k2 (fun k hk => by have h1 := (HO2.out.lt k hk).1; have h2 := HB1.out.size; simp at h1; omega)) (by have h2 := HB1.out.size; simp; omega)
  · refine ((((HB2.out.trans (HB3.out.mono HB2.out.size)).setCell ?_ _).setCell ?_ _).setCell ?_ _)
    · show _ ≤ a2; omega
    · show _ ≤ a1; omega
    · show _ ≤ a1; omega
set_option maxHeartbeats 1000000 in
theorem eqDisk_any (v u : Value) (ps qs : List ByteArray) (ls ms : List (Int × ByteArray)) (hp : ps.length ≤ 9223372036854775807) (hq : qs.length ≤ 9223372036854775807) (hl : ls.length ≤ 9223372036854775807) (hm : ms.length ≤ 9223372036854775807) (w : World) (hd : DiskAt w v ps ls) (hu : DiskAt w u qs ms) :
    Calls Tryz.prog 50 #[v, u] w fun e w' => e = .returned (.bool (decide ((ps, ls) = (qs, ms)))) ∧ Below w.heap.size w w' := by
  obtain ⟨vp, vl, rfl, h1, h2⟩ := hd
  obtain ⟨up, ul, rfl, h3, h4⟩ := hu
  have HC1 := hide (fun wx h h' => eqStringS_row ps qs hp hq vp up wx h h')
  have HC2 := hide (fun wx h h' => eqPutS_row ls ms hl hm vl ul wx h h')
  have HR := hide (⟨h1, h2, h3, h4⟩ : RowAt w 1 vp ps.length (strs ps) ∧ RowAt w 2 vl ls.length (puts ls) ∧ RowAt w 1 up qs.length (strs qs) ∧ RowAt w 2 ul ms.length (puts ms))
  clear h1 h2 h3 h4 hp hq hl hm
  obtain ⟨w0, hw0⟩ : ∃ w0, w0 = (w.alloc (Obj.cells #[vp, vl] 45)).alloc (Obj.cells #[up, ul] 45) := ⟨_, rfl⟩
  have hb0 : Below w.heap.size w w0 := by rw [hw0]; exact ((Below.refl w.heap.size w).alloc (Nat.le_refl _) _).alloc (by simp) _
  obtain ⟨q0, q1, hs0⟩ := two_allocs w (Obj.cells #[vp, vl] 45) (Obj.cells #[up, ul] 45)
  rw [← hw0] at q0 q1 hs0
  have HB0 := hide hb0
  have HQ := hide (⟨q0, q1, hs0⟩ : w0.heap[w.heap.size]? = some (Obj.cells #[vp, vl] 45) ∧ w0.heap[w.heap.size + 1]? = some (Obj.cells #[up, ul] 45) ∧ w0.heap.size = w.heap.size + 2)
  clear hb0 q0 q1 hs0
  by_cases h1 : ps = qs
  · rw [decide_eq_true h1] at HC1
    go_enter Tryz.func50, Tryz.ntmps50
    go_wp2_with fail
    rw [← hw0]
    refine (HC1.out _ (row_below HR.out.1 HB0.out) (row_below HR.out.2.2.1 HB0.out)).mono ?_
    rintro e w1 ⟨rfl, hb1⟩
    have HB1 : Hid (Below w.heap.size w w1) := hide (HB0.out.trans (hb1.mono HB0.out.size))
    have c0 : w1.cell? ⟨w.heap.size, 1, none⟩ = some vl := (cell_at ((hb1.block _ (by rw [HQ.out.2.2]; omega)).trans HQ.out.1) 1).1
    have c1 : w1.cell? ⟨w.heap.size + 1, 1, none⟩ = some ul := (cell_at ((hb1.block _ (by rw [HQ.out.2.2]; omega)).trans HQ.out.2.1) 1).1
    have HW := hide hw0
    clear hb1 hw0
    by_cases h2 : ls = ms
    · rw [decide_eq_true h2] at HC2
      have HD : Hid (decide ((ps, ls) = (qs, ms)) = true) := hide (by rw [h1, h2]; simp)
      clear h1 h2
      go_wp2_with fail
      refine (HC2.out _ (row_below HR.out.2.1 HB1.out) (row_below HR.out.2.2.2 HB1.out)).mono ?_
      rintro e w2 ⟨rfl, hb2⟩
      go_wp2_with fail
      go_ret
      rw [HD.out]
      exact ⟨rfl, HB1.out.trans (hb2.mono HB1.out.size)⟩
    · rw [decide_eq_false h2] at HC2
      have HD : Hid (decide ((ps, ls) = (qs, ms)) = false) := hide (by simp [h2])
      clear h1 h2
      go_wp2_with fail
      refine (HC2.out _ (row_below HR.out.2.1 HB1.out) (row_below HR.out.2.2.2 HB1.out)).mono ?_
      rintro e w2 ⟨rfl, hb2⟩
      go_wp2_with fail
      go_ret
      rw [HD.out]
      exact ⟨rfl, HB1.out.trans (hb2.mono HB1.out.size)⟩
  · rw [decide_eq_false h1] at HC1
    have HD : Hid (decide ((ps, ls) = (qs, ms)) = false) := hide (by simp [h1])
    clear h1
    go_enter Tryz.func50, Tryz.ntmps50
    go_wp2_with fail
    rw [← hw0]
    refine (HC1.out _ (row_below HR.out.1 HB0.out) (row_below HR.out.2.2.1 HB0.out)).mono ?_
    rintro e w1 ⟨rfl, hb1⟩
    have HW := hide hw0
    clear hw0
    go_wp2_with fail
    go_ret
    rw [HD.out]
    exact ⟨rfl, HB0.out.trans (hb1.mono HB0.out.size)⟩
open Go.RowKit
theorem disk_form {w : World} {B : Nat} {v : Value} {ps : List ByteArray} {ls : List (Int × ByteArray)} (h : DiskOwn w B v ps ls) : ∃ x c y d, v = .agg #[.slice x ps.length c, .slice y ls.length d] := by
  obtain ⟨vp, vl, rfl, h1, h2⟩ := h
  obtain ⟨x, c, rfl⟩ := own_slice h1
  obtain ⟨y, d, rfl⟩ := own_slice h2
  exact ⟨x, c, y, d, rfl⟩
open Go.RowKit
def IntOwn (w : World) (B : Nat) (v : Value) (l : List Int) : Prop :=
  ∃ a cap, v = .slice a l.length cap ∧ l.length ≤ cap ∧ (a = none ∧ l = [] ∨ ∃ g off cs, a = some ⟨g, off, none⟩ ∧ B ≤ g ∧ w.heap[g]? = some (.cells cs 3 (0, 0)) ∧ ∀ i, i < l.length → cs[off + i]? = (ints l)[i]?)
theorem intOwn_cap {w : World} {B : Nat} {v : Value} {l : List Int} (h : IntOwn w B v l) : ∃ a cap, v = .slice a l.length cap ∧ l.length ≤ cap := by
  obtain ⟨a, cap, e, hc, -⟩ := h
  exact ⟨a, cap, e, hc⟩
theorem intOwn_row {w : World} {B : Nat} {v : Value} {l : List Int} (h : IntOwn w B v l) : RowAt w 1 v l.length (ints l) := by
  obtain ⟨a, cap, rfl, hcap, h⟩ := h
  refine ⟨by rw [ints_length]; omega, a, cap, rfl, ?_⟩
  rcases h with ⟨-, rfl⟩ | ⟨g, off, cs, rfl, -, hh, hc⟩
  · exact Or.inl rfl
  · exact Or.inr ⟨g, off, rfl, (Array.getElem?_eq_some_iff.1 hh).1, fun j hj => (cell_at hh (off + j)).1.trans (hc j (by omega))⟩
theorem intOwn_slice {w : World} {B : Nat} {v : Value} {l : List Int} (h : IntOwn w B v l) : ∃ a cap, v = .slice a l.length cap := by
  obtain ⟨a, cap, e, -⟩ := h
  exact ⟨a, cap, e⟩
theorem intOwn_lt {w : World} {B : Nat} {v : Value} {l : List Int} (h : IntOwn w B v l) : ∀ k, v.ownBlock = some k → B ≤ k ∧ k < w.heap.size := by
  obtain ⟨a, cap, rfl, hcap, h⟩ := h
  intro k hk
  rcases h with ⟨rfl, -⟩ | ⟨g, off, cs, rfl, hB, hh, -⟩
  · cases hk
  · injection hk with hk
    have hk : g = k := hk
    subst hk
    exact ⟨hB, (Array.getElem?_eq_some_iff.1 hh).1⟩
theorem intOwn_kept {w w' : World} {B : Nat} {v : Value} {l : List Int} {S : Nat → Prop} (h : IntOwn w B v l) (hk : Kept w w' S) (hS : ∀ k, v.ownBlock = some k → ¬ S k) : IntOwn w' B v l := by
  obtain ⟨a, cap, rfl, hcap, h⟩ := h
  refine ⟨a, cap, rfl, hcap, ?_⟩
  rcases h with h | ⟨g, off, cs, rfl, hB, hh, hc⟩
  · exact Or.inl h
  · exact Or.inr ⟨g, off, cs, rfl, hB, (hk.2.2.2.2 g (Array.getElem?_eq_some_iff.1 hh).1 (hS g rfl)).trans hh, hc⟩
theorem intOwn_down {w : World} {B B' : Nat} {v : Value} {l : List Int} (h : IntOwn w B v l) (hB : B' ≤ B) : IntOwn w B' v l := by
  obtain ⟨a, cap, rfl, hcap, h⟩ := h
  refine ⟨a, cap, rfl, hcap, ?_⟩
  rcases h with h | ⟨g, off, cs, rfl, hg, hh, hc⟩
  · exact Or.inl h
  · exact Or.inr ⟨g, off, cs, rfl, Nat.le_trans hB hg, hh, hc⟩
theorem intOwn_of_own {w : World} {B : Nat} {v : Value} {l : List Int} (h : w.ownsRow B 3 1 v l.length (ints l)) : IntOwn w B v l := by
  have hc := h
  rcases h.2 with ⟨rfl, h0⟩ | ⟨g, cap, cur, rfl, hg, hh, hnc, -⟩
  · have h0 : l.length = 0 := h0
    exact ⟨none, 0, by rw [h0], by omega, Or.inl ⟨rfl, List.eq_nil_of_length_eq_zero h0⟩⟩
  · exact ⟨_, _, rfl, hnc, Or.inr ⟨g, 0, cur, rfl, hg, hh, fun i hi => by rw [Nat.zero_add]; exact (cell_at hh i).1.symm.trans (hc.cellAt i (by omega))⟩⟩
end Go.Proofs.YtdbpbhemnnffeaaGreatDoor
