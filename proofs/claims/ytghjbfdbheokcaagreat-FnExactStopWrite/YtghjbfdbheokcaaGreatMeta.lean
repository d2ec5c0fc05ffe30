/-
  Metas (three numbers and frees), read only ('MetaAt') or in new memory ('MetaOwn'), and the laws' own helpers over them by contracts: szMeta, toMeta, eqMeta.
-/
import Derived.Test.YtghjbfdbheokcaaGreatFreeRow2
import Derived.Test.YtghjbfdbheokcaaGreatPlain18
namespace Go.Proofs.YtghjbfdbheokcaaGreat
open Go.RowKit

/-- a meta that reads so -/
def MetaAt (w : World) (v : Value) (m : Mt) : Prop := ∃ vf, v = .agg #[.int .i64 m.tx, .int .i64 m.root, .int .i64 m.next, vf] ∧ FreesAt w vf m.fs

/-- a meta in memory of its own -/
def MetaOwn (w : World) (B : Nat) (v : Value) (m : Mt) : Prop := ∃ vf l, v = .agg #[.int .i64 m.tx, .int .i64 m.root, .int .i64 m.next, vf] ∧ OwnF w B vf l m.fs

theorem meta_of_own {w : World} {B : Nat} {v : Value} {m : Mt} (h : MetaOwn w B v m) : MetaAt w v m := by
  obtain ⟨vf, l, e, h⟩ := h
  exact ⟨vf, e, frees_of_own h⟩

theorem meta_below {w w' : World} {v : Value} {m : Mt} (h : MetaAt w v m) (hb : Below w.heap.size w w') : MetaAt w' v m := by
  obtain ⟨vf, e, h⟩ := h
  exact ⟨vf, e, frees_below h hb⟩

theorem metaOwn_below {w w' : World} {B : Nat} {v : Value} {m : Mt} (h : MetaOwn w B v m) (hb : Below w.heap.size w w') : MetaOwn w' B v m := by
  obtain ⟨vf, l, e, h⟩ := h
  exact ⟨vf, l, e, ownF_stays h hb⟩

theorem metaOwn_down {w : World} {B B' : Nat} {v : Value} {m : Mt} (h : MetaOwn w B v m) (hb : B' ≤ B) : MetaOwn w B' v m := by
  obtain ⟨vf, l, e, h⟩ := h
  exact ⟨vf, l, e, ownF_down h hb⟩

/-- the blocks of a meta's rows -/
def metaBlocks (w : World) (B : Nat) (v : Value) (m : Mt) (b : Nat) : Prop := ∃ vf l, v = .agg #[.int .i64 m.tx, .int .i64 m.root, .int .i64 m.next, vf] ∧ OwnF w B vf l m.fs ∧ freeBlocks vf l b

set_option maxHeartbeats 1000000 in
theorem szMeta_any (v : Value) (m : Mt) (hl : m.fs.length ≤ maxLen) (hs : ∀ f ∈ m.fs, f.2.length ≤ maxLen) (left : Nat) (hleft : left ≤ 1048576) (w : World) (hd : MetaAt w v m) :
    Calls Tryz.prog 12 #[v, .int .i64 (left : Int)] w fun e w' => e = .returned (.int .i64 (szOut left (bulkF m.fs))) ∧ Below w.heap.size w w' := by
  obtain ⟨vf, rfl, h1⟩ := hd
  obtain ⟨tx, root, next, fs⟩ := m
  dsimp only at h1 hl hs ⊢
  obtain ⟨w0, hw0⟩ : ∃ w0, w0 = w.alloc (Obj.cells #[.int .i64 tx, .int .i64 root, .int .i64 next, vf] 28) := ⟨_, rfl⟩
  have hb0 : Below w.heap.size w w0 := by rw [hw0]; exact (Below.refl w.heap.size w).alloc (Nat.le_refl _) _
  have HC1 := hide (szFreeS_any fs hl hs vf left hleft w0 (frees_below h1 hb0))
  have HB := hide hb0
  clear h1 hb0 hl hs
  by_cases n1 : bulkF fs ≤ left
  · rw [szOut_yes n1] at HC1 ⊢
    obtain ⟨z, hz⟩ : ∃ z, z = left - bulkF fs := ⟨_, rfl⟩
    rw [← hz] at HC1 ⊢
    clear hz n1
    go_enter Tryz.func12, Tryz.ntmps12
    go_wp2_with fail
    rw [← hw0]
    clear hw0
    refine HC1.out.mono ?_
    rintro e w1 ⟨rfl, hb1⟩
    have HB1 := hide (HB.out.trans (hb1.mono HB.out.size))
    clear hb1
    go_wp2_with fail
    go_ret
    exact ⟨rfl, HB1.out⟩
  · rw [szOut_no (by omega)] at HC1 ⊢
    clear n1
    go_enter Tryz.func12, Tryz.ntmps12
    go_wp2_with fail
    rw [← hw0]
    clear hw0
    refine HC1.out.mono ?_
    rintro e w1 ⟨rfl, hb1⟩
    have HB1 := hide (HB.out.trans (hb1.mono HB.out.size))
    clear hb1
    go_wp2_with fail
    go_ret
    exact ⟨rfl, HB1.out⟩

set_option maxHeartbeats 2000000 in
set_option maxRecDepth 100000 in
theorem toMeta_any (v : Value) (m : Mt) (hl : m.fs.length ≤ 1048576) (hs : ∀ f ∈ m.fs, f.2.length ≤ 1048576) (w : World) (hd : MetaAt w v m) :
    Calls Tryz.prog 20 #[v] w fun e w' => ∃ v', e = .returned v' ∧ MetaOwn w' w.heap.size v' m ∧ Below w.heap.size w w' := by
  obtain ⟨vf, rfl, hr⟩ := hd
  obtain ⟨tx, root, next, fs⟩ := m
  dsimp only at hr hl hs ⊢
  obtain ⟨pa, pc, rfl⟩ := frees_slice hr
  have HC3 := hide (fun wx h => toFreeS_any fs hl hs (.slice pa fs.length pc) wx h)
  have H3 := hide hr
  clear hr hl hs
  obtain ⟨w0, hw0⟩ : ∃ w0, w0 = ((w.alloc (Obj.cells #[.int .i64 tx, .int .i64 root, .int .i64 next, .slice pa fs.length pc] 28)).alloc (Obj.cells #[.int .i64 0, .int .i64 0, .int .i64 0, .slice none 0 0] 43)).alloc (Obj.cells #[.int .i64 tx, .int .i64 root, .int .i64 next, .slice none 0 0] 43) := ⟨_, rfl⟩
  have hb0 : Below w.heap.size w w0 := by rw [hw0]; exact (((Below.refl w.heap.size w).alloc (Nat.le_refl _) _).alloc (by simp) _).alloc (by simp; omega) _
  obtain ⟨-, q1, q2, hs0⟩ := three_allocs w (Obj.cells #[.int .i64 tx, .int .i64 root, .int .i64 next, .slice pa fs.length pc] 28) (Obj.cells #[.int .i64 0, .int .i64 0, .int .i64 0, .slice none 0 0] 43) (Obj.cells #[.int .i64 tx, .int .i64 root, .int .i64 next, .slice none 0 0] 43)
  rw [← hw0] at q1 q2 hs0
  have HB0 := hide hb0
  clear hb0
  go_enter Tryz.func20, Tryz.ntmps20
  go_wp2_with fail
  rw [← hw0]
  clear hw0
  refine (HC3.out _ (frees_below H3.out HB0.out)).mono ?_
  rintro e w3 ⟨u3, l, rfl, hown3, hb3⟩
  obtain ⟨x3, c3, rfl⟩ := own_slice hown3.1
  obtain ⟨a1, ha1⟩ : ∃ a, a = w.heap.size + 1 := ⟨_, rfl⟩
  obtain ⟨a2, ha2⟩ : ∃ a, a = w.heap.size + 1 + 1 := ⟨_, rfl⟩
  rw [← ha2, ← ha1]
  rw [← ha1] at q1
  rw [← ha2] at q2
  have HA := hide (⟨ha1, ha2, hs0⟩ : a1 = w.heap.size + 1 ∧ a2 = w.heap.size + 1 + 1 ∧ w0.heap.size = w.heap.size + 3)
  have hne : a1 ≠ a2 := by omega
  have r3 := (hb3.block a1 (by omega)).trans q1
  have o3 := (hb3.block a2 (by omega)).trans q2
  have c23 : w3.cell? ⟨a2, 3, none⟩ = some (.slice none 0 0) := (cell_at o3 3).1
  have f23 := (cell_at o3 3).2
  obtain ⟨y3, hy3⟩ : ∃ y, y = w3.setCell ⟨a2, 3, none⟩ (.slice x3 fs.length c3) := ⟨_, rfl⟩
  have r3' : y3.heap[a1]? = some (Obj.cells #[.int .i64 0, .int .i64 0, .int .i64 0, .slice none 0 0] 43) := by rw [hy3]; exact blk_other r3 hne
  have o3' : y3.heap[a2]? = some (Obj.cells #[.int .i64 tx, .int .i64 root, .int .i64 next, .slice x3 fs.length c3] 43) := by rw [hy3]; exact heap_setCell_same w3 a2 3 _ _ _ o3
  have k3 : Kept w3 y3 (fun k => k = a1 ∨ k = a2) := by rw [hy3]; exact kept_mono (kept_setCell _ _ _ _) (fun j _ h => Or.inr h)
  have d0 : (w3.setCell ⟨a2, 3, none⟩ (.slice x3 fs.length c3)).cell? ⟨a2, 0, none⟩ = some (.int .i64 tx) := by rw [← hy3]; exact (cell_at o3' 0).1
  have d1 : (w3.setCell ⟨a2, 3, none⟩ (.slice x3 fs.length c3)).cell? ⟨a2, 1, none⟩ = some (.int .i64 root) := by rw [← hy3]; exact (cell_at o3' 1).1
  have d2 : (w3.setCell ⟨a2, 3, none⟩ (.slice x3 fs.length c3)).cell? ⟨a2, 2, none⟩ = some (.int .i64 next) := by rw [← hy3]; exact (cell_at o3' 2).1
  have d3 : (w3.setCell ⟨a2, 3, none⟩ (.slice x3 fs.length c3)).cell? ⟨a2, 3, none⟩ = some (.slice x3 fs.length c3) := by rw [← hy3]; exact (cell_at o3' 3).1
  have e0 : (w3.setCell ⟨a2, 3, none⟩ (.slice x3 fs.length c3)).cell? ⟨a1, 0, none⟩ = some (.int .i64 0) := by rw [← hy3]; exact (cell_at r3' 0).1
  have e1 : (w3.setCell ⟨a2, 3, none⟩ (.slice x3 fs.length c3)).cell? ⟨a1, 1, none⟩ = some (.int .i64 0) := by rw [← hy3]; exact (cell_at r3' 1).1
  have e2 : (w3.setCell ⟨a2, 3, none⟩ (.slice x3 fs.length c3)).cell? ⟨a1, 2, none⟩ = some (.int .i64 0) := by rw [← hy3]; exact (cell_at r3' 2).1
  have e3 : (w3.setCell ⟨a2, 3, none⟩ (.slice x3 fs.length c3)).cell? ⟨a1, 3, none⟩ = some (.slice none 0 0) := by rw [← hy3]; exact (cell_at r3' 3).1
  have g0 : (w3.setCell ⟨a2, 3, none⟩ (.slice x3 fs.length c3)).frozen? ⟨a1, 0, none⟩ = false := by rw [← hy3]; exact (cell_at r3' 0).2
  have g1 : (w3.setCell ⟨a2, 3, none⟩ (.slice x3 fs.length c3)).frozen? ⟨a1, 1, none⟩ = false := by rw [← hy3]; exact (cell_at r3' 1).2
  have g2 : (w3.setCell ⟨a2, 3, none⟩ (.slice x3 fs.length c3)).frozen? ⟨a1, 2, none⟩ = false := by rw [← hy3]; exact (cell_at r3' 2).2
  have g3 : (w3.setCell ⟨a2, 3, none⟩ (.slice x3 fs.length c3)).frozen? ⟨a1, 3, none⟩ = false := by rw [← hy3]; exact (cell_at r3' 3).2
  have HR3 := hide r3'
  have HK3 := hide k3
  have HY3 := hide hy3
  have HO3 := hide hown3
  have HB3 := hide hb3
  clear hb3 hown3 r3 o3 r3' o3' k3 hy3 ha1 ha2 hs0 q1 q2 hne
  go_wp2_with fail
  rw [← HY3.out]
  have k4 : Kept w3 ((((y3.setCell ⟨a1, 0, none⟩ (.int .i64 tx)).setCell ⟨a1, 1, none⟩ (.int .i64 root)).setCell ⟨a1, 2, none⟩ (.int .i64 next)).setCell ⟨a1, 3, none⟩ (.slice x3 fs.length c3)) (fun k => k = a1 ∨ k = a2) := kept_trans (kept_trans (kept_trans (kept_trans HK3.out (kept_setCell _ _ _ _) (fun j _ h => Or.inl h)) (kept_setCell _ _ _ _) (fun j _ h => Or.inl h)) (kept_setCell _ _ _ _) (fun j _ h => Or.inl h)) (kept_setCell _ _ _ _) (fun j _ h => Or.inl h)
  have z : ((((y3.setCell ⟨a1, 0, none⟩ (.int .i64 tx)).setCell ⟨a1, 1, none⟩ (.int .i64 root)).setCell ⟨a1, 2, none⟩ (.int .i64 next)).setCell ⟨a1, 3, none⟩ (.slice x3 fs.length c3)).heap[a1]? = some (Obj.cells #[.int .i64 tx, .int .i64 root, .int .i64 next, .slice x3 fs.length c3] 43) := heap_setCell_same _ a1 3 _ _ _ (heap_setCell_same _ a1 2 _ _ _ (heap_setCell_same _ a1 1 _ _ _ (heap_setCell_same _ a1 0 _ _ _ HR3.out)))
  have z0 := (cell_at z 0).1
  have z1 := (cell_at z 1).1
  have z2 := (cell_at z 2).1
  have z3 := (cell_at z 3).1
  have hA := HA.out
  have hsz3 := HB3.out.size
  refine bodyPost_ret (v := .agg #[.int .i64 tx, .int .i64 root, .int .i64 next, .slice x3 fs.length c3]) (by simp [results, Tryz.results20, go_sem, z0, z1, z2, z3]) rfl ⟨_, rfl, ⟨_, l, rfl, ?_⟩, ?_⟩
  · exact ownF_down (ownF_kept HO3.out k4 (fun b hb => by have := (ownF_lt HO3.out b hb).1; omega)) (by omega)
  · exact (HB0.out.trans (HB3.out.mono HB0.out.size)).trans (below_of_kept k4 (by have := HB0.out.size; omega) (fun k hk => by omega))

set_option maxHeartbeats 1000000 in
set_option maxRecDepth 100000 in
theorem eqMeta_same (v u : Value) (m : Mt) (hl : m.fs.length ≤ 1048576) (hs : ∀ f ∈ m.fs, f.2.length ≤ 1048576) (w : World) (hd : MetaAt w v m) (hu : MetaAt w u m) :
    Calls Tryz.prog 27 #[v, u] w fun e w' => e = .returned (.bool true) ∧ Below w.heap.size w w' := by
  obtain ⟨vf, rfl, hr⟩ := hd
  obtain ⟨uf, rfl, hq⟩ := hu
  obtain ⟨tx, root, next, fs⟩ := m
  dsimp only at hr hq hl hs ⊢
  have HC3 := hide (fun wx h h' => eqFreeS_same fs hl hs vf uf wx h h')
  have HR := hide (⟨hr, hq⟩ : _ ∧ _)
  clear hr hq hl hs
  obtain ⟨w0, hw0⟩ : ∃ w0, w0 = (w.alloc (Obj.cells #[.int .i64 tx, .int .i64 root, .int .i64 next, vf] 43)).alloc (Obj.cells #[.int .i64 tx, .int .i64 root, .int .i64 next, uf] 43) := ⟨_, rfl⟩
  have hb0 : Below w.heap.size w w0 := by rw [hw0]; exact ((Below.refl w.heap.size w).alloc (Nat.le_refl _) _).alloc (by simp) _
  have HB0 := hide hb0
  have dl : (tx != tx) = false := by simp
  have dr : (root != root) = false := by simp
  have dn : (next != next) = false := by simp
  clear hb0
  go_enter Tryz.func27, Tryz.ntmps27
  go_wp2_with fail
  rw [← hw0]
  clear hw0
  refine (HC3.out _ (frees_below HR.out.1 HB0.out) (frees_below HR.out.2 HB0.out)).mono ?_
  rintro e w3 ⟨rfl, hb3⟩
  have HB3 : Hid (Below w.heap.size w w3) := hide (HB0.out.trans (hb3.mono HB0.out.size))
  clear hb3
  go_wp2_with fail
  go_ret
  exact ⟨rfl, HB3.out⟩
end Go.Proofs.YtghjbfdbheokcaaGreat
