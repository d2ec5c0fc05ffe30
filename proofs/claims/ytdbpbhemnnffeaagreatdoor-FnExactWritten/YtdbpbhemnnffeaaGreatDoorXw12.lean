/-
  Facts and contracts that the law's own text rests on, by their texts' names: TxnRow.
-/
import Derived.Test.YtdbpbhemnnffeaaGreatDoorXw9
import Derived.Test.YtdbpbhemnnffeaaGreatDoorXw10
namespace Go.Proofs.YtdbpbhemnnffeaaGreatDoor
open Go.RowKit
def bulkT (m : Mt) (k : Wk) : Nat := bulkF m.fs + k.bulk
set_option maxHeartbeats 4000000 in
set_option maxRecDepth 100000 in
theorem szTxn_any (v : Value) (m : Mt) (k : Wk) (root : Int) (hl : m.fs.length ≤ maxLen) (hs : ∀ f ∈ m.fs, f.2.length ≤ maxLen) (hk : k.fits) (left : Nat) (hleft : left ≤ 1048576) (w : World) (hd : TxnAt w v m k root) :
    Calls Tryz.prog 38 #[v, .int .i64 (left : Int)] w fun e w' => e = .returned (.int .i64 (szOut left (bulkT m k))) ∧ Below w.heap.size w w' := by
  obtain ⟨vr, vp, vl, vu, vg, vf, rfl, h1, h2⟩ := hd
  obtain ⟨tx, htx⟩ : ∃ n, n = m.tx := ⟨_, rfl⟩
  obtain ⟨mr, hmr⟩ : ∃ n, n = m.root := ⟨_, rfl⟩
  obtain ⟨mn, hmn⟩ : ∃ n, n = m.next := ⟨_, rfl⟩
  obtain ⟨wn, hwn⟩ : ∃ n, n = k.next := ⟨_, rfl⟩
  rw [← htx, ← hmr, ← hmn] at h1
  rw [← hwn] at h2
  have HL : Hid (m.tx = tx ∧ m.root = mr ∧ m.next = mn ∧ k.next = wn) := hide ⟨htx.symm, hmr.symm, hmn.symm, hwn.symm⟩
  rw [← htx, ← hmr, ← hmn, ← hwn]
  have HM := hide h1
  have HW := hide h2
  clear h1 h2 htx hmr hmn hwn
  have HC1 := hide (fun wx h => szMeta_any (.agg #[.int .i64 tx, .int .i64 mr, .int .i64 mn, vr]) m hl hs left hleft wx h)
  have HC2 := hide (fun (l2 : Nat) (h2 : l2 ≤ 1048576) wx h => szWork_any (.agg #[vp, vl, .int .i64 wn, vu, vg, vf]) k hk l2 h2 wx h)
  obtain ⟨w0, hw0⟩ : ∃ w0, w0 = w.alloc (Obj.cells #[.int .i64 tx, .int .i64 mr, .int .i64 mn, vr, vp, vl, .int .i64 wn, vu, vg, vf, .int .i64 root] 34) := ⟨_, rfl⟩
  have hb0 : Below w.heap.size w w0 := by rw [hw0]; exact (Below.refl w.heap.size w).alloc (Nat.le_refl _) _
  have hx0 : w0.heap[w.heap.size]? = some (Obj.cells #[.int .i64 tx, .int .i64 mr, .int .i64 mn, vr, vp, vl, .int .i64 wn, vu, vg, vf, .int .i64 root] 34) := by rw [hw0]; exact heap_alloc_new w _
  have HB0 := hide hb0
  have HX0 := hide (⟨hx0, (by rw [hw0]; simp : w.heap.size < w0.heap.size)⟩ : _ ∧ _)
  clear hb0 hx0 hl hs hk
  by_cases n1 : bulkF m.fs ≤ left
  · rw [szOut_yes n1] at HC1
    obtain ⟨z, hz⟩ : ∃ z, z = left - bulkF m.fs := ⟨_, rfl⟩
    rw [← hz] at HC1
    have hzl : z ≤ 1048576 := by omega
    have HC3 := hide (HC2.out z hzl)
    have HE : Hid (szOut left (bulkT m k) = szOut z k.bulk) := hide (by
      unfold bulkT
      by_cases n2 : k.bulk ≤ z
      · rw [szOut_yes (by omega), szOut_yes n2]; omega
      · rw [szOut_no (by omega), szOut_no (by omega)])
    rw [HE.out]
    clear hz n1 hzl HE
    by_cases n2 : k.bulk ≤ z
    · rw [szOut_yes n2] at HC3 ⊢
      obtain ⟨y, hy⟩ : ∃ y, y = z - k.bulk := ⟨_, rfl⟩
      rw [← hy] at HC3 ⊢
      clear hy n2
      go_enter Tryz.func38, Tryz.ntmps38
      go_wp2_with fail
      rw [← hw0]
      clear hw0
      refine (HC1.out _ (meta_below HM.out HB0.out)).mono ?_
      rintro e w1 ⟨rfl, hb1⟩
      obtain ⟨x0, x1, x2, x3, x4, x5, x6, x7, x8, x9, x10⟩ := blk11c ((hb1.block w.heap.size HX0.out.2).trans HX0.out.1)
      have HB1 := hide (HB0.out.trans (hb1.mono HB0.out.size))
      clear hb1
      go_wp2_with fail
      refine (HC3.out _ (work_below HW.out HB1.out)).mono ?_
      rintro e w2 ⟨rfl, hb2⟩
      have HB2 := hide (HB1.out.trans (hb2.mono HB1.out.size))
      clear hb2 x0 x1 x2 x3 x4 x5 x6 x7 x8 x9 x10
      go_wp2_with fail
      go_ret
      exact ⟨rfl, HB2.out⟩
    · rw [szOut_no (by omega)] at HC3 ⊢
      clear n2
      go_enter Tryz.func38, Tryz.ntmps38
      go_wp2_with fail
      rw [← hw0]
      clear hw0
      refine (HC1.out _ (meta_below HM.out HB0.out)).mono ?_
      rintro e w1 ⟨rfl, hb1⟩
      obtain ⟨x0, x1, x2, x3, x4, x5, x6, x7, x8, x9, x10⟩ := blk11c ((hb1.block w.heap.size HX0.out.2).trans HX0.out.1)
      have HB1 := hide (HB0.out.trans (hb1.mono HB0.out.size))
      clear hb1
      go_wp2_with fail
      refine (HC3.out _ (work_below HW.out HB1.out)).mono ?_
      rintro e w2 ⟨rfl, hb2⟩
      have HB2 := hide (HB1.out.trans (hb2.mono HB1.out.size))
      clear hb2 x0 x1 x2 x3 x4 x5 x6 x7 x8 x9 x10
      go_wp2_with fail
      go_ret
      exact ⟨rfl, HB2.out⟩
  · rw [szOut_no (by omega)] at HC1
    rw [szOut_no (by unfold bulkT; omega)]
    clear n1
    go_enter Tryz.func38, Tryz.ntmps38
    go_wp2_with fail
    rw [← hw0]
    clear hw0
    refine (HC1.out _ (meta_below HM.out HB0.out)).mono ?_
    rintro e w1 ⟨rfl, hb1⟩
    have HB1 := hide (HB0.out.trans (hb1.mono HB0.out.size))
    clear hb1
    go_wp2_with fail
    go_ret
    exact ⟨rfl, HB1.out⟩
set_option maxHeartbeats 8000000 in
set_option maxRecDepth 100000 in
theorem eqTxn_same (v u : Value) (m : Mt) (k : Wk) (root : Int) (hl : m.fs.length ≤ 1048576) (hs : ∀ f ∈ m.fs, f.2.length ≤ 1048576) (hk : k.small) (w : World) (hd : TxnAt w v m k root) (hu : TxnAt w u m k root) :
    Calls Tryz.prog 53 #[v, u] w fun e w' => e = .returned (.bool true) ∧ Below w.heap.size w w' := by
  obtain ⟨vr, vp, vl, vu, vg, vf, rfl, h1, h2⟩ := hd
  obtain ⟨tx, htx⟩ : ∃ n, n = m.tx := ⟨_, rfl⟩
  obtain ⟨mr, hmr⟩ : ∃ n, n = m.root := ⟨_, rfl⟩
  obtain ⟨mn, hmn⟩ : ∃ n, n = m.next := ⟨_, rfl⟩
  obtain ⟨wn, hwn⟩ : ∃ n, n = k.next := ⟨_, rfl⟩
  rw [← htx, ← hmr, ← hmn] at h1
  rw [← hwn] at h2
  have HL : Hid (m.tx = tx ∧ m.root = mr ∧ m.next = mn ∧ k.next = wn) := hide ⟨htx.symm, hmr.symm, hmn.symm, hwn.symm⟩
  rw [← htx, ← hmr, ← hmn, ← hwn]
  have HM := hide h1
  have HW := hide h2
  clear h1 h2 htx hmr hmn hwn
  obtain ⟨ur, up, ul, uu, ug, uf, rfl, h1, h2⟩ := hu
  rw [HL.out.1, HL.out.2.1, HL.out.2.2.1] at h1
  rw [HL.out.2.2.2] at h2
  rw [HL.out.1, HL.out.2.1, HL.out.2.2.1, HL.out.2.2.2]
  have HM2 := hide h1
  have HW2 := hide h2
  have HC1 := hide (fun a b wx h h' => eqMeta_same a b m hl hs wx h h')
  have HC2 := hide (fun a b wx h h' => eqWork_same a b k hk wx h h')
  clear h1 h2 hl hs hk
  obtain ⟨a0, ha0⟩ : ∃ a, a = w.heap.size := ⟨_, rfl⟩
  have hS0 := sep_new (sep_new (sep_nil w.heap.size w) (Obj.cells #[.int .i64 tx, .int .i64 mr, .int .i64 mn, vr, vp, vl, .int .i64 wn, vu, vg, vf, .int .i64 root] 53) (Nat.le_refl _)) (Obj.cells #[.int .i64 tx, .int .i64 mr, .int .i64 mn, ur, up, ul, .int .i64 wn, uu, ug, uf, .int .i64 root] 53) (by simp)
  obtain ⟨w0, hw0⟩ : ∃ w0, w0 = (w.alloc (Obj.cells #[.int .i64 tx, .int .i64 mr, .int .i64 mn, vr, vp, vl, .int .i64 wn, vu, vg, vf, .int .i64 root] 53)).alloc (Obj.cells #[.int .i64 tx, .int .i64 mr, .int .i64 mn, ur, up, ul, .int .i64 wn, uu, ug, uf, .int .i64 root] 53) := ⟨_, rfl⟩
  rw [World.size_alloc, ← hw0, ← ha0] at hS0
  have HS0 := hide hS0
  have HB0 : Hid (Below w.heap.size w w0) := hide (by rw [hw0]; exact ((Below.refl w.heap.size w).alloc (Nat.le_refl _) _).alloc (by simp) _)
  have HA := hide ha0
  clear hS0 ha0
  have dr : (root != root) = false := by simp
  go_enter Tryz.func53, Tryz.ntmps53
  go_wp2_with fail
  rw [← hw0, ← HA.out]
  clear hw0
  refine (HC1.out _ _ _ (meta_below HM.out HB0.out) (meta_below HM2.out HB0.out)).mono ?_
  rintro e w1 ⟨rfl, hb1⟩
  have HS1 := hide (sep_below HS0.out hb1)
  have HB1 : Hid (Below w.heap.size w w1) := hide (HB0.out.trans (hb1.mono HB0.out.size))
  clear hb1
  obtain ⟨x0, x1, x2, x3, x4, x5, x6, x7, x8, x9, x10⟩ := blk11c (sep_get HS1.out 1 rfl : w1.heap[a0]? = some (Obj.cells #[.int .i64 tx, .int .i64 mr, .int .i64 mn, vr, vp, vl, .int .i64 wn, vu, vg, vf, .int .i64 root] 53))
  obtain ⟨y0, y1, y2, y3, y4, y5, y6, y7, y8, y9, y10⟩ := blk11c (sep_get HS1.out 0 rfl : w1.heap[a0 + 1]? = some (Obj.cells #[.int .i64 tx, .int .i64 mr, .int .i64 mn, ur, up, ul, .int .i64 wn, uu, ug, uf, .int .i64 root] 53))
  go_wp2_with fail
  refine (HC2.out _ _ _ (work_below HW.out HB1.out) (work_below HW2.out HB1.out)).mono ?_
  rintro e w2 ⟨rfl, hb2⟩
  have HS2 := hide (sep_below HS1.out hb2)
  have HB2 : Hid (Below w.heap.size w w2) := hide (HB1.out.trans (hb2.mono HB1.out.size))
  clear hb2 x0 x1 x2 x3 x4 x5 x6 x7 x8 x9 x10 y0 y1 y2 y3 y4 y5 y6 y7 y8 y9 y10
  obtain ⟨x0, x1, x2, x3, x4, x5, x6, x7, x8, x9, x10⟩ := blk11c (sep_get HS2.out 1 rfl : w2.heap[a0]? = some (Obj.cells #[.int .i64 tx, .int .i64 mr, .int .i64 mn, vr, vp, vl, .int .i64 wn, vu, vg, vf, .int .i64 root] 53))
  obtain ⟨y0, y1, y2, y3, y4, y5, y6, y7, y8, y9, y10⟩ := blk11c (sep_get HS2.out 0 rfl : w2.heap[a0 + 1]? = some (Obj.cells #[.int .i64 tx, .int .i64 mr, .int .i64 mn, ur, up, ul, .int .i64 wn, uu, ug, uf, .int .i64 root] 53))
  go_wp2_with fail
  go_ret
  exact ⟨rfl, HB2.out⟩
set_option maxHeartbeats 8000000 in
set_option maxRecDepth 100000 in
theorem toTxn_any (v : Value) (m : Mt) (k : Wk) (root : Int) (hl : m.fs.length ≤ 1048576) (hs : ∀ f ∈ m.fs, f.2.length ≤ 1048576) (hk : k.bulk ≤ 1048576) (w : World) (hd : TxnAt w v m k root) :
    Calls Tryz.prog 45 #[v] w fun e w' => ∃ v', e = .returned v' ∧ TxnOwn w' w.heap.size v' m k root ∧ Below w.heap.size w w' := by
  obtain ⟨vr, vp, vl, vu, vg, vf, rfl, h1, h2⟩ := hd
  obtain ⟨tx, htx⟩ : ∃ n, n = m.tx := ⟨_, rfl⟩
  obtain ⟨mr, hmr⟩ : ∃ n, n = m.root := ⟨_, rfl⟩
  obtain ⟨mn, hmn⟩ : ∃ n, n = m.next := ⟨_, rfl⟩
  obtain ⟨wn, hwn⟩ : ∃ n, n = k.next := ⟨_, rfl⟩
  rw [← htx, ← hmr, ← hmn] at h1
  rw [← hwn] at h2
  have HL : Hid (m.tx = tx ∧ m.root = mr ∧ m.next = mn ∧ k.next = wn) := hide ⟨htx.symm, hmr.symm, hmn.symm, hwn.symm⟩
  rw [← htx, ← hmr, ← hmn, ← hwn]
  have HM := hide h1
  have HW := hide h2
  clear h1 h2 htx hmr hmn hwn
  have HC1 := hide (fun wx h => toMeta_any (.agg #[.int .i64 tx, .int .i64 mr, .int .i64 mn, vr]) m hl hs wx h)
  have HC2 := hide (fun wx h => toWork_any (.agg #[vp, vl, .int .i64 wn, vu, vg, vf]) k hk wx h)
  clear hl hs hk
  obtain ⟨a0, ha0⟩ : ∃ a, a = w.heap.size := ⟨_, rfl⟩
  have hS0 := sep_new (sep_new (sep_new (sep_nil w.heap.size w) (Obj.cells #[.int .i64 tx, .int .i64 mr, .int .i64 mn, vr, vp, vl, .int .i64 wn, vu, vg, vf, .int .i64 root] 34) (Nat.le_refl _)) (Obj.cells #[.int .i64 0, .int .i64 0, .int .i64 0, .slice none 0 0, .slice none 0 0, .slice none 0 0, .int .i64 0, .slice none 0 0, .slice none 0 0, .slice none 0 0, .int .i64 0] 53) (by simp)) (Obj.cells #[.int .i64 0, .int .i64 0, .int .i64 0, .slice none 0 0, .slice none 0 0, .slice none 0 0, .int .i64 0, .slice none 0 0, .slice none 0 0, .slice none 0 0, .int .i64 0] 53) (by simp; omega)
  obtain ⟨w0, hw0⟩ : ∃ w0, w0 = ((w.alloc (Obj.cells #[.int .i64 tx, .int .i64 mr, .int .i64 mn, vr, vp, vl, .int .i64 wn, vu, vg, vf, .int .i64 root] 34)).alloc (Obj.cells #[.int .i64 0, .int .i64 0, .int .i64 0, .slice none 0 0, .slice none 0 0, .slice none 0 0, .int .i64 0, .slice none 0 0, .slice none 0 0, .slice none 0 0, .int .i64 0] 53)).alloc (Obj.cells #[.int .i64 0, .int .i64 0, .int .i64 0, .slice none 0 0, .slice none 0 0, .slice none 0 0, .int .i64 0, .slice none 0 0, .slice none 0 0, .slice none 0 0, .int .i64 0] 53) := ⟨_, rfl⟩
  rw [World.size_alloc, World.size_alloc, ← hw0, ← ha0] at hS0
  have HS0 := hide hS0
  have HB0 : Hid (Below w.heap.size w w0) := hide (by rw [hw0]; exact (((Below.refl w.heap.size w).alloc (Nat.le_refl _) _).alloc (by simp) _).alloc (by simp; omega) _)
  have HZ0 : Hid (a0 ≤ w0.heap.size) := hide (by rw [hw0, ha0]; simp; omega)
  have HA := hide ha0
  clear hS0 ha0
  go_enter Tryz.func45, Tryz.ntmps45
  go_wp2_with fail
  rw [← hw0, ← HA.out]
  clear hw0
  refine (HC1.out _ (meta_below HM.out HB0.out)).mono ?_
  rintro e w1 ⟨v1, rfl, hm1, hb1⟩
  obtain ⟨xr, lr, e1, ho1⟩ := hm1
  obtain ⟨p1, q1, rfl⟩ := own_slice ho1.1
  rw [HL.out.1, HL.out.2.1, HL.out.2.2.1] at e1
  subst e1
  have HS1 := hide (sep_add HS0.out hb1 (freesA a0 (.slice p1 m.fs.length q1) lr m.fs) (ownF_down ho1 HZ0.out) (fun j hj => ownF_lt ho1 j hj) HZ0.out)
  have HB1 : Hid (Below w.heap.size w w1) := hide (HB0.out.trans (hb1.mono HB0.out.size))
  have HZ1 : Hid (a0 ≤ w1.heap.size) := hide (Nat.le_trans HZ0.out hb1.size)
  clear ho1 hb1
  obtain ⟨nL, hnL⟩ : ∃ n, n = m.fs.length := ⟨_, rfl⟩
  rw [← hnL] at HS1 ⊢
  have HNL := hide hnL
  clear hnL
  obtain ⟨x0, x1, x2, x3, x4, x5, x6, x7, x8, x9, x10⟩ := blk11c (sep_get HS1.out 3 rfl : w1.heap[a0]? = some (Obj.cells #[.int .i64 tx, .int .i64 mr, .int .i64 mn, vr, vp, vl, .int .i64 wn, vu, vg, vf, .int .i64 root] 34))
  obtain ⟨y0, y1, y2, y3, y4, y5, y6, y7, y8, y9, y10⟩ := blk11c (sep_get HS1.out 1 rfl : w1.heap[a0 + 1 + 1]? = some (Obj.cells #[.int .i64 0, .int .i64 0, .int .i64 0, .slice none 0 0, .slice none 0 0, .slice none 0 0, .int .i64 0, .slice none 0 0, .slice none 0 0, .slice none 0 0, .int .i64 0] 53))
  obtain ⟨z0, z1, z2, z3, z4, z5, z6, z7, z8, z9, z10⟩ := blk11z (sep_get HS1.out 1 rfl : w1.heap[a0 + 1 + 1]? = some (Obj.cells #[.int .i64 0, .int .i64 0, .int .i64 0, .slice none 0 0, .slice none 0 0, .slice none 0 0, .int .i64 0, .slice none 0 0, .slice none 0 0, .slice none 0 0, .int .i64 0] 53))
  have hne : a0 ≠ a0 + 1 + 1 := by omega
  have HS2 : Hid (Sep a0 ((((w1.setCell ⟨a0 + 1 + 1, 0, none⟩ (.int .i64 tx)).setCell ⟨a0 + 1 + 1, 1, none⟩ (.int .i64 mr)).setCell ⟨a0 + 1 + 1, 2, none⟩ (.int .i64 mn)).setCell ⟨a0 + 1 + 1, 3, none⟩ (.slice p1 nL q1)) _) := hide (sep_store (sep_store (sep_store (sep_store HS1.out 1 rfl 0 (.int .i64 tx)) 1 rfl 1 (.int .i64 mr)) 1 rfl 2 (.int .i64 mn)) 1 rfl 3 (.slice p1 nL q1))
  obtain ⟨w2, hw2⟩ : ∃ wx, wx = ((((w1.setCell ⟨a0 + 1 + 1, 0, none⟩ (.int .i64 tx)).setCell ⟨a0 + 1 + 1, 1, none⟩ (.int .i64 mr)).setCell ⟨a0 + 1 + 1, 2, none⟩ (.int .i64 mn)).setCell ⟨a0 + 1 + 1, 3, none⟩ (.slice p1 nL q1)) := ⟨_, rfl⟩
  have HB2 : Hid (Below w.heap.size w w2) := hide (by rw [hw2]; exact below_set4 (g := a0 + 1 + 1) HB1.out (by have := HA.out; omega) _ _ _ _)
  have HZ2 : Hid (a0 ≤ w2.heap.size) := hide (by rw [hw2]; have := HZ1.out; simp; omega)
  rw [← hw2] at HS2
  have HX := hide (⟨x4, x5, x6, x7, x8, x9⟩ : _ ∧ _ ∧ _ ∧ _ ∧ _ ∧ _)
  obtain ⟨xx0, xx1, xx2, xx3, xx4, xx5, xx6, xx7, xx8, xx9, xx10⟩ := blk11c (sep_get HS2.out 3 rfl : w2.heap[a0]? = some (Obj.cells #[.int .i64 tx, .int .i64 mr, .int .i64 mn, vr, vp, vl, .int .i64 wn, vu, vg, vf, .int .i64 root] 34))
  rw [hw2] at xx0 xx1 xx2 xx3 xx4 xx5 xx6 xx7 xx8 xx9 xx10
  go_wp2_with (rw [← hw2]; refine (HC2.out _ (work_below HW.out HB2.out)).mono ?_)
  clear x0 x1 x2 x3 x4 x5 x6 x7 x8 x9 x10 xx0 xx1 xx2 xx3 xx4 xx5 xx6 xx7 xx8 xx9 xx10 y0 y1 y2 y3 y4 y5 y6 y7 y8 y9 y10 z0 z1 z2 z3 z4 z5 z6 z7 z8 z9 z10 HX hw2
  rintro e w3 ⟨v3, rfl, ho3, hb3⟩
  obtain ⟨p2, q2, p3, q3, p4, q4, p5, q5, p6, q6, e3⟩ := work_form ho3
  rw [HL.out.2.2.2] at e3
  subst e3
  have HS3 := hide (sep_add HS2.out hb3 (workA a0 _ k) (workOwn_down ho3 HZ2.out) (fun j hj => workOwn_lt ho3 j hj) HZ2.out)
  have HB3 : Hid (Below w.heap.size w w3) := hide (HB2.out.trans (hb3.mono HB2.out.size))
  clear ho3 hb3
  obtain ⟨n2, hn2⟩ : ∃ n, n = k.ps.length := ⟨_, rfl⟩
  obtain ⟨n3, hn3⟩ : ∃ n, n = k.ls.length := ⟨_, rfl⟩
  obtain ⟨n4, hn4⟩ : ∃ n, n = k.us.length := ⟨_, rfl⟩
  obtain ⟨n5, hn5⟩ : ∃ n, n = k.gs.length := ⟨_, rfl⟩
  obtain ⟨n6, hn6⟩ : ∃ n, n = k.fs.length := ⟨_, rfl⟩
  rw [← hn2, ← hn3, ← hn4, ← hn5, ← hn6] at HS3 ⊢
  have HNs := hide (⟨hn2, hn3, hn4, hn5, hn6⟩ : _ ∧ _ ∧ _ ∧ _ ∧ _)
  clear hn2 hn3 hn4 hn5 hn6
  have HV3 : Hid (w3.heap[a0 + 1 + 1]? = some (Obj.cells #[.int .i64 tx, .int .i64 mr, .int .i64 mn, .slice p1 nL q1, .slice none 0 0, .slice none 0 0, .int .i64 0, .slice none 0 0, .slice none 0 0, .slice none 0 0, .int .i64 0] 53)) := hide (sep_get HS3.out 2 rfl)
  obtain ⟨y0, y1, y2, y3, y4, y5, y6, y7, y8, y9, y10⟩ := blk11c HV3.out
  obtain ⟨z0, z1, z2, z3, z4, z5, z6, z7, z8, z9, z10⟩ := blk11z HV3.out
  obtain ⟨x0, x1, x2, x3, x4, x5, x6, x7, x8, x9, x10⟩ := blk11c (sep_get HS3.out 4 rfl : w3.heap[a0]? = some (Obj.cells #[.int .i64 tx, .int .i64 mr, .int .i64 mn, vr, vp, vl, .int .i64 wn, vu, vg, vf, .int .i64 root] 34))
  obtain ⟨r0, r1, r2, r3, r4, r5, r6, r7, r8, r9, r10⟩ := blk11c (sep_get HS3.out 3 rfl : w3.heap[a0 + 1]? = some (Obj.cells #[.int .i64 0, .int .i64 0, .int .i64 0, .slice none 0 0, .slice none 0 0, .slice none 0 0, .int .i64 0, .slice none 0 0, .slice none 0 0, .slice none 0 0, .int .i64 0] 53))
  obtain ⟨s0, s1, s2, s3, s4, s5, s6, s7, s8, s9, s10⟩ := blk11z (sep_get HS3.out 3 rfl : w3.heap[a0 + 1]? = some (Obj.cells #[.int .i64 0, .int .i64 0, .int .i64 0, .slice none 0 0, .slice none 0 0, .slice none 0 0, .int .i64 0, .slice none 0 0, .slice none 0 0, .slice none 0 0, .int .i64 0] 53))
  have hne2 : a0 + 1 ≠ a0 + 1 + 1 := by omega
  go_wp2_with fail
  have HS4 := hide (sep_store11 (sep_store (sep_store (sep_store (sep_store (sep_store (sep_store (sep_store HS3.out 2 rfl 4 (.slice p2 n2 q2)) 2 rfl 5 (.slice p3 n3 q3)) 2 rfl 6 (.int .i64 wn)) 2 rfl 7 (.slice p4 n4 q4)) 2 rfl 8 (.slice p5 n5 q5)) 2 rfl 9 (.slice p6 n6 q6)) 2 rfl 10 (.int .i64 root)) 3 rfl (.int .i64 tx) (.int .i64 mr) (.int .i64 mn) (.slice p1 nL q1) (.slice p2 n2 q2) (.slice p3 n3 q3) (.int .i64 wn) (.slice p4 n4 q4) (.slice p5 n5 q5) (.slice p6 n6 q6) (.int .i64 root))
  obtain ⟨t0, t1, t2, t3, t4, t5, t6, t7, t8, t9, t10⟩ := blk11c (sep_get HS4.out 3 rfl : (set11 (((((((w3.setCell ⟨a0 + 1 + 1, 4, none⟩ (.slice p2 n2 q2)).setCell ⟨a0 + 1 + 1, 5, none⟩ (.slice p3 n3 q3)).setCell ⟨a0 + 1 + 1, 6, none⟩ (.int .i64 wn)).setCell ⟨a0 + 1 + 1, 7, none⟩ (.slice p4 n4 q4)).setCell ⟨a0 + 1 + 1, 8, none⟩ (.slice p5 n5 q5)).setCell ⟨a0 + 1 + 1, 9, none⟩ (.slice p6 n6 q6)).setCell ⟨a0 + 1 + 1, 10, none⟩ (.int .i64 root)) (a0 + 1) (.int .i64 tx) (.int .i64 mr) (.int .i64 mn) (.slice p1 nL q1) (.slice p2 n2 q2) (.slice p3 n3 q3) (.int .i64 wn) (.slice p4 n4 q4) (.slice p5 n5 q5) (.slice p6 n6 q6) (.int .i64 root)).heap[a0 + 1]? = some (Obj.cells #[.int .i64 tx, .int .i64 mr, .int .i64 mn, .slice p1 nL q1, .slice p2 n2 q2, .slice p3 n3 q3, .int .i64 wn, .slice p4 n4 q4, .slice p5 n5 q5, .slice p6 n6 q6, .int .i64 root] 53))
  have hg2 : w.heap.size ≤ a0 + 1 + 1 := by have := HA.out; omega
  have hbf := below_set11 (g := a0 + 1) (((((((HB3.out.setCell (p := ⟨a0 + 1 + 1, 4, none⟩) hg2 (.slice p2 n2 q2)).setCell (p := ⟨a0 + 1 + 1, 5, none⟩) hg2 (.slice p3 n3 q3)).setCell (p := ⟨a0 + 1 + 1, 6, none⟩) hg2 (.int .i64 wn)).setCell (p := ⟨a0 + 1 + 1, 7, none⟩) hg2 (.slice p4 n4 q4)).setCell (p := ⟨a0 + 1 + 1, 8, none⟩) hg2 (.slice p5 n5 q5)).setCell (p := ⟨a0 + 1 + 1, 9, none⟩) hg2 (.slice p6 n6 q6)).setCell (p := ⟨a0 + 1 + 1, 10, none⟩) hg2 (.int .i64 root)) (by have := HA.out; omega) (.int .i64 tx) (.int .i64 mr) (.int .i64 mn) (.slice p1 nL q1) (.slice p2 n2 q2) (.slice p3 n3 q3) (.int .i64 wn) (.slice p4 n4 q4) (.slice p5 n5 q5) (.slice p6 n6 q6) (.int .i64 root)
  refine bodyPost_ret (v := .agg #[.int .i64 tx, .int .i64 mr, .int .i64 mn, .slice p1 nL q1, .slice p2 n2 q2, .slice p3 n3 q3, .int .i64 wn, .slice p4 n4 q4, .slice p5 n5 q5, .slice p6 n6 q6, .int .i64 root]) (by simp [results, Tryz.results45, go_sem, t0, t1, t2, t3, t4, t5, t6, t7, t8, t9, t10]) rfl ⟨_, rfl, ?_, hbf⟩
  have h := sep_pick (pre := [_, _, _, _, _]) (rest := []) HS4.out [1, 0] (by decide) [_, _] rfl
  rw [HNL.out, HNs.out.1, HNs.out.2.1, HNs.out.2.2.1, HNs.out.2.2.2.1, HNs.out.2.2.2.2] at h ⊢
  refine ⟨lr, p1, q1, p2, q2, p3, q3, p4, q4, p5, q5, p6, q6, by rw [HL.out.1, HL.out.2.1, HL.out.2.2.1, HL.out.2.2.2], ?_⟩
  rw [HL.out.2.2.2]
  rw [HA.out] at h ⊢
  exact h
end Go.Proofs.YtdbpbhemnnffeaaGreatDoor
