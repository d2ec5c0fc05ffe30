/-
  Facts and contracts that the law's own text rests on, by their texts' names: RdRow2.
-/
import Derived.Test.YtdbpbhemnnffeaaGreatDoorXw10
import Derived.Test.YtdbpbhemnnffeaaGreatDoorXw9
namespace Go.Proofs.YtdbpbhemnnffeaaGreatDoor
open Go.RowKit
def packA (B : Nat) (l : List Ast) : Ast := ⟨fun k => ∃ A ∈ l, A.F k, fun W => Sep B W l, fun W W' h hk =>
  ⟨fun A hA => ⟨A.loc W W' (h.1 A hA).1 (fun k hF => hk k ⟨A, hA, hF⟩), fun k hF => ⟨((h.1 A hA).2 k hF).1, by
    have e := hk k ⟨A, hA, hF⟩
    rw [Array.getElem?_eq_getElem ((h.1 A hA).2 k hF).2] at e
    exact (Array.getElem?_eq_some_iff.1 e).1⟩⟩, h.2⟩⟩
theorem sep_pack {B : Nat} {W : World} {l rest : List Ast} (h : Sep B W (l ++ rest)) : Sep B W (packA B l :: rest) := by
  obtain ⟨h1, h2⟩ := h
  obtain ⟨p1, p2, p3⟩ := List.pairwise_append.1 h2
  refine sep_cons.2 ⟨⟨⟨fun A hA => h1 A (List.mem_append_left _ hA), p1⟩, ?_⟩, ?_, ⟨fun A hA => h1 A (List.mem_append_right _ hA), p2⟩⟩
  · rintro k ⟨A, hA, hF⟩
    exact (h1 A (List.mem_append_left _ hA)).2 k hF
  · rintro A' hA' k ⟨A, hA, hF⟩
    exact p3 A hA A' hA' k hF
theorem sep_unpack {B : Nat} {W : World} {l rest : List Ast} (h : Sep B W (packA B l :: rest)) : Sep B W (l ++ rest) := by
  obtain ⟨⟨⟨h1, h2⟩, h3⟩, h4, h5, h6⟩ := sep_cons.1 h
  refine ⟨fun A hA => ?_, List.pairwise_append.2 ⟨h2, h6, fun A hA A' hA' k hk => h4 A' hA' k ⟨A, hA, hk⟩⟩⟩
  rcases List.mem_append.1 hA with hA | hA
  · exact h1 A hA
  · exact h5 A hA
def frL (B : Nat) (us : List (Value × List (Int × Value))) (rs : List (Int × Mt)) : List Ast := List.zipWith (fun x r => freesA B x.1 x.2 r.2.fs) us rs
def rdsL (B : Nat) (v : Value) (us : List (Value × List (Int × Value))) (rs : List (Int × Mt)) : List Ast := rowA B 82 5 v rs.length (rds rs (us.map Prod.fst)) :: frL B us rs
theorem frL_at {B : Nat} {us : List (Value × List (Int × Value))} {rs : List (Int × Mt)} {k : Nat} {x : Value × List (Int × Value)} {r : Int × Mt} (hx : us[k]? = some x) (hr : rs[k]? = some r) : (frL B us rs)[k]? = some (freesA B x.1 x.2 r.2.fs) := by
  unfold frL
  rw [List.getElem?_zipWith, hx, hr]
theorem rds_of_own {w : World} {B B0 : Nat} {v : Value} {us : List (Value × List (Int × Value))} {rs : List (Int × Mt)} (hu : us.length = rs.length) (h : Sep B0 w (rdsL B v us rs)) : RdsAt w v rs := by
  refine ⟨us.map Prod.fst, by rw [List.length_map]; exact hu, row_of_own (sep_get h 0 rfl), fun k r u hr hu' => ?_⟩
  rw [List.getElem?_map] at hu'
  obtain ⟨x, hx, rfl⟩ := Option.map_eq_some_iff.1 hu'
  exact frees_of_own (sep_get (sep_del h) k (frL_at hx hr))
set_option maxHeartbeats 1000000 in
set_option maxRecDepth 100000 in
theorem eqReader_same (id : Int) (v u : Value) (m : Mt) (hl : m.fs.length ≤ 1048576) (hs : ∀ f ∈ m.fs, f.2.length ≤ 1048576) (w : World) (hd : FreesAt w v m.fs) (hu : FreesAt w u m.fs) :
    Calls Tryz.prog 69 #[.agg #[.int .i64 id, .int .i64 m.tx, .int .i64 m.root, .int .i64 m.next, v], .agg #[.int .i64 id, .int .i64 m.tx, .int .i64 m.root, .int .i64 m.next, u]] w fun e w' => e = .returned (.bool true) ∧ Below w.heap.size w w' := by
  obtain ⟨tx, htx⟩ : ∃ n, n = m.tx := ⟨_, rfl⟩
  obtain ⟨mr, hmr⟩ : ∃ n, n = m.root := ⟨_, rfl⟩
  obtain ⟨mn, hmn⟩ : ∃ n, n = m.next := ⟨_, rfl⟩
  have HM : Hid (∀ wx, Below w.heap.size w wx → MetaAt wx (.agg #[.int .i64 tx, .int .i64 mr, .int .i64 mn, v]) m ∧ MetaAt wx (.agg #[.int .i64 tx, .int .i64 mr, .int .i64 mn, u]) m) := hide (fun wx hb => ⟨⟨v, by rw [htx, hmr, hmn], frees_below hd hb⟩, ⟨u, by rw [htx, hmr, hmn], frees_below hu hb⟩⟩)
  rw [← htx, ← hmr, ← hmn]
  have HC := hide (fun a b wx h h' => eqMeta_same a b m hl hs wx h h')
  obtain ⟨w0, hw0⟩ : ∃ w0, w0 = (w.alloc (Obj.cells #[.int .i64 id, .int .i64 tx, .int .i64 mr, .int .i64 mn, v] 82)).alloc (Obj.cells #[.int .i64 id, .int .i64 tx, .int .i64 mr, .int .i64 mn, u] 82) := ⟨_, rfl⟩
  have HB : Hid (Below w.heap.size w w0) := hide (by rw [hw0]; exact ((Below.refl w.heap.size w).alloc (Nat.le_refl _) _).alloc (by simp) _)
  have di : (id != id) = false := by simp
  clear hd hu htx hmr hmn hl hs
  go_enter Tryz.func69, Tryz.ntmps69
  go_wp2_with fail
  rw [← hw0]
  clear hw0
  refine (HC.out _ _ _ (HM.out _ HB.out).1 (HM.out _ HB.out).2).mono ?_
  rintro e w1 ⟨rfl, hb1⟩
  have HB1 := hide (HB.out.trans (hb1.mono HB.out.size))
  clear hb1
  go_wp2_with fail
  go_ret
  exact ⟨rfl, HB1.out⟩
set_option maxHeartbeats 4000000 in
set_option maxRecDepth 100000 in
theorem eqReaderS_same (l : List (Int × Mt)) (hl : l.length ≤ 1048576) (hs : ∀ r ∈ l, r.2.fs.length ≤ 1048576 ∧ ∀ f ∈ r.2.fs, f.2.length ≤ 1048576) (v u : Value) (w : World) (hr : RdsAt w v l) (hq : RdsAt w u l) :
    Calls Tryz.prog 52 #[v, u] w fun e w' => e = .returned (.bool true) ∧ Below w.heap.size w w' := by
  obtain ⟨a, cap, rfl⟩ := rds_slice hr
  obtain ⟨a', cap', rfl⟩ := rds_slice hq
  have HR := hide hr
  have HQ := hide hq
  have HS := hide hs
  clear hr hq hs
  go_enter Tryz.func52, Tryz.ntmps52
  go_wp2
  go_loopg [5] l.length (fun q iv wr => ∃ k : Nat, k ≤ l.length ∧ iv = .int .i64 (k : Int) ∧ q + k = l.length ∧ Below w.heap.size w wr)
  case atStart => exact ⟨0, Nat.zero_le _, rfl, rfl, Below.refl _ _⟩
  case round =>
    obtain ⟨k, hk, rfl, hg, hb⟩ := hrel
    have HG := hide hg
    clear hg
    by_cases hlt : k < l.length
    · obtain ⟨id, m, hm⟩ : ∃ id m, l[k]? = some (id, m) := ⟨_, _, List.getElem?_eq_getElem hlt⟩
      obtain ⟨b, off, u1, rfl, hbl, ⟨c0, c1, c2, c3, c4⟩, hfr⟩ := rds_get (rds_below HR.out hb) hm
      obtain ⟨b', off', u2, rfl, hbl', ⟨d0, d1, d2, d3, d4⟩, hfr'⟩ := rds_get (rds_below HQ.out hb) hm
      have hxs := HS.out _ (List.mem_of_getElem? hm)
      have HC := hide (fun wx h h' => eqReader_same id u1 u2 m hxs.1 hxs.2 wx h h')
      have HFr := hide (⟨hfr, hfr'⟩ : _ ∧ _)
      obtain ⟨xa, xc, rfl⟩ := frees_slice hfr
      obtain ⟨ya, yc, rfl⟩ := frees_slice hfr'
      obtain ⟨tx, htx⟩ : ∃ n, n = m.tx := ⟨_, rfl⟩
      obtain ⟨mr, hmr⟩ : ∃ n, n = m.root := ⟨_, rfl⟩
      obtain ⟨mn, hmn⟩ : ∃ n, n = m.next := ⟨_, rfl⟩
      obtain ⟨mL, hmL⟩ : ∃ n, n = m.fs.length := ⟨_, rfl⟩
      rw [← htx, ← hmr, ← hmn, ← hmL] at HC
      rw [← htx] at c1 d1
      rw [← hmr] at c2 d2
      rw [← hmn] at c3 d3
      rw [← hmL] at c4 d4
      rw [← hmL] at HFr
      have hk0 : (0 : Int) ≤ (k : Int) := by omega
      have hk1 : (k : Int) < (l.length : Int) := by omega
      clear hm hfr hfr' hxs htx hmr hmn hmL
      go_wp2_with fail
      obtain ⟨wd, hwd⟩ : ∃ wd, wd = wr.drew := ⟨_, rfl⟩
      have HBd : Hid (Below w.heap.size w wd) := hide (by rw [hwd]; exact hb.drew)
      have HSw : Hid (∀ wx, Below wr.heap.size wr wx → (fun wx => (wx.cell? ⟨b, off + k * 5, none⟩ = some (.int .i64 id) ∧ wx.cell? ⟨b, off + k * 5 + 1, none⟩ = some (.int .i64 tx) ∧ wx.cell? ⟨b, off + k * 5 + 2, none⟩ = some (.int .i64 mr) ∧ wx.cell? ⟨b, off + k * 5 + 3, none⟩ = some (.int .i64 mn) ∧ wx.cell? ⟨b, off + k * 5 + 4, none⟩ = some (.slice xa mL xc)) ∧ wx.cell? ⟨b', off' + k * 5, none⟩ = some (.int .i64 id) ∧ wx.cell? ⟨b', off' + k * 5 + 1, none⟩ = some (.int .i64 tx) ∧ wx.cell? ⟨b', off' + k * 5 + 2, none⟩ = some (.int .i64 mr) ∧ wx.cell? ⟨b', off' + k * 5 + 3, none⟩ = some (.int .i64 mn) ∧ wx.cell? ⟨b', off' + k * 5 + 4, none⟩ = some (.slice ya mL yc)) wx) := hide (fun wx hq => ⟨⟨(hq.cell (by exact hbl)).trans c0, (hq.cell (by exact hbl)).trans c1, (hq.cell (by exact hbl)).trans c2, (hq.cell (by exact hbl)).trans c3, (hq.cell (by exact hbl)).trans c4⟩, (hq.cell (by exact hbl')).trans d0, (hq.cell (by exact hbl')).trans d1, (hq.cell (by exact hbl')).trans d2, (hq.cell (by exact hbl')).trans d3, (hq.cell (by exact hbl')).trans d4⟩)
      have HWd : Hid (Below wr.heap.size wr wd) := hide (by rw [hwd]; exact (Below.refl _ _).drew)
      have hHeld := HSw.out wd HWd.out
      refine wp_region_held_drew (S := fun wx => (wx.cell? ⟨b, off + k * 5, none⟩ = some (.int .i64 id) ∧ wx.cell? ⟨b, off + k * 5 + 1, none⟩ = some (.int .i64 tx) ∧ wx.cell? ⟨b, off + k * 5 + 2, none⟩ = some (.int .i64 mr) ∧ wx.cell? ⟨b, off + k * 5 + 3, none⟩ = some (.int .i64 mn) ∧ wx.cell? ⟨b, off + k * 5 + 4, none⟩ = some (.slice xa mL xc)) ∧ wx.cell? ⟨b', off' + k * 5, none⟩ = some (.int .i64 id) ∧ wx.cell? ⟨b', off' + k * 5 + 1, none⟩ = some (.int .i64 tx) ∧ wx.cell? ⟨b', off' + k * 5 + 2, none⟩ = some (.int .i64 mr) ∧ wx.cell? ⟨b', off' + k * 5 + 3, none⟩ = some (.int .i64 mn) ∧ wx.cell? ⟨b', off' + k * 5 + 4, none⟩ = some (.slice ya mL yc)) (by kernel_rfl) (by rw [← hwd]; exact hHeld) (fun _ => ?_)
      rw [← hwd]
      clear hwd
      refine takeW 0 17 ?_ rfl rfl (by kernel_rfl) (by kernel_rfl) (by kernel_rfl) (fun _ _ _ h => h) (Or.inl ⟨by rfl, ?_⟩) hHeld ?_
      rotate_left
      · (intro wx hSw; (try dsimp only at hSw); go_simp; try with_reducible rfl)
      simp only [List.setIfInBounds_toArray, List.set_cons_zero, List.set_cons_succ]
      refine takeW 1 18 ?_ rfl rfl (by kernel_rfl) (by kernel_rfl) (by kernel_rfl) (fun _ _ _ h => h) (Or.inl ⟨by rfl, ?_⟩) hHeld ?_
      rotate_left
      · (intro wx hSw; (try dsimp only at hSw); go_simp; try with_reducible rfl)
      simp only [List.setIfInBounds_toArray, List.set_cons_zero, List.set_cons_succ]
      refine takeW 2 19 ?_ rfl rfl (by kernel_rfl) (by kernel_rfl) (by kernel_rfl) (fun _ _ _ h => h) (Or.inl ⟨by rfl, ?_⟩) hHeld ?_
      rotate_left
      · (intro wx hSw; (try dsimp only at hSw); go_simp; try with_reducible rfl)
      simp only [List.setIfInBounds_toArray, List.set_cons_zero, List.set_cons_succ]
      refine takeW 3 20 ?_ rfl rfl (by kernel_rfl) (by kernel_rfl) (by kernel_rfl) (fun _ _ _ h => h) (Or.inl ⟨by rfl, ?_⟩) hHeld ?_
      rotate_left
      · (intro wx hSw; (try dsimp only at hSw); go_simp; try with_reducible rfl)
      simp only [List.setIfInBounds_toArray, List.set_cons_zero, List.set_cons_succ]
      refine takeW 4 21 ?_ rfl rfl (by kernel_rfl) (by kernel_rfl) (by kernel_rfl) (fun _ _ _ h => h) (Or.inl ⟨by rfl, ?_⟩) hHeld ?_
      rotate_left
      · (intro wx hSw; (try dsimp only at hSw); go_simp; try with_reducible rfl)
      simp only [List.setIfInBounds_toArray, List.set_cons_zero, List.set_cons_succ]
      refine takeW 5 22 ?_ rfl rfl (by kernel_rfl) (by kernel_rfl) (by kernel_rfl) (fun _ _ _ h => h) (Or.inl ⟨by rfl, ?_⟩) hHeld ?_
      rotate_left
      · (intro wx hSw; (try dsimp only at hSw); go_simp; try with_reducible rfl)
      simp only [List.setIfInBounds_toArray, List.set_cons_zero, List.set_cons_succ]
      refine takeW 6 23 ?_ rfl rfl (by kernel_rfl) (by kernel_rfl) (by kernel_rfl) (fun _ _ _ h => h) (Or.inl ⟨by rfl, ?_⟩) hHeld ?_
      rotate_left
      · (intro wx hSw; (try dsimp only at hSw); go_simp; try with_reducible rfl)
      simp only [List.setIfInBounds_toArray, List.set_cons_zero, List.set_cons_succ]
      refine takeW 7 24 ?_ rfl rfl (by kernel_rfl) (by kernel_rfl) (by kernel_rfl) (fun _ _ _ h => h) (Or.inl ⟨by rfl, ?_⟩) hHeld ?_
      rotate_left
      · (intro wx hSw; (try dsimp only at hSw); go_simp; try with_reducible rfl)
      simp only [List.setIfInBounds_toArray, List.set_cons_zero, List.set_cons_succ]
      refine wpAnyH_ready (rs := [8]) (by kernel_rfl) (by simp) ?_
      refine AllReadyH.cons rfl (fun K hK => ?_) AllReadyH.nil
      refine step_call2 wd ?_ 69 Tryz.f69 Tryz.func69 ?_ ?_ (.tmp 20) (.tmp 24) #[82, 82] ?_ (.agg #[.int .i64 id, .int .i64 tx, .int .i64 mr, .int .i64 mn, .slice xa mL xc]) (.agg #[.int .i64 id, .int .i64 tx, .int .i64 mr, .int .i64 mn, .slice ya mL yc]) ?_ ?_ _ (HC.out _ (frees_below HFr.out.1 HWd.out) (frees_below HFr.out.2 HWd.out)) ?_
      · exact rfl
      · decide
      · exact Option.some_ne_none _
      · exact rfl
      · exact rfl
      · exact rfl
      rintro e w2 ⟨rfl, hb2⟩
      refine ⟨_, rfl, ?_⟩
      have HW2 : Hid (Below wr.heap.size wr w2) := hide (HWd.out.trans (hb2.mono HWd.out.size))
      have hS2 := HSw.out w2 HW2.out
      refine hK.out (Act.put _ (some 25) _) _ hS2 (fun _ => ?_)
      clear hK K
      simp only [Act.put, List.setIfInBounds_toArray, List.set_cons_zero, List.set_cons_succ]
      refine takeW 9 26 ?_ rfl rfl (by kernel_rfl) (by kernel_rfl) (by kernel_rfl) (fun _ _ _ h => h) (Or.inl ⟨by rfl, ?_⟩) hS2 ?_
      rotate_left
      · (intro wx hSw; (try dsimp only at hSw); go_simp; try with_reducible rfl)
      simp only [List.setIfInBounds_toArray, List.set_cons_zero, List.set_cons_succ]
      refine wpAnyH_done (by kernel_rfl) ?_ _
      have HB3 : Hid (Below w.heap.size w w2) := hide (hb.trans (HW2.out.mono hb.size))
      clear hS2 hHeld HSw HWd HBd hb2 HW2
      go_wp2_with fail
      go_roundg (gk - 1)
      case measure => have := HG.out; omega
      case rel => exact ⟨k + 1, by omega, by go_num, by have := HG.out; omega, HB3.out⟩
    · go_wp2
      go_ret
      exact ⟨rfl, hb⟩
set_option maxHeartbeats 2000000 in
set_option maxRecDepth 100000 in
theorem toReader_any (id : Int) (v : Value) (m : Mt) (hl : m.fs.length ≤ 1048576) (hs : ∀ f ∈ m.fs, f.2.length ≤ 1048576) (w : World) (hd : FreesAt w v m.fs) :
    Calls Tryz.prog 63 #[.agg #[.int .i64 id, .int .i64 m.tx, .int .i64 m.root, .int .i64 m.next, v]] w fun e w' => ∃ p q lr, e = .returned (.agg #[.int .i64 id, .int .i64 m.tx, .int .i64 m.root, .int .i64 m.next, .slice p m.fs.length q]) ∧ OwnF w' w.heap.size (.slice p m.fs.length q) lr m.fs ∧ Below w.heap.size w w' := by
  obtain ⟨tx, htx⟩ : ∃ n, n = m.tx := ⟨_, rfl⟩
  obtain ⟨mr, hmr⟩ : ∃ n, n = m.root := ⟨_, rfl⟩
  obtain ⟨mn, hmn⟩ : ∃ n, n = m.next := ⟨_, rfl⟩
  have HL : Hid (m.tx = tx ∧ m.root = mr ∧ m.next = mn) := hide ⟨htx.symm, hmr.symm, hmn.symm⟩
  have HM : Hid (∀ wx, Below w.heap.size w wx → MetaAt wx (.agg #[.int .i64 tx, .int .i64 mr, .int .i64 mn, v]) m) := hide (fun wx hb => ⟨v, by rw [htx, hmr, hmn], frees_below hd hb⟩)
  rw [← htx, ← hmr, ← hmn]
  have HC := hide (fun a wx h => toMeta_any a m hl hs wx h)
  obtain ⟨a0, ha0⟩ : ∃ a, a = w.heap.size := ⟨_, rfl⟩
  have hS0 := sep_new (sep_new (sep_new (sep_nil w.heap.size w) (Obj.cells #[.int .i64 id, .int .i64 tx, .int .i64 mr, .int .i64 mn, v] 118) (Nat.le_refl _)) (Obj.cells #[.int .i64 0, .int .i64 0, .int .i64 0, .int .i64 0, .slice none 0 0] 82) (by simp)) (Obj.cells #[.int .i64 id, .int .i64 0, .int .i64 0, .int .i64 0, .slice none 0 0] 82) (by simp; omega)
  obtain ⟨w0, hw0⟩ : ∃ w0, w0 = ((w.alloc (Obj.cells #[.int .i64 id, .int .i64 tx, .int .i64 mr, .int .i64 mn, v] 118)).alloc (Obj.cells #[.int .i64 0, .int .i64 0, .int .i64 0, .int .i64 0, .slice none 0 0] 82)).alloc (Obj.cells #[.int .i64 id, .int .i64 0, .int .i64 0, .int .i64 0, .slice none 0 0] 82) := ⟨_, rfl⟩
  rw [World.size_alloc, World.size_alloc, ← hw0, ← ha0] at hS0
  have HS0 := hide hS0
  have HB0 : Hid (Below w.heap.size w w0) := hide (by rw [hw0]; exact (((Below.refl w.heap.size w).alloc (Nat.le_refl _) _).alloc (by simp) _).alloc (by simp; omega) _)
  have HZ0 : Hid (a0 ≤ w0.heap.size) := hide (by rw [hw0, ha0]; simp; omega)
  have HA := hide ha0
  clear hS0 ha0 hd htx hmr hmn hl hs
  go_enter Tryz.func63, Tryz.ntmps63
  go_wp2_with fail
  rw [← hw0, ← HA.out]
  clear hw0
  refine (HC.out _ _ (HM.out _ HB0.out)).mono ?_
  rintro e w1 ⟨v1, rfl, hm1, hb1⟩
  obtain ⟨xr, lr, e1, ho1⟩ := hm1
  obtain ⟨p1, q1, rfl⟩ := own_slice ho1.1
  rw [HL.out.1, HL.out.2.1, HL.out.2.2] at e1
  subst e1
  have HS1 := hide (sep_add HS0.out hb1 (freesA a0 (.slice p1 m.fs.length q1) lr m.fs) (ownF_down ho1 HZ0.out) (fun j hj => ownF_lt ho1 j hj) HZ0.out)
  have HB1 : Hid (Below w.heap.size w w1) := hide (HB0.out.trans (hb1.mono HB0.out.size))
  clear ho1 hb1
  obtain ⟨nL, hnL⟩ : ∃ n, n = m.fs.length := ⟨_, rfl⟩
  rw [← hnL] at HS1 ⊢
  have HNL := hide hnL
  clear hnL
  have HV : Hid (w1.heap[a0 + 1 + 1]? = some (Obj.cells #[.int .i64 id, .int .i64 0, .int .i64 0, .int .i64 0, .slice none 0 0] 82)) := hide (sep_get HS1.out 1 rfl)
  have HU : Hid (w1.heap[a0 + 1]? = some (Obj.cells #[.int .i64 0, .int .i64 0, .int .i64 0, .int .i64 0, .slice none 0 0] 82)) := hide (sep_get HS1.out 2 rfl)
  have y0 := (cell_at HV.out 0).1
  have y1 := (cell_at HV.out 1).1
  have y2 := (cell_at HV.out 2).1
  have y3 := (cell_at HV.out 3).1
  have y4 := (cell_at HV.out 4).1
  have z1 := (cell_at HV.out 1).2
  have z2 := (cell_at HV.out 2).2
  have z3 := (cell_at HV.out 3).2
  have z4 := (cell_at HV.out 4).2
  have r0 := (cell_at HU.out 0).1
  have r1 := (cell_at HU.out 1).1
  have r2 := (cell_at HU.out 2).1
  have r3 := (cell_at HU.out 3).1
  have r4 := (cell_at HU.out 4).1
  have s0 := (cell_at HU.out 0).2
  have s1 := (cell_at HU.out 1).2
  have s2 := (cell_at HU.out 2).2
  have s3 := (cell_at HU.out 3).2
  have s4 := (cell_at HU.out 4).2
  have hne : a0 + 1 ≠ a0 + 1 + 1 := by omega
  go_wp2_with fail
  have HS4 := hide (sep_store (sep_store (sep_store (sep_store (sep_store (sep_store (sep_store (sep_store (sep_store HS1.out 1 rfl 1 (.int .i64 tx)) 1 rfl 2 (.int .i64 mr)) 1 rfl 3 (.int .i64 mn)) 1 rfl 4 (.slice p1 nL q1)) 2 rfl 0 (.int .i64 id)) 2 rfl 1 (.int .i64 tx)) 2 rfl 2 (.int .i64 mr)) 2 rfl 3 (.int .i64 mn)) 2 rfl 4 (.slice p1 nL q1))
  have hg1 : w.heap.size ≤ a0 + 1 := by have := HA.out; omega
  have hg2 : w.heap.size ≤ a0 + 1 + 1 := by have := HA.out; omega
  have HF : Hid ((((((((((w1.setCell ⟨a0 + 1 + 1, 1, none⟩ (.int .i64 tx)).setCell ⟨a0 + 1 + 1, 2, none⟩ (.int .i64 mr)).setCell ⟨a0 + 1 + 1, 3, none⟩ (.int .i64 mn)).setCell ⟨a0 + 1 + 1, 4, none⟩ (.slice p1 nL q1)).setCell ⟨a0 + 1, 0, none⟩ (.int .i64 id)).setCell ⟨a0 + 1, 1, none⟩ (.int .i64 tx)).setCell ⟨a0 + 1, 2, none⟩ (.int .i64 mr)).setCell ⟨a0 + 1, 3, none⟩ (.int .i64 mn)).setCell ⟨a0 + 1, 4, none⟩ (.slice p1 nL q1)).heap[a0 + 1]? = some (Obj.cells #[.int .i64 id, .int .i64 tx, .int .i64 mr, .int .i64 mn, .slice p1 nL q1] 82)) := hide (sep_get HS4.out 2 rfl)
  have t0 := (cell_at HF.out 0).1
  have t1 := (cell_at HF.out 1).1
  have t2 := (cell_at HF.out 2).1
  have t3 := (cell_at HF.out 3).1
  have t4 := (cell_at HF.out 4).1
  refine bodyPost_ret (v := .agg #[.int .i64 id, .int .i64 tx, .int .i64 mr, .int .i64 mn, .slice p1 nL q1]) (by simp [results, Tryz.results63, go_sem, t0, t1, t2, t3, t4]) rfl ⟨p1, q1, lr, by rw [HNL.out], ?_, (((((((((HB1.out.setCell (p := ⟨a0 + 1 + 1, 1, none⟩) hg2 (.int .i64 tx)).setCell (p := ⟨a0 + 1 + 1, 2, none⟩) hg2 (.int .i64 mr)).setCell (p := ⟨a0 + 1 + 1, 3, none⟩) hg2 (.int .i64 mn)).setCell (p := ⟨a0 + 1 + 1, 4, none⟩) hg2 (.slice p1 nL q1)).setCell (p := ⟨a0 + 1, 0, none⟩) hg1 (.int .i64 id)).setCell (p := ⟨a0 + 1, 1, none⟩) hg1 (.int .i64 tx)).setCell (p := ⟨a0 + 1, 2, none⟩) hg1 (.int .i64 mr)).setCell (p := ⟨a0 + 1, 3, none⟩) hg1 (.int .i64 mn)).setCell (p := ⟨a0 + 1, 4, none⟩) hg1 (.slice p1 nL q1))⟩
  have h : OwnF _ a0 (.slice p1 nL q1) lr m.fs := sep_get HS4.out 0 rfl
  rw [HNL.out] at h ⊢
  rw [HA.out] at h ⊢
  exact h
def rd0 : Int × Mt := (0, ⟨0, 0, 0, []⟩)
theorem rds_made (n : Nat) : (madeCells #[Value.int .i64 0, .int .i64 0, .int .i64 0, .int .i64 0, .slice none 0 0] (n * 5)).toList = rds (List.replicate n rd0) (List.replicate n (.slice none 0 0)) := by
  apply List.ext_getElem?
  intro i
  have hlen : (rds (List.replicate n rd0) (List.replicate n (.slice none 0 0))).length = n * 5 := by rw [rds_length _ _ (by simp), List.length_replicate]
  by_cases hi : i < n * 5
  · have h1 : (madeCells #[Value.int .i64 0, .int .i64 0, .int .i64 0, .int .i64 0, .slice none 0 0] (n * 5)).toList[i]? = some (#[Value.int .i64 0, .int .i64 0, .int .i64 0, .int .i64 0, .slice none 0 0][i % 5]!) := by
      simp [madeCells, hi]
    obtain ⟨h20, h21, h22, h23, h24⟩ := rds_at (List.replicate n rd0) (List.replicate n (.slice none 0 0)) (i / 5) rd0 (.slice none 0 0) (by rw [List.getElem?_replicate, if_pos (by omega)]) (by rw [List.getElem?_replicate, if_pos (by omega)])
    rw [h1]
    have h5 : i % 5 = 0 ∨ i % 5 = 1 ∨ i % 5 = 2 ∨ i % 5 = 3 ∨ i % 5 = 4 := by omega
    rcases h5 with h | h | h | h | h
    · rw [h, show i = i / 5 * 5 from by omega, h20]; rfl
    · rw [h, show i = i / 5 * 5 + 1 from by omega, h21]; rfl
    · rw [h, show i = i / 5 * 5 + 2 from by omega, h22]; rfl
    · rw [h, show i = i / 5 * 5 + 3 from by omega, h23]; rfl
    · rw [h, show i = i / 5 * 5 + 4 from by omega, h24]; rfl
  · rw [List.getElem?_eq_none (by simp [madeCells]; omega), List.getElem?_eq_none (by rw [hlen]; omega)]
theorem Tryz.infoReader : (Tryz.prog.info? 82).map (fun i => (i.zero, i.size, i.bytes)) = some (some (.agg #[.int .i64 0, .int .i64 0, .int .i64 0, .int .i64 0, .slice none 0 0]), 5, 56) := by kernel_rfl
theorem set_mid {α : Type} (l : List α) (j : Nat) (z x : α) (k : Nat) (hk : l.length = k) : (l ++ List.replicate (j + 1) z).set k x = (l ++ [x]) ++ List.replicate j z := by
  subst hk
  rw [List.replicate_succ, List.set_append_right _ _ (Nat.le_refl _), Nat.sub_self, List.set_cons_zero, List.append_assoc]
  rfl
theorem frL_snoc (B : Nat) (us : List (Value × List (Int × Value))) (rs : List (Int × Mt)) (x : Value × List (Int × Value)) (r : Int × Mt) (h : us.length = rs.length) : frL B (us ++ [x]) (rs ++ [r]) = frL B us rs ++ [freesA B x.1 x.2 r.2.fs] := by
  unfold frL
  rw [List.zipWith_append h]
  rfl
set_option maxHeartbeats 4000000 in
set_option maxRecDepth 100000 in
theorem toReaderS_any (rs : List (Int × Mt)) (hl : rs.length ≤ 1048576) (hs : ∀ r ∈ rs, r.2.fs.length ≤ 1048576 ∧ ∀ f ∈ r.2.fs, f.2.length ≤ 1048576) (v : Value) (w : World) (hr : RdsAt w v rs) :
    Calls Tryz.prog 44 #[v] w fun e w' => ∃ v' us, e = .returned v' ∧ us.length = rs.length ∧ Sep w.heap.size w' (rdsL w.heap.size v' us rs) ∧ Below w.heap.size w w' := by
  obtain ⟨i0, hi, hz0, hz1, hz2⟩ := info_parts Tryz.infoReader
  obtain ⟨a, cap, rfl⟩ := rds_slice hr
  have HR := hide hr
  have HS := hide hs
  clear hr hs
  obtain ⟨n, hn⟩ : ∃ n, n = rs.length := ⟨_, rfl⟩
  rw [← hn] at hl HR ⊢
  have HN := hide hn
  clear hn
  go_enter Tryz.func44, Tryz.ntmps44
  go_wp2_with (at_make; refine wpList_make_full _ rfl _ _ 49 rfl w.heap.size 82 i0 (.agg #[.int .i64 0, .int .i64 0, .int .i64 0, .int .i64 0, .slice none 0 0]) 5 Tryz.underlying49 hi hz0 hz1 .i64 .i64 _ _ n rfl rfl rfl rfl (by rw [hz2]; omega) (by unfold maxLen; omega) (Nat.le_refl _) ?_)
  intro w1 hown1 hg1
  have hb1 : Below w.heap.size w w1 := (Below.refl _ _).grown hg1 (Nat.le_refl _) (fun k hk => by cases hk)
  have hown2 : w1.ownsRow w.heap.size 82 5 (.slice (some ⟨w.heap.size, 0, none⟩) n n) n (rds (List.replicate n rd0) (List.replicate n (.slice none 0 0))) := own_n hown1 rfl (rds_made _)
  obtain ⟨a0, ha0⟩ : ∃ a, a = w.heap.size := ⟨_, rfl⟩
  have HS1 : Hid (Sep a0 w1 (rowA a0 82 5 (.slice (some ⟨a0, 0, none⟩) n n) n (rds (rs.take 0 ++ List.replicate (n - 0) rd0) (([] : List (Value × List (Int × Value))).map Prod.fst ++ List.replicate (n - 0) (.slice none 0 0))) :: frL a0 [] (rs.take 0))) := hide (by
    rw [List.take_zero, Nat.sub_zero]
    rw [← ha0] at hown2
    refine sep_cons.2 ⟨⟨hown2, fun j hj => hown2.lt j hj⟩, (fun A hA => (by cases hA)), sep_nil _ _⟩)
  have HB1 := hide hb1
  have HZ1 : Hid (a0 ≤ w1.heap.size) := hide (by rw [ha0]; exact hb1.size)
  have HA := hide ha0
  rw [← HA.out]
  clear hg1 hown1 hown2 hb1 ha0
  go_wp2
  go_loopg [4] n (fun q iv wr => ∃ (k : Nat) (us : List (Value × List (Int × Value))), k ≤ n ∧ iv = .int .i64 (k : Int) ∧ q + k = n ∧ Hid (us.length = k) ∧ Hid (Sep a0 wr (rowA a0 82 5 (.slice (some ⟨a0, 0, none⟩) n n) n (rds (rs.take k ++ List.replicate (n - k) rd0) (us.map Prod.fst ++ List.replicate (n - k) (.slice none 0 0))) :: frL a0 us (rs.take k))) ∧ Hid (Below w.heap.size w wr) ∧ Hid (a0 ≤ wr.heap.size))
  case atStart => exact ⟨0, [], Nat.zero_le _, rfl, rfl, hide rfl, HS1, HB1, HZ1⟩
  case round =>
    clear HS1 HB1 HZ1
    obtain ⟨k, us, hk, rfl, hg, HU, HSp, HB, HZ⟩ := hrel
    have HG := hide hg
    clear hg
    by_cases hlt : k < n
    · obtain ⟨id, m, hm⟩ : ∃ id m, rs[k]? = some (id, m) := ⟨_, _, List.getElem?_eq_getElem (by rw [← HN.out]; exact hlt)⟩
      obtain ⟨b, off, u1, rfl, hbl, ⟨c0, c1, c2, c3, c4⟩, hfr⟩ := rds_get (rds_below HR.out HB.out) hm
      have hxs := HS.out _ (List.mem_of_getElem? hm)
      have HC := hide (fun wx h => toReader_any id u1 m hxs.1 hxs.2 wx h)
      have HFr := hide hfr
      have HMk := hide hm
      obtain ⟨xa, xc, rfl⟩ := frees_slice hfr
      obtain ⟨tx, htx⟩ : ∃ n, n = m.tx := ⟨_, rfl⟩
      obtain ⟨mr, hmr⟩ : ∃ n, n = m.root := ⟨_, rfl⟩
      obtain ⟨mn, hmn⟩ : ∃ n, n = m.next := ⟨_, rfl⟩
      obtain ⟨mL, hmL⟩ : ∃ n, n = m.fs.length := ⟨_, rfl⟩
      rw [← htx, ← hmr, ← hmn, ← hmL] at HC
      rw [← htx] at c1
      rw [← hmr] at c2
      rw [← hmn] at c3
      rw [← hmL] at c4
      rw [← hmL] at HFr
      have HMs := hide (⟨htx, hmr, hmn, hmL⟩ : _ ∧ _ ∧ _ ∧ _)
      have hk0 : (0 : Int) ≤ (k : Int) := by omega
      have hk1 : (k : Int) < (n : Int) := by omega
      clear hm hfr hxs htx hmr hmn hmL
      go_wp2_with fail
      refine (HC.out _ HFr.out).mono ?_
      rintro e w2 ⟨p, q, lr, rfl, ho, hb2⟩
      have hs2 := sep_add HSp.out hb2 (freesA a0 (.slice p mL q) lr m.fs) (ownF_down ho HZ.out) (fun j hj => ownF_lt ho j hj) HZ.out
      have hown : w2.ownsRow a0 82 5 (.slice (some ⟨a0, 0, none⟩) n n) n (rds (rs.take k ++ List.replicate (n - k) rd0) (us.map Prod.fst ++ List.replicate (n - k) (.slice none 0 0))) := sep_get hs2 1 rfl
      have hlk : (rs.take k).length = k := by rw [List.length_take, ← HN.out]; omega
      have hluk : (us.map Prod.fst).length = k := by rw [List.length_map]; exact HU.out
      obtain ⟨e0, e1, e2, e3, e4⟩ := rds_at (rs.take k ++ List.replicate (n - k) rd0) (us.map Prod.fst ++ List.replicate (n - k) (.slice none 0 0)) k rd0 (.slice none 0 0) (by rw [List.getElem?_append_right (by omega), List.getElem?_replicate, if_pos (by omega)]) (by rw [List.getElem?_append_right (by omega), List.getElem?_replicate, if_pos (by omega)])
      have d0 : w2.cell? ⟨a0, k * 5, none⟩ = some (.int .i64 0) := by rw [hown.cellAt (k * 5) (by omega), e0]; rfl
      have d1 : w2.cell? ⟨a0, k * 5 + 1, none⟩ = some (.int .i64 0) := by rw [hown.cellAt (k * 5 + 1) (by omega), e1]; rfl
      have d2 : w2.cell? ⟨a0, k * 5 + 2, none⟩ = some (.int .i64 0) := by rw [hown.cellAt (k * 5 + 2) (by omega), e2]; rfl
      have d3 : w2.cell? ⟨a0, k * 5 + 3, none⟩ = some (.int .i64 0) := by rw [hown.cellAt (k * 5 + 3) (by omega), e3]; rfl
      have d4 : w2.cell? ⟨a0, k * 5 + 4, none⟩ = some (.slice none 0 0) := by rw [hown.cellAt (k * 5 + 4) (by omega), e4]
      have f0 : w2.frozen? ⟨a0, k * 5, none⟩ = false := hown.frozenAt _
      have f1 : w2.frozen? ⟨a0, k * 5 + 1, none⟩ = false := hown.frozenAt _
      have f2 : w2.frozen? ⟨a0, k * 5 + 2, none⟩ = false := hown.frozenAt _
      have f3 : w2.frozen? ⟨a0, k * 5 + 3, none⟩ = false := hown.frozenAt _
      have f4 : w2.frozen? ⟨a0, k * 5 + 4, none⟩ = false := hown.frozenAt _
      have hst := (((((hown.stored (k * 5) (.int .i64 id)).1.stored (k * 5 + 1) (.int .i64 tx)).1.stored (k * 5 + 2) (.int .i64 mr)).1.stored (k * 5 + 3) (.int .i64 mn)).1.stored (k * 5 + 4) (.slice p mL q)).1
      have hset := rds_set (rs.take k ++ List.replicate (n - k) rd0) (us.map Prod.fst ++ List.replicate (n - k) (.slice none 0 0)) k (id, m) (.slice p mL q) (by simp [hlk, hluk]) (by rw [List.length_append, hlk, List.length_replicate]; omega)
      rw [HMs.out.1, HMs.out.2.1, HMs.out.2.2.1] at hst
      rw [hset, show n - k = (n - (k + 1)) + 1 by omega, set_mid _ _ _ _ k hlk, set_mid _ _ _ _ k hluk, ← take_next rs k _ HMk.out] at hst
      rw [← HMs.out.1, ← HMs.out.2.1, ← HMs.out.2.2.1] at hst
      have hkept := kept_trans (kept_trans (kept_trans (kept_trans (kept_setCell w2 a0 (k * 5) (.int .i64 id)) (kept_setCell _ a0 (k * 5 + 1) (.int .i64 tx)) (fun _ _ h => h)) (kept_setCell _ a0 (k * 5 + 2) (.int .i64 mr)) (fun _ _ h => h)) (kept_setCell _ a0 (k * 5 + 3) (.int .i64 mn)) (fun _ _ h => h)) (kept_setCell _ a0 (k * 5 + 4) (.slice p mL q)) (fun _ _ h => h)
      have hs3 := sep_set hs2 1 rfl (kept_mono hkept (fun j _ h => by subst h; rfl)) (rowA a0 82 5 (.slice (some ⟨a0, 0, none⟩) n n) n _) hst (fun j hj => ⟨Or.inl hj, (hst.lt j hj).2⟩) (Nat.le_trans HZ.out hb2.size)
      have HS4 : Hid (Sep a0 ((((((w2.setCell ⟨a0, k * 5, none⟩ (.int .i64 id)).setCell ⟨a0, k * 5 + 1, none⟩ (.int .i64 tx)).setCell ⟨a0, k * 5 + 2, none⟩ (.int .i64 mr)).setCell ⟨a0, k * 5 + 3, none⟩ (.int .i64 mn)).setCell ⟨a0, k * 5 + 4, none⟩ (.slice p mL q))) (rowA a0 82 5 (.slice (some ⟨a0, 0, none⟩) n n) n (rds (rs.take (k + 1) ++ List.replicate (n - (k + 1)) rd0) ((us ++ [(Value.slice p mL q, lr)]).map Prod.fst ++ List.replicate (n - (k + 1)) (.slice none 0 0))) :: frL a0 (us ++ [(Value.slice p mL q, lr)]) (rs.take (k + 1)))) := hide (by
        rw [List.map_append, List.map_singleton, take_next rs k _ HMk.out, frL_snoc a0 us (rs.take k) _ _ (by rw [HU.out, hlk])]
        rw [take_next rs k _ HMk.out] at hs3
        exact sep_perm hs3 ((List.Perm.swap _ _ _).trans (List.Perm.cons _ (List.perm_append_comm (l₁ := [_])))))
      have HB4 := hide ((((((HB.out.trans (hb2.mono HB.out.size)).setCell (p := ⟨a0, k * 5, none⟩) (by rw [HA.out]; exact Nat.le_refl _) (.int .i64 id)).setCell (p := ⟨a0, k * 5 + 1, none⟩) (by rw [HA.out]; exact Nat.le_refl _) (.int .i64 tx)).setCell (p := ⟨a0, k * 5 + 2, none⟩) (by rw [HA.out]; exact Nat.le_refl _) (.int .i64 mr)).setCell (p := ⟨a0, k * 5 + 3, none⟩) (by rw [HA.out]; exact Nat.le_refl _) (.int .i64 mn)).setCell (p := ⟨a0, k * 5 + 4, none⟩) (by rw [HA.out]; exact Nat.le_refl _) (.slice p mL q))
      have HZ4 : Hid (a0 ≤ ((((((w2.setCell ⟨a0, k * 5, none⟩ (.int .i64 id)).setCell ⟨a0, k * 5 + 1, none⟩ (.int .i64 tx)).setCell ⟨a0, k * 5 + 2, none⟩ (.int .i64 mr)).setCell ⟨a0, k * 5 + 3, none⟩ (.int .i64 mn)).setCell ⟨a0, k * 5 + 4, none⟩ (.slice p mL q))).heap.size) := hide (by have h1 := HZ.out; have h2 := hb2.size; simp; omega)
      clear hs2 hs3 hown hst hset hkept ho hb2 e0 e1 e2 e3 e4 c0 c1 c2 c3 c4 hlk hluk
      go_wp2_with fail
      go_roundg (gk - 1)
      case measure => have := HG.out; omega
      case rel => exact ⟨k + 1, us ++ [(Value.slice p mL q, lr)], by omega, by go_num, by have := HG.out; omega, hide (by simp [HU.out]), HS4, HB4, HZ4⟩
    · obtain rfl : n = k := by omega
      go_wp2
      go_ret
      refine ⟨_, us, rfl, by rw [HU.out], ?_, HB.out⟩
      have h := HSp.out
      rw [Nat.sub_self, List.replicate_zero, List.replicate_zero, List.append_nil, List.append_nil, List.take_of_length_le (by rw [← HN.out]; exact Nat.le_refl _)] at h
      unfold rdsL
      rw [← HN.out, ← HA.out]
      exact h
end Go.Proofs.YtdbpbhemnnffeaaGreatDoor
