/-
  spec.l06Copy by a contract, for metas of any size (out of DrawMeta2, without the draws).
-/
import Derived.Test.YtghjbfdbheokcaaGreatSwF
import Derived.Test.YtghjbfdbheokcaaGreatSwC
import Derived.Deep.RegionHeldLaw
namespace Go.Proofs.YtghjbfdbheokcaaGreat
open Go.RowKit

theorem free_cellsC (w : World) (n : Nat) (hn : n = w.heap.size) (x : Int) (u : Value) : ∀ (j : Nat) (y : Value), [Value.int .i64 x, u][j]? = some y → (w.alloc (.cells #[.int .i64 x, u] 103 (0, 0))).cell? ((⟨n, 0, none⟩ : Addr).add j) = some y := by
  subst hn
  intro j y hj
  rw [Addr.add_lit, Nat.zero_add, (cell_at (heap_alloc_new w _) j).1]
  simpa using hj

theorem Tryz.intInfoC : (Tryz.prog.info? 3).map (fun i => (i.zero, i.size, i.bytes)) = some (some (.int .i64 0), 1, 8) := by kernel_rfl

theorem Tryz.freeInfoC : (Tryz.prog.info? 103).map (fun i => (i.zero, i.size, i.bytes)) = some (some (.agg #[.int .i64 0, .slice none 0 0]), 2, 32) := by kernel_rfl


/-- a free more, made by a literal -/
theorem free_stepLC {w w' : World} {gm : Nat} {tx root next ftx : Int} {vf vp v' : Value} {l : List (Int × Value)} {fs : List (Int × List Int)} {ps : List Int} {o : Obj} (hM : MGr w gm tx root next vf l fs) (hP : w.ownsRow (gm + 1) 3 1 vp ps.length (ints ps)) (f5 : ∀ (i : Nat) (p : Int × Value) (b : Nat), l[i]? = some p → p.2.ownBlock = some b → vp.ownBlock ≠ some b)
    (hown : w'.ownsRow (gm + 1) 103 2 v' (fs.length + 1) (frs l ++ [.int .i64 ftx, vp])) (hg : (w.alloc o).grownBy w' vf.ownBlock) :
    MGr (w'.setCell ⟨gm, 3, none⟩ v') gm tx root next v' (l ++ [(ftx, vp)]) (fs ++ [(ftx, ps)]) ∧ Below gm w (w'.setCell ⟨gm, 3, none⟩ v') ∧ w'.cell? ⟨gm, 3, none⟩ = some vf ∧ w'.frozen? ⟨gm, 3, none⟩ = false := by
  have hba : Below w.heap.size w (w.alloc o) := (Below.refl _ _).alloc (Nat.le_refl _) _
  have hMl := mgr_lt hM
  obtain ⟨m1, m2⟩ := mgr_below hM hba
  have f2 := own_stays hP hba
  have r2 : w'.heap[gm]? = _ := (hg.block gm (Array.getElem?_eq_some_iff.1 m1).1 (awayM (fun k e => (m2.1.lt k e).1))).trans m1
  have hs := grown_setM w' gm 3 v'
  have hbe : Below gm w w' := ((Below.refl gm w).alloc (by omega) o).grown hg (by simp; omega) (fun k e => by have := (m2.1.lt k e).1; omega)
  have p1 : w'.ownsRow (gm + 1) 3 1 vp ps.length (ints ps) := f2.kept hg (apartM (fun k e => one_type m2.1 f2 Tryz.free_int k e))
  have p2 := p1.kept hs (Or.inr (fun e => by have := (p1.lt _ e).1; omega))
  have hlen : l.length = fs.length := m2.2.1
  refine ⟨⟨heap_setCell_same w' gm 3 _ _ _ r2, ?_, ?_, ?_, ?_⟩, hbe.grown hs (by have := hbe.size; omega) (fun k e => by injection e with e; omega), (cell_at r2 3).1, (cell_at r2 3).2⟩
  · rw [List.length_append, frs_snoc]
    exact hown.kept hs (Or.inr (fun e => by have := (hown.lt _ e).1; omega))
  · simp [hlen]
  · intro i p f hi hp hf
    by_cases e : i < fs.length
    · rw [List.getElem?_append_left (by omega)] at hp
      rw [List.getElem?_append_left e] at hf
      obtain ⟨g1, g2⟩ := m2.2.2.1 i p f e hp hf
      have g3 := g2.kept hg (apartM (fun k e => one_type m2.1 g2 Tryz.free_int k e))
      exact ⟨g1, g3.kept hs (Or.inr (fun e => by have := (g3.lt _ e).1; omega))⟩
    · have hi2 : i = fs.length := by simp at hi; omega
      subst hi2
      rw [List.getElem?_append_right (by omega), hlen] at hp
      rw [List.getElem?_append_right (by omega)] at hf
      simp at hp hf
      subst hp hf
      exact ⟨rfl, p2⟩
  · intro i j p q b hi hj hp hq h1 h2
    by_cases ei : i < fs.length
    · rw [List.getElem?_append_left (by omega)] at hp
      by_cases ej : j < fs.length
      · rw [List.getElem?_append_left (by omega)] at hq
        exact m2.2.2.2 i j p q b ei ej hp hq h1 h2
      · have hj2 : j = fs.length := by simp at hj; omega
        subst hj2
        rw [List.getElem?_append_right (by omega), hlen] at hq
        simp at hq
        subst hq
        exact absurd h2 (f5 i p b hp h1)
    · have hi2 : i = fs.length := by simp at hi; omega
      by_cases ej : j < fs.length
      · rw [List.getElem?_append_left (by omega)] at hq
        subst hi2
        rw [List.getElem?_append_right (by omega), hlen] at hp
        simp at hp
        subst hp
        exact absurd h1 (f5 j q b hq h2)
      · simp at hj
        omega

/-- 'wpAnyH_take' with the slot named -/
theorem takeMC {P : Program} {md : Region.Mode} {ops : Array Oper} {Q : Exit → Act → World → Prop} {S : World → Prop} (i d : Nat) {oi : Oper} (v : Value) {fuel : Nat} {listed : Array Bool} {a : Act} {w : World} (hi : ops[i]? = some oi) (hd : oi.dst = some d)
    (hs : Region.noSelect ops = true) (hf : Region.free md ops listed i = true) (hr : (Region.ready md ops listed).contains i = true)
    (hQ : ∀ c a w, Q (.panic c) (a.put oi.dst v) w → Q (.panic c) a w) (hy : YieldsIf P ops S oi v a) (hS : S w)
    (h : wpAnyH P md ops Q S fuel (listed.setIfInBounds i true) ⟨a.tmps.setIfInBounds d v, a.defers⟩ w) : wpAnyH P md ops Q S (fuel + 1) listed a w :=
  wpAnyH_take hi hs hf hr hQ hy hS (by rw [hd]; exact h)

theorem own_emptyMC {w : World} {g e sz : Nat} (h : w.heap[g]? = some (.cells #[] e (0, 0))) : w.ownsRow g e sz (.slice (some ⟨g, 0, none⟩) 0 0) 0 [] :=
  ⟨by simp, Or.inr ⟨g, 0, #[], rfl, Nat.le_refl _, h, Nat.le_refl _, by unfold maxLen; omega, by simp, by simp⟩⟩

theorem take_snocMC {α : Type} (l : List α) (i : Nat) (x : α) (h : l[i]? = some x) : l.take i ++ [x] = l.take (i + 1) := by rw [List.take_add_one, h]; rfl

set_option maxHeartbeats 16000000 in
set_option maxRecDepth 100000 in
theorem l06Copy_bigC (v : Value) (m : Mt) (hl : m.fs.length ≤ 1048576) (hs : ∀ f ∈ m.fs, f.2.length ≤ 1048576) (w : World) (hd : MetaAt w v m) :
    Calls Tryz.prog 18 #[v] w fun e w' => ∃ v', e = .returned v' ∧ MetaOwn w' w.heap.size v' m ∧ Below w.heap.size w w' := by
  obtain ⟨i0, hi, hz0, hz1, hz2⟩ := info_parts Tryz.intInfoC
  obtain ⟨i1, hi1, hy0, hy1, hy2⟩ := info_parts Tryz.freeInfoC
  obtain ⟨vf, rfl, hfr⟩ := hd
  obtain ⟨aF, cF, hvf⟩ := frees_slice hfr
  subst hvf
  obtain ⟨L, hL⟩ : ∃ L, L = m.fs.length := ⟨_, rfl⟩
  rw [← hL] at hfr hl ⊢
  have HL := hide hL
  have HFr := hide hfr
  have HSs := hide hs
  obtain ⟨tx, htx⟩ : ∃ x, x = m.tx := ⟨_, rfl⟩
  obtain ⟨root, hro⟩ : ∃ x, x = m.root := ⟨_, rfl⟩
  obtain ⟨next, hne⟩ : ∃ x, x = m.next := ⟨_, rfl⟩
  rw [← htx, ← hro, ← hne]
  have HE := hide (⟨htx, hro, hne⟩ : _ ∧ _ ∧ _)
  clear hL hfr hs htx hro hne
  go_enter Tryz.func18, Tryz.ntmps18
  go_wp2_with fail
  obtain ⟨gm, hgm⟩ : ∃ gm, gm = w.heap.size + 1 + 1 := ⟨_, rfl⟩
  rw [← hgm]
  obtain ⟨wz, hwz⟩ : ∃ wz, wz = (w.alloc (.cells #[.int .i64 tx, .int .i64 root, .int .i64 next, .slice aF L cF] 43 (0, 0))).alloc (.cells #[.int .i64 0, .int .i64 0, .int .i64 0, .slice none 0 0] 43 (0, 0)) := ⟨_, rfl⟩
  obtain ⟨wm, hwm⟩ : ∃ wm, wm = wz.alloc (.cells #[.int .i64 tx, .int .i64 root, .int .i64 next, .slice (some ⟨gm + 1, 0, none⟩) 0 0] 43 (0, 0)) := ⟨_, rfl⟩
  obtain ⟨w1, hw1⟩ : ∃ w1, w1 = wm.alloc (Obj.cells #[] 103) := ⟨_, rfl⟩
  have hzs : wz.heap.size = gm := by rw [hwz, hgm]; simp
  have hms : wm.heap.size = gm + 1 := by rw [hwm, ← hzs]; simp
  have h1s : w1.heap.size = gm + 1 + 1 := by rw [hw1, ← hms]; simp
  have b1 : Below wm.heap.size wm w1 := by rw [hw1]; exact (Below.refl _ _).alloc (Nat.le_refl _) _
  have b2 : Below wz.heap.size wz wm := by rw [hwm]; exact (Below.refl _ _).alloc (Nat.le_refl _) _
  have b3 : Below w.heap.size w wz := by rw [hwz]; exact ((Below.refl _ _).alloc (Nat.le_refl _) _).alloc (by simp) _
  have HB1 : Hid (Below w.heap.size w w1) := hide (b3.trans ((b2.mono (by omega)).trans (b1.mono (by omega))))
  have HM1 : Hid (MGr w1 gm tx root next (.slice (some ⟨gm + 1, 0, none⟩) 0 0) [] (m.fs.take 0)) := hide (by
    refine ⟨(b1.block gm (by omega)).trans (by rw [hwm, ← hzs]; exact heap_alloc_new wz _), own_emptyMC (by rw [hw1, ← hms]; exact heap_alloc_new wm _), rfl, fun i p f h => by simp at h, fun i j p q b h => by simp at h⟩)
  have HA1 : Hid (w1.heap[w.heap.size]? = some (.cells #[.int .i64 tx, .int .i64 root, .int .i64 next, .slice aF L cF] 43 (0, 0))) := hide (by
    rw [(b2.trans (b1.mono (by omega))).block w.heap.size (by omega), hwz]
    exact (Below.heap_alloc _ _ _ (by simp)).trans (heap_alloc_new w _))
  have HZ1 : Hid (w1.heap[w.heap.size + 1]? = some (.cells #[.int .i64 0, .int .i64 0, .int .i64 0, .slice none 0 0] 43 (0, 0))) := hide (by
    rw [(b2.trans (b1.mono (by omega))).block (w.heap.size + 1) (by omega), hwz]
    have h := heap_alloc_new (w.alloc (.cells #[.int .i64 tx, .int .i64 root, .int .i64 next, .slice aF L cF] 43 (0, 0))) (.cells #[.int .i64 0, .int .i64 0, .int .i64 0, .slice none 0 0] 43 (0, 0))
    rw [World.size_alloc] at h
    exact h)
  have HGm := hide hgm
  rw [← hwz, ← hwm, ← hw1]
  clear hwz hwm hw1 hzs hms h1s b1 b2 b3 hgm
  go_loopg [4] L (fun q iv wr => ∃ (i : Nat) (vf : Value) (l : List (Int × Value)), i ≤ L ∧ iv = .int .i64 (i : Int) ∧ q + i = L ∧ Hid (MGr wr gm tx root next vf l (m.fs.take i)) ∧ Hid (Below gm w1 wr))
  case atStart => exact ⟨0, _, [], by omega, rfl, rfl, HM1, hide (Below.refl _ _)⟩
  case round =>
    clear HM1
    obtain ⟨i, vf, l, hil, rfl, hg, HMg, HBr⟩ := hrel
    have HG := hide hg
    clear hg
    have ca := (cell_at ((HBr.out.block w.heap.size (by have := HGm.out; omega)).trans HA1.out) 3).1
    by_cases hlt : i < L
    · obtain ⟨ftx, ps, hf⟩ : ∃ tx ps, m.fs[i]? = some (tx, ps) := ⟨_, _, List.getElem?_eq_getElem (by have := HL.out; omega)⟩
      obtain ⟨b, off, x, c, hae, hbl, hc0, hc1, hrow⟩ := frees_at HFr.out hf
      subst hae
      have hps : ps.length ≤ 1048576 := HSs.out _ (List.mem_of_getElem? hf)
      have HRow := hide hrow
      have HF := hide hf
      obtain ⟨pl, hpl⟩ : ∃ pl, pl = ps.length := ⟨_, rfl⟩
      have HPl := hide hpl
      rw [← hpl] at hc1 hps
      have HSB : Hid (∀ wx, Below gm w1 wx → wx.cell? ⟨w.heap.size, 3, none⟩ = some (.slice (some ⟨b, off, none⟩) L cF) ∧ wx.cell? ⟨b, off + i * 2, none⟩ = some (.int .i64 ftx) ∧ wx.cell? ⟨b, off + i * 2 + 1, none⟩ = some (.slice x pl c)) := hide (fun wx h => by
        have hb := HB1.out.trans (h.mono (by have := HGm.out; omega))
        exact ⟨(cell_at ((h.block w.heap.size (by have := HGm.out; omega)).trans HA1.out) 3).1, by rw [hb.cell (by exact hbl)]; exact hc0, by rw [hb.cell (by exact hbl)]; exact hc1⟩)
      have hi0 : (0 : Int) ≤ (i : Int) := by omega
      have hi1' : (i : Int) < (L : Int) := by omega
      clear hf hrow hc0 hc1 hpl
      have HFl : Hid ((m.fs.take i).length = i) := hide (by rw [List.length_take]; have := HL.out; omega)
      obtain ⟨aO, cO, hvf⟩ := own_slice HMg.out.2.1
      subst hvf
      rw [HFl.out] at HMg
      have HGs : Hid (gm < wr.heap.size) := hide (mgr_lt HMg.out)
      have hS0 := HSB.out wr HBr.out
      have HSal := hide (fun o => HSB.out (wr.drew.alloc o) (HBr.out.drew.alloc (show gm ≤ wr.heap.size by have := HGs.out; omega) o))
      have cm := (cell_at HMg.out.1 3).1
      have cmo : ∀ o, (wr.drew.alloc o).cell? ⟨gm, 3, none⟩ = some (.slice aO i cO) := fun o => (cell_at ((((Below.refl wr.heap.size wr).drew.alloc (Nat.le_refl _) o).block gm HGs.out).trans HMg.out.1) 3).1
      have cmp : ∀ o, (wr.alloc o).cell? ⟨gm, 3, none⟩ = some (.slice aO i cO) := fun o => cmo o
      have HRd : Hid (∀ o, RowAt (wr.drew.alloc o) 1 (.slice x pl c) pl (ints ps)) := hide (fun o => by rw [HPl.out]; exact row_below HRow.out (HB1.out.trans ((HBr.out.drew.alloc (show gm ≤ wr.heap.size by have := HGs.out; omega) o).mono (by have := HGm.out; omega))))
      have HBA : Hid (∀ o wA, (wr.drew.alloc o).grownBy wA (some wr.heap.size) → Below wr.heap.size wr wA) := hide (fun o wA h => ((Below.refl wr.heap.size wr).drew.alloc (Nat.le_refl _) o).grown h (by rw [World.size_alloc]; exact Nat.le_succ _) (fun k e => by injection e with e; omega))
      go_wp2_with fail
      refine wp_region_held_drew (S := fun wx => wx.cell? ⟨w.heap.size, 3, none⟩ = some (.slice (some ⟨b, off, none⟩) L cF) ∧ wx.cell? ⟨b, off + i * 2, none⟩ = some (.int .i64 ftx) ∧ wx.cell? ⟨b, off + i * 2 + 1, none⟩ = some (.slice x pl c)) (by kernel_rfl) hS0 (fun hHeld => ?_)
      refine takeMC 0 15 ?_ rfl rfl (by kernel_rfl) (by kernel_rfl) (by kernel_rfl) (fun _ _ _ h => h) (Or.inl ⟨by rfl, ?_⟩) hHeld ?_
      rotate_left
      · (intro wx hSw; (try dsimp only at hSw); go_simp; try with_reducible rfl)
      simp only [List.setIfInBounds_toArray, List.set_cons_zero, List.set_cons_succ]
      refine takeMC 2 17 ?_ rfl rfl (by kernel_rfl) (by kernel_rfl) (by kernel_rfl) (fun _ _ _ h => h) (Or.inl ⟨by rfl, ?_⟩) hHeld ?_
      rotate_left
      · (intro wx hSw; (try dsimp only at hSw); go_simp; try with_reducible rfl)
      simp only [List.setIfInBounds_toArray, List.set_cons_zero, List.set_cons_succ]
      refine takeMC 3 18 ?_ rfl rfl (by kernel_rfl) (by kernel_rfl) (by kernel_rfl) (fun _ _ _ h => h) (Or.inl ⟨by rfl, ?_⟩) hHeld ?_
      rotate_left
      · (intro wx hSw; (try dsimp only at hSw); go_simp; try with_reducible rfl)
      simp only [List.setIfInBounds_toArray, List.set_cons_zero, List.set_cons_succ]
      refine takeMC 4 19 ?_ rfl rfl (by kernel_rfl) (by kernel_rfl) (by kernel_rfl) (fun _ _ _ h => h) (Or.inl ⟨by rfl, ?_⟩) hHeld ?_
      rotate_left
      · (intro wx hSw; (try dsimp only at hSw); go_simp; try with_reducible rfl)
      simp only [List.setIfInBounds_toArray, List.set_cons_zero, List.set_cons_succ]
      refine takeMC 5 20 ?_ rfl rfl (by kernel_rfl) (by kernel_rfl) (by kernel_rfl) (fun _ _ _ h => h) (Or.inl ⟨by rfl, ?_⟩) hHeld ?_
      rotate_left
      · (intro wx hSw; (try dsimp only at hSw); go_simp; try with_reducible rfl)
      simp only [List.setIfInBounds_toArray, List.set_cons_zero, List.set_cons_succ]
      refine takeMC 6 21 ?_ rfl rfl (by kernel_rfl) (by kernel_rfl) (by kernel_rfl) (fun _ _ _ h => h) (Or.inl ⟨by rfl, ?_⟩) hHeld ?_
      rotate_left
      · (intro wx hSw; (try dsimp only at hSw); go_simp; try with_reducible rfl)
      simp only [List.setIfInBounds_toArray, List.set_cons_zero, List.set_cons_succ]
      refine takeMC 7 22 ?_ rfl rfl (by kernel_rfl) (by kernel_rfl) (by kernel_rfl) (fun _ _ _ h => h) (Or.inl ⟨by rfl, ?_⟩) hHeld ?_
      rotate_left
      · (intro wx hSw; (try dsimp only at hSw); go_simp; try with_reducible rfl)
      simp only [List.setIfInBounds_toArray, List.set_cons_zero, List.set_cons_succ]
      refine takeMC 9 24 ?_ rfl rfl (by kernel_rfl) (by kernel_rfl) (by kernel_rfl) (fun _ _ _ h => h) (Or.inl ⟨by rfl, ?_⟩) hHeld ?_
      rotate_left
      · (intro wx hSw; (try dsimp only at hSw); go_simp; try with_reducible rfl)
      simp only [List.setIfInBounds_toArray, List.set_cons_zero, List.set_cons_succ]
      refine takeMC 10 25 ?_ rfl rfl (by kernel_rfl) (by kernel_rfl) (by kernel_rfl) (fun _ _ _ h => h) (Or.inl ⟨by rfl, ?_⟩) hHeld ?_
      rotate_left
      · (intro wx hSw; (try dsimp only at hSw); go_simp; try with_reducible rfl)
      simp only [List.setIfInBounds_toArray, List.set_cons_zero, List.set_cons_succ]
      refine takeMC 11 26 ?_ rfl rfl (by kernel_rfl) (by kernel_rfl) (by kernel_rfl) (fun _ _ _ h => h) (Or.inl ⟨by rfl, ?_⟩) hHeld ?_
      rotate_left
      · (intro wx hSw; (try dsimp only at hSw); go_simp; try with_reducible rfl)
      simp only [List.setIfInBounds_toArray, List.set_cons_zero, List.set_cons_succ]
      refine takeMC 12 27 ?_ rfl rfl (by kernel_rfl) (by kernel_rfl) (by kernel_rfl) (fun _ _ _ h => h) (Or.inl ⟨by rfl, ?_⟩) hHeld ?_
      rotate_left
      · (intro wx hSw; (try dsimp only at hSw); go_simp; try with_reducible rfl)
      simp only [List.setIfInBounds_toArray, List.set_cons_zero, List.set_cons_succ]
      refine takeMC 13 28 ?_ rfl rfl (by kernel_rfl) (by kernel_rfl) (by kernel_rfl) (fun _ _ _ h => h) (Or.inl ⟨by rfl, ?_⟩) hHeld ?_
      rotate_left
      · (intro wx hSw; (try dsimp only at hSw); go_simp; try with_reducible rfl)
      simp only [List.setIfInBounds_toArray, List.set_cons_zero, List.set_cons_succ]
      refine takeMC 14 29 ?_ rfl rfl (by kernel_rfl) (by kernel_rfl) (by kernel_rfl) (fun _ _ _ h => h) (Or.inl ⟨by rfl, ?_⟩) hHeld ?_
      rotate_left
      · (intro wx hSw; (try dsimp only at hSw); go_simp; try with_reducible rfl)
      simp only [List.setIfInBounds_toArray, List.set_cons_zero, List.set_cons_succ]
      refine wpAnyH_ready (rs := [1, 8]) (by kernel_rfl) (by simp) ?_
      refine AllReadyH.cons rfl (fun K hK => ?_) ?_
      · go_simp
        refine hK.out _ _ hHeld (fun hHeld => ?_)
        clear hK K
        refine wpAnyH_ready (rs := [8]) (by kernel_rfl) (by simp) ?_
        refine AllReadyH.cons rfl (fun K hK => ?_) ?_
        · go_simp
          refine hK.out _ _ (HSal.out _) (fun hHeld => ?_)
          clear hK K
          refine wpAnyH_ready (rs := [15]) (by kernel_rfl) (by simp) ?_
          refine AllReadyH.cons rfl (fun K hK => ?_) ?_
          · (refine step_append_row _ ?_ (.tmp 23) (.tmp 29) 30 ?_ wr.heap.size 3 i0 (.int .i64 0) 1 8 Tryz.underlying30 hi hz0 hz1 hz2 ?_ ?_ (.slice (some ⟨wr.heap.size, 0, none⟩) 0 0) 0 [] ?_ (own_emptyMC ?_) (.slice x pl c) pl (ints ps) ?_ (HRd.out _) (ints_one _) ?_ ?_ ?_ ?_; exact rfl; exact rfl; exact rfl; decide; exact rfl; exact heap_alloc_new wr.drew _; exact rfl; (unfold maxLen; omega); omega; exact Nat.le_of_lt (by rw [show ∀ z : World, z.drew.heap.size = z.heap.size from fun _ => rfl, World.size_alloc]; exact Nat.lt_succ_self _); intro y1 d1 wA hownA hgA; rw [Nat.zero_add] at hownA ⊢; rw [List.nil_append] at hownA; have hbA := HBA.out _ wA hgA; have HMa := hide (mgr_below HMg.out hbA); have HPa : Hid (wA.ownsRow (gm + 1) 3 1 (.slice y1 pl d1) ps.length (ints ps)) := hide (by rw [← HPl.out]; exact own_down hownA (by have := HGs.out; omega)); have HFa : Hid (∀ (j : Nat) (p : Int × Value) (b : Nat), l[j]? = some p → p.2.ownBlock = some b → (Value.slice y1 pl d1).ownBlock ≠ some b) := hide (fun j p b hp e1 e2 => by have h1 := (ownF_lt HMg.out.2 b (Or.inr ⟨j, p, hp, e1⟩)).2; have h2 := (hownA.lt b e2).1; omega); have HBa : Hid (Below gm w1 wA) := hide (HBr.out.trans (hbA.mono (by have h1 := HGs.out; have h2 := HBr.out.size; omega))); have hSa := HSB.out wA HBa.out; have HGa : Hid (gm < wA.heap.size) := hide (mgr_lt HMa.out); have HSa2 := hide (fun o => HSB.out (wA.alloc o) (HBa.out.alloc (by have := HGa.out; omega) o)); have cma := (cell_at HMa.out.1 3).1; have cmao : ∀ o, (wA.alloc o).cell? ⟨gm, 3, none⟩ = some (.slice aO i cO) := fun o => (cell_at ((((Below.refl wA.heap.size wA).alloc (Nat.le_refl _) o).block gm HGa.out).trans HMa.out.1) 3).1; have HOa : Hid (∀ o, (wA.alloc o).ownsRow (gm + 1) 103 2 (.slice aO i cO) i (frs l)) := hide (fun o => by have h := HMa.out.2.1.alloc o; rw [HFl.out] at h; exact h); clear hownA hgA hbA)
            refine hK.out (Act.put _ (some 30) _) _ hSa (fun hHeld => ?_)
            clear hK K
            simp only [Act.put, List.setIfInBounds_toArray, List.set_cons_zero, List.set_cons_succ]
            refine takeMC 16 31 ?_ rfl rfl (by kernel_rfl) (by kernel_rfl) (by kernel_rfl) (fun _ _ _ h => h) (Or.inl ⟨by rfl, ?_⟩) hHeld ?_
            rotate_left
            · (intro wx hSw; (try dsimp only at hSw); go_simp; try with_reducible rfl)
            simp only [List.setIfInBounds_toArray, List.set_cons_zero, List.set_cons_succ]
            refine wpAnyH_ready (rs := [17]) (by kernel_rfl) (by simp) ?_
            refine AllReadyH.cons rfl (fun K hK => ?_) ?_
            · go_simp
              refine hK.out _ _ (HSa2.out _) (fun hHeld => ?_)
              clear hK K
              refine wpAnyH_ready (rs := [18]) (by kernel_rfl) (by simp) ?_
              refine AllReadyH.cons rfl (fun K hK => ?_) ?_
              · (refine step_append_lies _ ?_ (.tmp 16) (.tmp 32) 41 ?_ (gm + 1) 103 i1 (.agg #[.int .i64 0, .slice none 0 0]) 2 32 Tryz.underlying41 hi1 hy0 hy1 hy2 ?_ ?_ (.slice aO i cO) i (frs l) ?_ (HOa.out _) ⟨wA.heap.size, 0, none⟩ 1 1 [.int .i64 ftx, .slice y1 pl d1] ?_ ?_ (free_cellsC wA _ rfl _ _) ?_ ?_ ?_ ?_ ?_ _ rfl ?_; exact rfl; exact rfl; exact rfl; decide; exact rfl; exact rfl; exact rfl; (intro u hu; simp at hu; rcases hu with rfl | rfl <;> rfl); decide; (unfold maxLen; omega); omega; (have := HGa.out; simp; omega); intro b4 d4 wB hownB hgB hbB hlB; have hst := free_stepLC HMa.out HPa.out HFa.out (by rw [HFl.out]; exact hownB) hgB; have cc := hst.2.2.1; have cf := hst.2.2.2; have HMb := hide hst.1; have HBb : Hid (Below gm w1 (wB.setCell ⟨gm, 3, none⟩ (.slice (some ⟨b4, 0, none⟩) (i + 1) d4))) := hide (HBa.out.trans hst.2.1); have hSb := HSB.out wB (HBa.out.trans (((Below.refl gm wA).alloc (by have := HGa.out; omega) _).grown hgB (by have := HGa.out; simp; omega) (fun k e => by have := (HMa.out.2.1.lt k e).1; omega))); have hSs := HSB.out _ HBb.out; clear hownB hgB hbB hlB hst)
                refine hK.out (Act.put _ (some 33) _) _ hSb (fun hHeld => ?_)
                clear hK K
                simp only [Act.put, List.setIfInBounds_toArray, List.set_cons_zero, List.set_cons_succ]
                refine takeMC 19 34 ?_ rfl rfl (by kernel_rfl) (by kernel_rfl) (by kernel_rfl) (fun _ _ _ h => h) (Or.inl ⟨by rfl, ?_⟩) hHeld ?_
                rotate_left
                · (intro wx hSw; (try dsimp only at hSw); go_simp; try with_reducible rfl)
                simp only [List.setIfInBounds_toArray, List.set_cons_zero, List.set_cons_succ]
                refine wpAnyH_ready (rs := [20]) (by kernel_rfl) (by simp) ?_
                refine AllReadyH.cons rfl (fun K hK => ?_) ?_
                · go_simp
                  refine hK.out _ _ hSs (fun hHeld => ?_)
                  clear hK K
                  refine wpAnyH_done (by kernel_rfl) ?_ _
                  have HMc : Hid (MGr (wB.setCell ⟨gm, 3, none⟩ (.slice (some ⟨b4, 0, none⟩) (i + 1) d4)) gm tx root next (.slice (some ⟨b4, 0, none⟩) (i + 1) d4) (l ++ [(ftx, .slice y1 pl d1)]) (m.fs.take (i + 1))) := hide (by rw [← take_snocMC m.fs i _ HF.out]; exact HMb.out)
                  go_wp2_with fail
                  go_roundg (gk - 1)
                  case measure => have := HG.out; omega
                  case rel => exact ⟨i + 1, _, _, by omega, by go_num, by have := HG.out; omega, HMc, HBb⟩
                exact AllReadyH.nil
              exact AllReadyH.nil
            exact AllReadyH.nil
          exact AllReadyH.nil
        exact AllReadyH.nil
      refine AllReadyH.cons rfl (fun K hK => ?_) ?_
      · go_simp
        refine hK.out _ _ (HSal.out _) (fun hHeld => ?_)
        clear hK K
        refine wpAnyH_ready (rs := [1, 15]) (by kernel_rfl) (by simp) ?_
        refine AllReadyH.cons rfl (fun K hK => ?_) ?_
        · go_simp
          refine hK.out _ _ hHeld (fun hHeld => ?_)
          clear hK K
          refine wpAnyH_ready (rs := [15]) (by kernel_rfl) (by simp) ?_
          refine AllReadyH.cons rfl (fun K hK => ?_) ?_
          · (refine step_append_row _ ?_ (.tmp 23) (.tmp 29) 30 ?_ wr.heap.size 3 i0 (.int .i64 0) 1 8 Tryz.underlying30 hi hz0 hz1 hz2 ?_ ?_ (.slice (some ⟨wr.heap.size, 0, none⟩) 0 0) 0 [] ?_ (own_emptyMC ?_) (.slice x pl c) pl (ints ps) ?_ (HRd.out _) (ints_one _) ?_ ?_ ?_ ?_; exact rfl; exact rfl; exact rfl; decide; exact rfl; exact heap_alloc_new wr.drew _; exact rfl; (unfold maxLen; omega); omega; exact Nat.le_of_lt (by rw [show ∀ z : World, z.drew.heap.size = z.heap.size from fun _ => rfl, World.size_alloc]; exact Nat.lt_succ_self _); intro y1 d1 wA hownA hgA; rw [Nat.zero_add] at hownA ⊢; rw [List.nil_append] at hownA; have hbA := HBA.out _ wA hgA; have HMa := hide (mgr_below HMg.out hbA); have HPa : Hid (wA.ownsRow (gm + 1) 3 1 (.slice y1 pl d1) ps.length (ints ps)) := hide (by rw [← HPl.out]; exact own_down hownA (by have := HGs.out; omega)); have HFa : Hid (∀ (j : Nat) (p : Int × Value) (b : Nat), l[j]? = some p → p.2.ownBlock = some b → (Value.slice y1 pl d1).ownBlock ≠ some b) := hide (fun j p b hp e1 e2 => by have h1 := (ownF_lt HMg.out.2 b (Or.inr ⟨j, p, hp, e1⟩)).2; have h2 := (hownA.lt b e2).1; omega); have HBa : Hid (Below gm w1 wA) := hide (HBr.out.trans (hbA.mono (by have h1 := HGs.out; have h2 := HBr.out.size; omega))); have hSa := HSB.out wA HBa.out; have HGa : Hid (gm < wA.heap.size) := hide (mgr_lt HMa.out); have HSa2 := hide (fun o => HSB.out (wA.alloc o) (HBa.out.alloc (by have := HGa.out; omega) o)); have cma := (cell_at HMa.out.1 3).1; have cmao : ∀ o, (wA.alloc o).cell? ⟨gm, 3, none⟩ = some (.slice aO i cO) := fun o => (cell_at ((((Below.refl wA.heap.size wA).alloc (Nat.le_refl _) o).block gm HGa.out).trans HMa.out.1) 3).1; have HOa : Hid (∀ o, (wA.alloc o).ownsRow (gm + 1) 103 2 (.slice aO i cO) i (frs l)) := hide (fun o => by have h := HMa.out.2.1.alloc o; rw [HFl.out] at h; exact h); clear hownA hgA hbA)
            refine hK.out (Act.put _ (some 30) _) _ hSa (fun hHeld => ?_)
            clear hK K
            simp only [Act.put, List.setIfInBounds_toArray, List.set_cons_zero, List.set_cons_succ]
            refine takeMC 16 31 ?_ rfl rfl (by kernel_rfl) (by kernel_rfl) (by kernel_rfl) (fun _ _ _ h => h) (Or.inl ⟨by rfl, ?_⟩) hHeld ?_
            rotate_left
            · (intro wx hSw; (try dsimp only at hSw); go_simp; try with_reducible rfl)
            simp only [List.setIfInBounds_toArray, List.set_cons_zero, List.set_cons_succ]
            refine wpAnyH_ready (rs := [17]) (by kernel_rfl) (by simp) ?_
            refine AllReadyH.cons rfl (fun K hK => ?_) ?_
            · go_simp
              refine hK.out _ _ (HSa2.out _) (fun hHeld => ?_)
              clear hK K
              refine wpAnyH_ready (rs := [18]) (by kernel_rfl) (by simp) ?_
              refine AllReadyH.cons rfl (fun K hK => ?_) ?_
              · (refine step_append_lies _ ?_ (.tmp 16) (.tmp 32) 41 ?_ (gm + 1) 103 i1 (.agg #[.int .i64 0, .slice none 0 0]) 2 32 Tryz.underlying41 hi1 hy0 hy1 hy2 ?_ ?_ (.slice aO i cO) i (frs l) ?_ (HOa.out _) ⟨wA.heap.size, 0, none⟩ 1 1 [.int .i64 ftx, .slice y1 pl d1] ?_ ?_ (free_cellsC wA _ rfl _ _) ?_ ?_ ?_ ?_ ?_ _ rfl ?_; exact rfl; exact rfl; exact rfl; decide; exact rfl; exact rfl; exact rfl; (intro u hu; simp at hu; rcases hu with rfl | rfl <;> rfl); decide; (unfold maxLen; omega); omega; (have := HGa.out; simp; omega); intro b4 d4 wB hownB hgB hbB hlB; have hst := free_stepLC HMa.out HPa.out HFa.out (by rw [HFl.out]; exact hownB) hgB; have cc := hst.2.2.1; have cf := hst.2.2.2; have HMb := hide hst.1; have HBb : Hid (Below gm w1 (wB.setCell ⟨gm, 3, none⟩ (.slice (some ⟨b4, 0, none⟩) (i + 1) d4))) := hide (HBa.out.trans hst.2.1); have hSb := HSB.out wB (HBa.out.trans (((Below.refl gm wA).alloc (by have := HGa.out; omega) _).grown hgB (by have := HGa.out; simp; omega) (fun k e => by have := (HMa.out.2.1.lt k e).1; omega))); have hSs := HSB.out _ HBb.out; clear hownB hgB hbB hlB hst)
                refine hK.out (Act.put _ (some 33) _) _ hSb (fun hHeld => ?_)
                clear hK K
                simp only [Act.put, List.setIfInBounds_toArray, List.set_cons_zero, List.set_cons_succ]
                refine takeMC 19 34 ?_ rfl rfl (by kernel_rfl) (by kernel_rfl) (by kernel_rfl) (fun _ _ _ h => h) (Or.inl ⟨by rfl, ?_⟩) hHeld ?_
                rotate_left
                · (intro wx hSw; (try dsimp only at hSw); go_simp; try with_reducible rfl)
                simp only [List.setIfInBounds_toArray, List.set_cons_zero, List.set_cons_succ]
                refine wpAnyH_ready (rs := [20]) (by kernel_rfl) (by simp) ?_
                refine AllReadyH.cons rfl (fun K hK => ?_) ?_
                · go_simp
                  refine hK.out _ _ hSs (fun hHeld => ?_)
                  clear hK K
                  refine wpAnyH_done (by kernel_rfl) ?_ _
                  have HMc : Hid (MGr (wB.setCell ⟨gm, 3, none⟩ (.slice (some ⟨b4, 0, none⟩) (i + 1) d4)) gm tx root next (.slice (some ⟨b4, 0, none⟩) (i + 1) d4) (l ++ [(ftx, .slice y1 pl d1)]) (m.fs.take (i + 1))) := hide (by rw [← take_snocMC m.fs i _ HF.out]; exact HMb.out)
                  go_wp2_with fail
                  go_roundg (gk - 1)
                  case measure => have := HG.out; omega
                  case rel => exact ⟨i + 1, _, _, by omega, by go_num, by have := HG.out; omega, HMc, HBb⟩
                exact AllReadyH.nil
              exact AllReadyH.nil
            exact AllReadyH.nil
          exact AllReadyH.nil
        refine AllReadyH.cons rfl (fun K hK => ?_) ?_
        · (refine step_append_row _ ?_ (.tmp 23) (.tmp 29) 30 ?_ wr.heap.size 3 i0 (.int .i64 0) 1 8 Tryz.underlying30 hi hz0 hz1 hz2 ?_ ?_ (.slice (some ⟨wr.heap.size, 0, none⟩) 0 0) 0 [] ?_ (own_emptyMC ?_) (.slice x pl c) pl (ints ps) ?_ (HRd.out _) (ints_one _) ?_ ?_ ?_ ?_; exact rfl; exact rfl; exact rfl; decide; exact rfl; exact heap_alloc_new wr.drew _; exact rfl; (unfold maxLen; omega); omega; exact Nat.le_of_lt (by rw [show ∀ z : World, z.drew.heap.size = z.heap.size from fun _ => rfl, World.size_alloc]; exact Nat.lt_succ_self _); intro y1 d1 wA hownA hgA; rw [Nat.zero_add] at hownA ⊢; rw [List.nil_append] at hownA; have hbA := HBA.out _ wA hgA; have HMa := hide (mgr_below HMg.out hbA); have HPa : Hid (wA.ownsRow (gm + 1) 3 1 (.slice y1 pl d1) ps.length (ints ps)) := hide (by rw [← HPl.out]; exact own_down hownA (by have := HGs.out; omega)); have HFa : Hid (∀ (j : Nat) (p : Int × Value) (b : Nat), l[j]? = some p → p.2.ownBlock = some b → (Value.slice y1 pl d1).ownBlock ≠ some b) := hide (fun j p b hp e1 e2 => by have h1 := (ownF_lt HMg.out.2 b (Or.inr ⟨j, p, hp, e1⟩)).2; have h2 := (hownA.lt b e2).1; omega); have HBa : Hid (Below gm w1 wA) := hide (HBr.out.trans (hbA.mono (by have h1 := HGs.out; have h2 := HBr.out.size; omega))); have hSa := HSB.out wA HBa.out; have HGa : Hid (gm < wA.heap.size) := hide (mgr_lt HMa.out); have HSa2 := hide (fun o => HSB.out (wA.alloc o) (HBa.out.alloc (by have := HGa.out; omega) o)); have cma := (cell_at HMa.out.1 3).1; have cmao : ∀ o, (wA.alloc o).cell? ⟨gm, 3, none⟩ = some (.slice aO i cO) := fun o => (cell_at ((((Below.refl wA.heap.size wA).alloc (Nat.le_refl _) o).block gm HGa.out).trans HMa.out.1) 3).1; have HOa : Hid (∀ o, (wA.alloc o).ownsRow (gm + 1) 103 2 (.slice aO i cO) i (frs l)) := hide (fun o => by have h := HMa.out.2.1.alloc o; rw [HFl.out] at h; exact h); clear hownA hgA hbA)
          refine hK.out (Act.put _ (some 30) _) _ hSa (fun hHeld => ?_)
          clear hK K
          simp only [Act.put, List.setIfInBounds_toArray, List.set_cons_zero, List.set_cons_succ]
          refine takeMC 16 31 ?_ rfl rfl (by kernel_rfl) (by kernel_rfl) (by kernel_rfl) (fun _ _ _ h => h) (Or.inl ⟨by rfl, ?_⟩) hHeld ?_
          rotate_left
          · (intro wx hSw; (try dsimp only at hSw); go_simp; try with_reducible rfl)
          simp only [List.setIfInBounds_toArray, List.set_cons_zero, List.set_cons_succ]
          refine wpAnyH_ready (rs := [1, 17]) (by kernel_rfl) (by simp) ?_
          refine AllReadyH.cons rfl (fun K hK => ?_) ?_
          · go_simp
            refine hK.out _ _ hHeld (fun hHeld => ?_)
            clear hK K
            refine wpAnyH_ready (rs := [17]) (by kernel_rfl) (by simp) ?_
            refine AllReadyH.cons rfl (fun K hK => ?_) ?_
            · go_simp
              refine hK.out _ _ (HSa2.out _) (fun hHeld => ?_)
              clear hK K
              refine wpAnyH_ready (rs := [18]) (by kernel_rfl) (by simp) ?_
              refine AllReadyH.cons rfl (fun K hK => ?_) ?_
              · (refine step_append_lies _ ?_ (.tmp 16) (.tmp 32) 41 ?_ (gm + 1) 103 i1 (.agg #[.int .i64 0, .slice none 0 0]) 2 32 Tryz.underlying41 hi1 hy0 hy1 hy2 ?_ ?_ (.slice aO i cO) i (frs l) ?_ (HOa.out _) ⟨wA.heap.size, 0, none⟩ 1 1 [.int .i64 ftx, .slice y1 pl d1] ?_ ?_ (free_cellsC wA _ rfl _ _) ?_ ?_ ?_ ?_ ?_ _ rfl ?_; exact rfl; exact rfl; exact rfl; decide; exact rfl; exact rfl; exact rfl; (intro u hu; simp at hu; rcases hu with rfl | rfl <;> rfl); decide; (unfold maxLen; omega); omega; (have := HGa.out; simp; omega); intro b4 d4 wB hownB hgB hbB hlB; have hst := free_stepLC HMa.out HPa.out HFa.out (by rw [HFl.out]; exact hownB) hgB; have cc := hst.2.2.1; have cf := hst.2.2.2; have HMb := hide hst.1; have HBb : Hid (Below gm w1 (wB.setCell ⟨gm, 3, none⟩ (.slice (some ⟨b4, 0, none⟩) (i + 1) d4))) := hide (HBa.out.trans hst.2.1); have hSb := HSB.out wB (HBa.out.trans (((Below.refl gm wA).alloc (by have := HGa.out; omega) _).grown hgB (by have := HGa.out; simp; omega) (fun k e => by have := (HMa.out.2.1.lt k e).1; omega))); have hSs := HSB.out _ HBb.out; clear hownB hgB hbB hlB hst)
                refine hK.out (Act.put _ (some 33) _) _ hSb (fun hHeld => ?_)
                clear hK K
                simp only [Act.put, List.setIfInBounds_toArray, List.set_cons_zero, List.set_cons_succ]
                refine takeMC 19 34 ?_ rfl rfl (by kernel_rfl) (by kernel_rfl) (by kernel_rfl) (fun _ _ _ h => h) (Or.inl ⟨by rfl, ?_⟩) hHeld ?_
                rotate_left
                · (intro wx hSw; (try dsimp only at hSw); go_simp; try with_reducible rfl)
                simp only [List.setIfInBounds_toArray, List.set_cons_zero, List.set_cons_succ]
                refine wpAnyH_ready (rs := [20]) (by kernel_rfl) (by simp) ?_
                refine AllReadyH.cons rfl (fun K hK => ?_) ?_
                · go_simp
                  refine hK.out _ _ hSs (fun hHeld => ?_)
                  clear hK K
                  refine wpAnyH_done (by kernel_rfl) ?_ _
                  have HMc : Hid (MGr (wB.setCell ⟨gm, 3, none⟩ (.slice (some ⟨b4, 0, none⟩) (i + 1) d4)) gm tx root next (.slice (some ⟨b4, 0, none⟩) (i + 1) d4) (l ++ [(ftx, .slice y1 pl d1)]) (m.fs.take (i + 1))) := hide (by rw [← take_snocMC m.fs i _ HF.out]; exact HMb.out)
                  go_wp2_with fail
                  go_roundg (gk - 1)
                  case measure => have := HG.out; omega
                  case rel => exact ⟨i + 1, _, _, by omega, by go_num, by have := HG.out; omega, HMc, HBb⟩
                exact AllReadyH.nil
              exact AllReadyH.nil
            exact AllReadyH.nil
          refine AllReadyH.cons rfl (fun K hK => ?_) ?_
          · go_simp
            refine hK.out _ _ (HSa2.out _) (fun hHeld => ?_)
            clear hK K
            refine wpAnyH_ready (rs := [1]) (by kernel_rfl) (by simp) ?_
            refine AllReadyH.cons rfl (fun K hK => ?_) ?_
            · go_simp
              refine hK.out _ _ hHeld (fun hHeld => ?_)
              clear hK K
              refine wpAnyH_ready (rs := [18]) (by kernel_rfl) (by simp) ?_
              refine AllReadyH.cons rfl (fun K hK => ?_) ?_
              · (refine step_append_lies _ ?_ (.tmp 16) (.tmp 32) 41 ?_ (gm + 1) 103 i1 (.agg #[.int .i64 0, .slice none 0 0]) 2 32 Tryz.underlying41 hi1 hy0 hy1 hy2 ?_ ?_ (.slice aO i cO) i (frs l) ?_ (HOa.out _) ⟨wA.heap.size, 0, none⟩ 1 1 [.int .i64 ftx, .slice y1 pl d1] ?_ ?_ (free_cellsC wA _ rfl _ _) ?_ ?_ ?_ ?_ ?_ _ rfl ?_; exact rfl; exact rfl; exact rfl; decide; exact rfl; exact rfl; exact rfl; (intro u hu; simp at hu; rcases hu with rfl | rfl <;> rfl); decide; (unfold maxLen; omega); omega; (have := HGa.out; simp; omega); intro b4 d4 wB hownB hgB hbB hlB; have hst := free_stepLC HMa.out HPa.out HFa.out (by rw [HFl.out]; exact hownB) hgB; have cc := hst.2.2.1; have cf := hst.2.2.2; have HMb := hide hst.1; have HBb : Hid (Below gm w1 (wB.setCell ⟨gm, 3, none⟩ (.slice (some ⟨b4, 0, none⟩) (i + 1) d4))) := hide (HBa.out.trans hst.2.1); have hSb := HSB.out wB (HBa.out.trans (((Below.refl gm wA).alloc (by have := HGa.out; omega) _).grown hgB (by have := HGa.out; simp; omega) (fun k e => by have := (HMa.out.2.1.lt k e).1; omega))); have hSs := HSB.out _ HBb.out; clear hownB hgB hbB hlB hst)
                refine hK.out (Act.put _ (some 33) _) _ hSb (fun hHeld => ?_)
                clear hK K
                simp only [Act.put, List.setIfInBounds_toArray, List.set_cons_zero, List.set_cons_succ]
                refine takeMC 19 34 ?_ rfl rfl (by kernel_rfl) (by kernel_rfl) (by kernel_rfl) (fun _ _ _ h => h) (Or.inl ⟨by rfl, ?_⟩) hHeld ?_
                rotate_left
                · (intro wx hSw; (try dsimp only at hSw); go_simp; try with_reducible rfl)
                simp only [List.setIfInBounds_toArray, List.set_cons_zero, List.set_cons_succ]
                refine wpAnyH_ready (rs := [20]) (by kernel_rfl) (by simp) ?_
                refine AllReadyH.cons rfl (fun K hK => ?_) ?_
                · go_simp
                  refine hK.out _ _ hSs (fun hHeld => ?_)
                  clear hK K
                  refine wpAnyH_done (by kernel_rfl) ?_ _
                  have HMc : Hid (MGr (wB.setCell ⟨gm, 3, none⟩ (.slice (some ⟨b4, 0, none⟩) (i + 1) d4)) gm tx root next (.slice (some ⟨b4, 0, none⟩) (i + 1) d4) (l ++ [(ftx, .slice y1 pl d1)]) (m.fs.take (i + 1))) := hide (by rw [← take_snocMC m.fs i _ HF.out]; exact HMb.out)
                  go_wp2_with fail
                  go_roundg (gk - 1)
                  case measure => have := HG.out; omega
                  case rel => exact ⟨i + 1, _, _, by omega, by go_num, by have := HG.out; omega, HMc, HBb⟩
                exact AllReadyH.nil
              exact AllReadyH.nil
            exact AllReadyH.nil
          exact AllReadyH.nil
        exact AllReadyH.nil
      exact AllReadyH.nil
    · have hiL : i = L := by omega
      subst hiL
      clear hlt hil
      have HMo : Hid (MetaOwn wr (gm + 1) (.agg #[.int .i64 tx, .int .i64 root, .int .i64 next, vf]) m) := hide (by
        obtain ⟨e1, e2, e3⟩ := HE.out
        have h := HMg.out
        rw [show m.fs.take i = m.fs from by rw [HL.out]; exact List.take_length] at h
        rw [e1, e2, e3] at h ⊢
        exact mgr_own h)
      obtain ⟨aO, cO, hvf⟩ := own_slice HMg.out.2.1
      subst hvf
      obtain ⟨FL, hFL⟩ : ∃ FL, FL = (m.fs.take i).length := ⟨_, rfl⟩
      rw [← hFL] at HMg HMo
      have m0 := (cell_at HMg.out.1 0).1
      have m1 := (cell_at HMg.out.1 1).1
      have m2 := (cell_at HMg.out.1 2).1
      have m3 := (cell_at HMg.out.1 3).1
      have ra := (HBr.out.block (w.heap.size + 1) (by have := HGm.out; omega)).trans HZ1.out
      have a0 := (cell_at ra 0).1
      have a1 := (cell_at ra 1).1
      have a2 := (cell_at ra 2).1
      have a3 := (cell_at ra 3).1
      have z0 := (cell_at ra 0).2
      have z1 := (cell_at ra 1).2
      have z2 := (cell_at ra 2).2
      have z3 := (cell_at ra 3).2
      have HRA := hide ra
      clear ra hFL
      have hlt : ¬ ((i : Int) < (i : Int)) := by omega
      go_wp2_with fail
      have hrt := HRA.out
      rw [HE.out.1, HE.out.2.1, HE.out.2.2] at HMo ⊢
      have hrt := ret_meta (m := m) (vf := .slice aO FL cO) HRA.out HMo.out (by have := HGm.out; omega)
      have t0 := (cell_at hrt.1 0).1
      have t1 := (cell_at hrt.1 1).1
      have t2 := (cell_at hrt.1 2).1
      have t3 := (cell_at hrt.1 3).1
      refine bodyPost_ret (v := .agg #[.int .i64 m.tx, .int .i64 m.root, .int .i64 m.next, .slice aO FL cO]) (by simp [results, Tryz.results18, go_sem, t0, t1, t2, t3]) rfl ⟨_, rfl, metaOwn_down hrt.2.1 (by have := HGm.out; omega), (HB1.out.trans (HBr.out.mono (by have := HGm.out; omega))).trans (hrt.2.2.mono (by omega))⟩

end Go.Proofs.YtghjbfdbheokcaaGreat
