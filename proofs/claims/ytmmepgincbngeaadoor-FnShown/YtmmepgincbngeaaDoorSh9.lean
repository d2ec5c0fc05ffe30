/-
  Facts and contracts that the law's own text rests on, by their texts' names: ImplMeta, ImplMetaText, MetaPg.
-/
import Derived.Test.YtmmepgincbngeaaDoorSh3
import Derived.Test.YtmmepgincbngeaaDoorSh1
import Derived.Lib.AppendStr
namespace Go.Proofs.YtmmepgincbngeaaDoor
open Go.RowKit
def TakenAt (w : World) (g : Nat) (seen : List Int) : Prop := ∃ cs : Array Value, w.heap[g]? = some (.cells cs 139 (0, 0)) ∧ cs.size = 40 ∧ ∀ i : Nat, i < 40 → cs[i]? = some (.bool (decide ((i : Int) ∈ seen)))
theorem taken_cell {w : World} {g : Nat} {seen : List Int} (h : TakenAt w g seen) {i : Nat} (hi : i < 40) : w.cell? ⟨g, i, none⟩ = some (.bool (decide ((i : Int) ∈ seen))) ∧ w.frozen? ⟨g, i, none⟩ = false := by
  obtain ⟨cs, h1, h2, h3⟩ := h
  have := cell_at h1 i
  rw [h3 i hi] at this
  exact this
theorem taken_set {w : World} {g : Nat} {seen : List Int} (h : TakenAt w g seen) {i : Nat} (hi : i < 40) : TakenAt (w.setCell ⟨g, i, none⟩ (.bool true)) g (seen ++ [(i : Int)]) := by
  obtain ⟨cs, h1, h2, h3⟩ := h
  refine ⟨_, heap_setCell_same w g i _ _ _ h1, by simp [h2], fun j hj => ?_⟩
  by_cases e : i = j
  · subst e
    simp [h2, hi]
  · simp only [Array.getElem?_setIfInBounds_ne e]
    rw [h3 j hj]
    congr 2
    simp
    omega
theorem taken_block {w w' : World} {g : Nat} {seen : List Int} (h : TakenAt w g seen) (e : w'.heap[g]? = w.heap[g]?) : TakenAt w' g seen := by
  obtain ⟨cs, h1, h2, h3⟩ := h
  exact ⟨cs, e.trans h1, h2, h3⟩
theorem taken_start (w : World) (g : Nat) (hg : g = w.heap.size) (root : Int) (h0 : 0 ≤ root) (h1 : root < 40) : TakenAt (w.alloc (.cells ((List.replicate 40 (Value.bool false)).set root.toNat (.bool true)).toArray 139 (0, 0))) g [root] := by
  subst hg
  refine ⟨_, heap_alloc_new w _, by simp, fun i hi => ?_⟩
  rw [List.getElem?_toArray]
  by_cases e : root.toNat = i
  · rw [e, List.getElem?_set_self (by simpa using hi)]
    simp
    omega
  · rw [List.getElem?_set_ne e, List.getElem?_replicate, if_pos hi]
    congr 2
    simp
    omega
theorem meta_cells (w : World) (tx root next : Int) (vf : Value) (t : TypeId) : ∀ wx, Below (w.alloc (Obj.cells #[.int .i64 tx, .int .i64 root, .int .i64 next, vf] t)).heap.size (w.alloc (Obj.cells #[.int .i64 tx, .int .i64 root, .int .i64 next, vf] t)) wx →
    wx.cell? ⟨w.heap.size, 0, none⟩ = some (.int .i64 tx) ∧ wx.cell? ⟨w.heap.size, 1, none⟩ = some (.int .i64 root) ∧ wx.cell? ⟨w.heap.size, 2, none⟩ = some (.int .i64 next) ∧ wx.cell? ⟨w.heap.size, 3, none⟩ = some vf := fun wx hb => by
  have hblk := heap_alloc_new w (Obj.cells #[.int .i64 tx, .int .i64 root, .int .i64 next, vf] t)
  have hq := (hb.block _ (Array.getElem?_eq_some_iff.1 hblk).1).trans hblk
  exact ⟨(cell_at hq 0).1, (cell_at hq 1).1, (cell_at hq 2).1, (cell_at hq 3).1⟩
set_option maxHeartbeats 16000000 in
set_option maxRecDepth 100000 in
theorem freesOk_any (tx root next : Int) (fs : List (Int × List Int)) (hl : fs.length ≤ 1048576) (hs : ∀ f ∈ fs, f.2.length ≤ 1048576) (hr0 : 0 ≤ root) (hr1 : root < 40) (hn : next ≤ 40) (vf : Value) (w : World) (hd : FreesAt w vf fs) :
    Calls Tryd.prog 87 #[.agg #[.int .i64 tx, .int .i64 root, .int .i64 next, vf]] w fun e w' => e = .returned (.bool (decide (fs.length ≤ 20) && freesB tx next [root] 0 fs)) ∧ Below w.heap.size w w' := by
  obtain ⟨pa, pc, rfl⟩ := frees_slice hd
  obtain ⟨L, hL⟩ : ∃ L, L = fs.length := ⟨_, rfl⟩
  rw [← hL] at hl ⊢
  have HVar := hide (meta_cells w tx root next (.slice pa L pc) 82)
  obtain ⟨w0, hw0⟩ : ∃ w0, w0 = w.alloc (Obj.cells #[.int .i64 tx, .int .i64 root, .int .i64 next, .slice pa L pc] 82) := ⟨_, rfl⟩
  rw [← hw0] at HVar
  have hb0 : Below w.heap.size w w0 := by rw [hw0]; exact (Below.refl w.heap.size w).alloc (Nat.le_refl _) _
  have hs0 : w0.heap.size = w.heap.size + 1 := by rw [hw0]; simp
  obtain ⟨c0, c1, c2, c3⟩ := HVar.out w0 (Below.refl _ _)
  have HF := hide (frees_below hd hb0)
  rw [← hL] at HF
  have HB0 := hide hb0
  have HS := hide hs
  have HL := hide hL
  have HS0 := hide hs0
  clear hd hb0 hs hL hs0
  by_cases h4 : L ≤ 20
  · rw [decide_eq_true h4, Bool.true_and]
    have d4 : decide ((20 : Int) < (L : Int)) = false := decide_eq_false (by omega)
    obtain ⟨ok, hok⟩ : ∃ ok, ok = freesB tx next [root] 0 fs := ⟨_, rfl⟩
    rw [← hok]
    have HO := hide hok
    clear hok
    go_enter Tryd.func87, Tryd.ntmps87
    go_wp2_with fail
    rw [← hw0]
    clear hw0 c0 c1 c2 c3
    go_loopg [4, 19] L (fun q lv iv wr => ∃ (k : Nat) (seen : List Int) (last : Int), k ≤ L ∧ lv = .int .i64 last ∧ iv = .int .i64 (k : Int) ∧ q + k = L ∧ Hid (TakenAt wr (w.heap.size + 1) seen) ∧ Hid (MSt tx root next fs k seen last) ∧ Hid (Below w0.heap.size w0 wr))
    case atStart => exact ⟨0, [root], 0, Nat.zero_le _, rfl, rfl, by omega, hide (taken_start w0 _ HS0.out.symm root hr0 hr1), hide (mst_start tx root next fs), hide ((Below.refl _ _).alloc (Nat.le_refl _) _)⟩
    case round =>
      obtain ⟨k, seen0, last, hk, rfl, rfl, hg, HTk, HM, HB⟩ := hrel
      have HG := hide hg
      clear hg
      obtain ⟨gq, hgq⟩ : ∃ gq, gq = gk := ⟨_, rfl⟩
      have HGQ := hide hgq
      clear hgq
      by_cases hlt : k < L
      · obtain ⟨ftx, ps, hf⟩ : ∃ ftx ps, fs[k]? = some (ftx, ps) := ⟨_, _, List.getElem?_eq_getElem (by rw [← HL.out]; exact hlt)⟩
        obtain ⟨b, off, x, c, rfl, hbl0, hc00, hc10, hrow⟩ := frees_at HF.out hf
        have hc0 := (HB.out.cell (by exact hbl0)).trans hc00
        have hc1 := (HB.out.cell (by exact hbl0)).trans hc10
        clear hc00 hc10
        obtain ⟨n, hn'⟩ : ∃ n, n = ps.length := ⟨_, rfl⟩
        have hnl : n ≤ 1048576 := by rw [hn']; exact HS.out _ (List.mem_of_getElem? hf)
        have HRow := hide hrow
        rw [← hn'] at hc1 HRow
        have HF1 := hide hf
        have HN := hide hn'
        have hk0 : (0 : Int) ≤ (k : Int) := by omega
        have hk1 : (k : Int) < (L : Int) := by omega
        obtain ⟨w1, hw1⟩ : ∃ w1, w1 = wr.alloc (Obj.cells #[.int .i64 ftx, .slice x n c] 99) := ⟨_, rfl⟩
        have HB1 : Hid (Below w0.heap.size w0 w1) := hide (by rw [hw1]; exact HB.out.alloc HB.out.size _)
        have HBl : Hid (w1.heap[wr.heap.size]? = some (Obj.cells #[.int .i64 ftx, .slice x n c] 99)) := hide (by rw [hw1]; exact heap_alloc_new wr _)
        have HK1 : Hid (Below wr.heap.size wr w1) := hide (by rw [hw1]; exact (Below.refl wr.heap.size wr).alloc (Nat.le_refl _) _)
        have HSz : Hid (w.heap.size + 1 < wr.heap.size) := hide (by obtain ⟨cs, h1, -⟩ := HTk.out; exact (Array.getElem?_eq_some_iff.1 h1).1)
        obtain ⟨p0, p1, p2, p3⟩ := HVar.out w1 HB1.out
        rw [hw1] at p0 p1 p2 p3
        have HMB : Hid (¬ (last < ftx ∧ ftx ≤ tx ∧ 1 ≤ n ∧ n ≤ 40) → freesB tx next [root] 0 fs = false) := hide (fun h => mst_bad HM.out HF1.out (by rw [← HN.out]; exact h))
        clear hf hrow hn'
        by_cases hA : ftx ≤ last
        · have HT := hide (HMB.out (by omega))
          have dA : decide (ftx ≤ last) = true := decide_eq_true hA
          clear hA
          go_wp2_with fail
          go_ret
          rw [HO.out, HT.out, ← hw1]
          exact ⟨rfl, HB0.out.trans (HB1.out.mono HB0.out.size)⟩
        · have dA : decide (ftx ≤ last) = false := decide_eq_false hA
          by_cases hB : tx < ftx
          · have HT := hide (HMB.out (by omega))
            have dB : decide (tx < ftx) = true := decide_eq_true hB
            clear hA hB
            go_wp2_with fail
            go_ret
            rw [HO.out, HT.out, ← hw1]
            exact ⟨rfl, HB0.out.trans (HB1.out.mono HB0.out.size)⟩
          · have dB : decide (tx < ftx) = false := decide_eq_false hB
            by_cases hC : n < 1
            · have HT := hide (HMB.out (by omega))
              have dC : decide ((n : Int) < 1) = true := decide_eq_true (by omega)
              clear hA hB
              go_wp2_with fail
              go_ret
              rw [HO.out, HT.out, ← hw1]
              exact ⟨rfl, HB0.out.trans (HB1.out.mono HB0.out.size)⟩
            · have dC : decide ((n : Int) < 1) = false := decide_eq_false (by omega)
              by_cases hD : 40 < n
              · have HT := hide (HMB.out (by omega))
                have dD : decide ((40 : Int) < (n : Int)) = true := decide_eq_true (by omega)
                clear hA hB
                go_wp2_with fail
                go_ret
                rw [HO.out, HT.out, ← hw1]
                exact ⟨rfl, HB0.out.trans (HB1.out.mono HB0.out.size)⟩
              · have dD : decide ((40 : Int) < (n : Int)) = false := decide_eq_false (by omega)
                have HGood : Hid (last < ftx ∧ ftx ≤ tx ∧ 1 ≤ ps.length ∧ ps.length ≤ 40) := hide (by have := HN.out; omega)
                clear hA hB hC
                go_wp2_with fail
                rw [← hw1]
                clear hw1
                have HC4 : Hid (PSt next seen0 ps 0 seen0 1) := hide (pst_start next seen0 ps)
                have HTk1 : Hid (TakenAt w1 (w.heap.size + 1) seen0) := hide (taken_block HTk.out (HK1.out.block _ (Nat.lt_of_lt_of_le (by have := HS0.out; have := HSz.out; omega) (Nat.le_refl _))))
                obtain ⟨gf, hgf⟩ : ∃ gf, gf = wr.heap.size := ⟨_, rfl⟩
                rw [← hgf]
                have HFb : Hid (w1.heap[gf]? = some (Obj.cells #[.int .i64 ftx, .slice x n c] 99)) := hide (by rw [hgf]; exact HBl.out)
                have HGt : Hid (w.heap.size + 1 < gf) := hide (by rw [hgf]; exact HSz.out)
                clear hgf HBl HK1 hc0 hc1 p0 p1 p2 p3 dA dB dC dD HB
                go_loopg [51] n (fun q jv wi => ∃ (j : Nat) (seen : List Int) (prev : Int), j ≤ n ∧ jv = .int .i64 (j : Int) ∧ q + j = n ∧ Hid (TakenAt wi (w.heap.size + 1) seen) ∧ Hid (PSt next seen0 ps j seen prev) ∧ Hid (Below w0.heap.size w0 wi) ∧ Hid (wi.heap[gf]? = some (Obj.cells #[.int .i64 ftx, .slice x n c] 99)))
                case atStart => exact ⟨0, seen0, 1, Nat.zero_le _, rfl, by omega, HTk1, HC4, HB1, HFb⟩
                case round =>
                  clear HFb HTk1 HC4 HB1
                  obtain ⟨j, seen, prev, hj, rfl, hg2, HTk2, HP, HB2, HFb2⟩ := hrel
                  have HG2 := hide hg2
                  clear hg2
                  obtain ⟨p0, p1, p2, p3⟩ := HVar.out wr HB2.out
                  have f1 : wr.cell? ⟨gf, 1, none⟩ = some (.slice x n c) := (cell_at HFb2.out 1).1
                  by_cases hjn : j < n
                  · obtain ⟨p, hp⟩ : ∃ p, ps[j]? = some p := ⟨_, List.getElem?_eq_getElem (by have := HN.out; omega)⟩
                    obtain ⟨-, a1, cp1, e1, h0 | ⟨bp, op, e0, hbp, hcp⟩⟩ := HRow.out
                    · omega
                    injection e1 with e11 _ e12
                    subst e11 e12
                    subst e0
                    have HPc : Hid (∀ wx, Below w0.heap.size w0 wx → ∀ t z, ps[t]? = some z → wx.cell? ⟨bp, op + t, none⟩ = some (.int .i64 z)) := hide (fun wx hb t z hz => by
                      obtain ⟨ht, e⟩ := List.getElem?_eq_some_iff.1 hz
                      rw [hb.cell (by exact hbp), hcp t (by have := HN.out; omega), ints_at ps t ht, e])
                    have hpc : wr.cell? ⟨bp, op + j, none⟩ = some (.int .i64 p) := HPc.out wr HB2.out j p hp
                    have HPj := hide hp
                    have hj0 : (0 : Int) ≤ (j : Int) := by omega
                    have hj1 : (j : Int) < (n : Int) := by omega
                    have HBad : Hid (¬ (2 ≤ p ∧ p < next ∧ prev < p ∧ p ∉ seen) → freesB tx next [root] 0 fs = false) := hide (fun h => mst_none HM.out HF1.out (pst_bad HP.out HPj.out h))
                    have hpv0 : j = 0 → prev = 1 := HP.out.2.2.1
                    have hpv1 : 0 < j → prev ∈ seen := HP.out.2.2.2.2.1
                    clear hcp hp
                    by_cases hA : p < 2
                    · have HT := hide (HBad.out (by omega))
                      have eA : decide (p < 2) = true := decide_eq_true hA
                      clear hA hpv0 hpv1
                      go_wp2_with fail
                      go_ret
                      rw [HO.out, HT.out]
                      exact ⟨rfl, HB0.out.trans (HB2.out.mono HB0.out.size)⟩
                    · have eA : decide (p < 2) = false := decide_eq_false hA
                      by_cases hB : next ≤ p
                      · have HT := hide (HBad.out (by omega))
                        have eB : decide (next ≤ p) = true := decide_eq_true hB
                        clear hA hB hpv0 hpv1
                        go_wp2_with fail
                        go_ret
                        rw [HO.out, HT.out]
                        exact ⟨rfl, HB0.out.trans (HB2.out.mono HB0.out.size)⟩
                      · have eB : decide (next ≤ p) = false := decide_eq_false hB
                        have hpn : ((p.toNat : Nat) : Int) = p := by omega
                        have hpl : p.toNat < 40 := by omega
                        obtain ⟨tc, tf⟩ := taken_cell HTk2.out hpl
                        rw [hpn] at tc
                        have hp0 : (0 : Int) ≤ p := by omega
                        have hp40 : p < 40 := by omega
                        cases hin : decide (p ∈ seen) with
                        | true =>
                          rw [hin] at tc
                          have HT := hide (HBad.out (fun h => h.2.2.2 (of_decide_eq_true hin)))
                          clear hin hpv0 hpv1 hA hB hpn
                          go_wp2_with fail
                          go_ret
                          rw [HO.out, HT.out]
                          exact ⟨rfl, HB0.out.trans (HB2.out.mono HB0.out.size)⟩
                        | false =>
                          rw [hin] at tc
                          by_cases hD : 0 < j ∧ p < prev
                          · have HT := hide (HBad.out (by omega))
                            have hpos := hD.1
                            have eD : decide (p < prev) = true := decide_eq_true hD.2
                            have hpx : ps[j - 1]? = some prev := by
                              obtain ⟨px, hpx⟩ : ∃ px, ps[j - 1]? = some px := ⟨_, List.getElem?_eq_getElem (by have := HN.out; omega)⟩
                              rw [hpx, HP.out.2.2.2.1 px hpos hpx]
                            have hpx1 : wr.cell? ⟨bp, op + (j - 1), none⟩ = some (.int .i64 prev) := HPc.out wr HB2.out (j - 1) prev hpx
                            have hpx2 : wr.cell? ⟨bp, op + ((j : Int) - 1).toNat, none⟩ = some (.int .i64 prev) := by rw [show ((j : Int) - 1).toNat = j - 1 from by omega]; exact hpx1
                            have hwj : IntKind.i64.wrap ((j : Int) - 1) = (j : Int) - 1 := IntWalk.i64_in _ ⟨by omega, by omega⟩
                            have hwk : wrap64 ((j : Int) - 1) = (j : Int) - 1 := wrap64_small _ (by omega) (by omega)
                            have hq0 : (0 : Int) ≤ (j : Int) - 1 := by omega
                            have hq1 : (j : Int) - 1 < (n : Int) := by omega
                            have hq2 : (1 : Int) ≤ (j : Int) := by omega
                            have hq3 : (j : Int) < (n : Int) + 1 := by omega
                            have hq4 : (j : Int) ≤ (n : Int) := by omega
                            have hq5 : 1 ≤ j := by omega
                            have dk : decide ((0 : Int) < (j : Int)) = true := decide_eq_true (by omega)
                            have dkn : decide (0 < j) = true := decide_eq_true hpos
                            clear hpx
                            clear hin hpv0 hpv1 hA hB hD hpn
                            go_wp2_with fail
                            go_ret
                            rw [HO.out, HT.out]
                            exact ⟨rfl, HB0.out.trans (HB2.out.mono HB0.out.size)⟩
                          · have HGd : Hid (2 ≤ p ∧ p < next ∧ prev < p ∧ p ∉ seen) := hide (by
                              have hni := of_decide_eq_false hin
                              refine ⟨by omega, by omega, ?_, hni⟩
                              by_cases hj9 : 0 < j
                              · have : prev ≠ p := fun e => hni (e ▸ hpv1 hj9)
                                omega
                              · have := hpv0 (by omega)
                                omega)
                            have HP3 := hide (pst_next HP.out HPj.out HGd.out)
                            have HTk3 : Hid (TakenAt (wr.setCell ⟨w.heap.size + 1, p.toNat, none⟩ (.bool true)) (w.heap.size + 1) (seen ++ [p])) := hide (by have := taken_set HTk2.out hpl; rwa [hpn] at this)
                            have HB3 : Hid (Below w0.heap.size w0 (wr.setCell ⟨w.heap.size + 1, p.toNat, none⟩ (.bool true))) := hide (HB2.out.setCell (by have := HS0.out; exact Nat.le_of_eq this) _)
                            have HFb3 : Hid ((wr.setCell ⟨w.heap.size + 1, p.toNat, none⟩ (.bool true)).heap[gf]? = some (Obj.cells #[.int .i64 ftx, .slice (some ⟨bp, op, none⟩) n c] 99)) := hide (blk_other HFb2.out (by have := HGt.out; omega))
                            by_cases hpos : 0 < j
                            · have eD : decide (p < prev) = false := decide_eq_false (by omega)
                              have hpx : ps[j - 1]? = some prev := by
                                obtain ⟨px, hpx⟩ : ∃ px, ps[j - 1]? = some px := ⟨_, List.getElem?_eq_getElem (by have := HN.out; omega)⟩
                                rw [hpx, HP.out.2.2.2.1 px hpos hpx]
                              have hpx1 : wr.cell? ⟨bp, op + (j - 1), none⟩ = some (.int .i64 prev) := HPc.out wr HB2.out (j - 1) prev hpx
                              have hpx2 : wr.cell? ⟨bp, op + ((j : Int) - 1).toNat, none⟩ = some (.int .i64 prev) := by rw [show ((j : Int) - 1).toNat = j - 1 from by omega]; exact hpx1
                              have hwj : IntKind.i64.wrap ((j : Int) - 1) = (j : Int) - 1 := IntWalk.i64_in _ ⟨by omega, by omega⟩
                              have hwk : wrap64 ((j : Int) - 1) = (j : Int) - 1 := wrap64_small _ (by omega) (by omega)
                              have hq0 : (0 : Int) ≤ (j : Int) - 1 := by omega
                              have hq1 : (j : Int) - 1 < (n : Int) := by omega
                              have hq2 : (1 : Int) ≤ (j : Int) := by omega
                              have hq3 : (j : Int) < (n : Int) + 1 := by omega
                              have hq4 : (j : Int) ≤ (n : Int) := by omega
                              have hq5 : 1 ≤ j := by omega
                              have dk : decide ((0 : Int) < (j : Int)) = true := decide_eq_true (by omega)
                              have dkn : decide (0 < j) = true := decide_eq_true hpos
                              clear hpx
                              clear hin hpv0 hpv1 hA hB hD hpn
                              go_wp2_with fail
                              go_roundg (gk - 1)
                              case measure => have := HG2.out; omega
                              case rel => exact ⟨j + 1, seen ++ [p], p, by omega, by go_num, by have := HG2.out; omega, HTk3, HP3, HB3, HFb3⟩
                            · clear hin hpv0 hpv1
                              have dk : decide ((0 : Int) < (j : Int)) = false := decide_eq_false (by omega)
                              have dkn : decide (0 < j) = false := decide_eq_false (by omega)
                              clear hA hB hD hpn hpos
                              go_wp2_with fail
                              go_roundg (gk - 1)
                              case measure => have := HG2.out; omega
                              case rel => exact ⟨j + 1, seen ++ [p], p, by omega, by go_num, by have := HG2.out; omega, HTk3, HP3, HB3, HFb3⟩
                  · have hjl : j = ps.length := by have := HN.out; omega
                    have HM2 := hide (mst_next HM.out HF1.out HGood.out (by rw [← hjl]; exact HP.out))
                    clear hjl
                    go_wp2_with fail
                    go_roundg (gq - 1)
                    case measure => have h1 := HGQ.out; have h2 := HG.out; omega
                    case rel => exact ⟨k + 1, seen, ftx, by omega, rfl, by go_num, by have h1 := HGQ.out; have h2 := HG.out; omega, HTk2, HM2, HB2⟩
      · have HT := hide (mst_end HM.out (by rw [← HL.out]; omega))
        go_wp2_with fail
        go_ret
        rw [HO.out, HT.out]
        exact ⟨rfl, HB0.out.trans (HB.out.mono HB0.out.size)⟩
  · rw [decide_eq_false h4, Bool.false_and]
    have d4 : decide ((20 : Int) < (L : Int)) = true := decide_eq_true (by omega)
    clear h4
    go_enter Tryd.func87, Tryd.ntmps87
    go_wp2_with fail
    go_ret
    rw [← hw0]
    exact ⟨rfl, HB0.out⟩
set_option maxHeartbeats 4000000 in
set_option maxRecDepth 100000 in
theorem implMetaOk_any (v : Value) (m : Mt) (hl : m.fs.length ≤ 1048576) (hs : ∀ f ∈ m.fs, f.2.length ≤ 1048576) (w : World) (hd : MetaAt w v m) :
    Calls Tryd.prog 79 #[v] w fun e w' => e = .returned (.bool m.ok) ∧ Below w.heap.size w w' := by
  obtain ⟨vf, rfl, hr⟩ := hd
  obtain ⟨tx, root, next, fs⟩ := m
  dsimp only at hr hl hs ⊢
  have HDef : Hid (Mt.ok ⟨tx, root, next, fs⟩ = (headOkB tx root next fs.length && freesB tx next [root] 0 fs)) := hide rfl
  obtain ⟨mk, hmk⟩ : ∃ mk, mk = Mt.ok ⟨tx, root, next, fs⟩ := ⟨_, rfl⟩
  rw [← hmk] at HDef ⊢
  clear hmk
  obtain ⟨w0, hw0⟩ : ∃ w0, w0 = w.alloc (Obj.cells #[.int .i64 tx, .int .i64 root, .int .i64 next, vf] 82) := ⟨_, rfl⟩
  have hb0 : Below w.heap.size w w0 := by rw [hw0]; exact (Below.refl w.heap.size w).alloc (Nat.le_refl _) _
  have HF := hide (frees_below hr hb0)
  have HB0 := hide hb0
  clear hr hb0
  have HBad : Hid (¬ (0 ≤ tx ∧ tx ≤ 100000 ∧ 2 ≤ next ∧ next ≤ 40 ∧ (root = 0 ∨ 2 ≤ root ∧ root < next)) → mk = false) := hide (fun h => by
    rw [HDef.out, headOkB, decide_eq_false (fun e => h ⟨e.1, e.2.1, e.2.2.1, e.2.2.2.1, e.2.2.2.2.1⟩)]; rfl)
  by_cases hA : tx < 0
  · have dA : decide (tx < 0) = true := decide_eq_true hA
    have HO := hide (HBad.out (by omega))
    clear hA
    go_enter Tryd.func79, Tryd.ntmps79
    go_wp2_with fail
    go_ret
    rw [HO.out, ← hw0]
    exact ⟨rfl, HB0.out⟩
  · have dA : decide (tx < 0) = false := decide_eq_false hA
    by_cases hB : 100000 < tx
    · have dB : decide (100000 < tx) = true := decide_eq_true hB
      have HO := hide (HBad.out (by omega))
      clear hA hB
      go_enter Tryd.func79, Tryd.ntmps79
      go_wp2_with fail
      go_ret
      rw [HO.out, ← hw0]
      exact ⟨rfl, HB0.out⟩
    · have dB : decide (100000 < tx) = false := decide_eq_false hB
      by_cases hC : next < 2
      · have dC : decide (next < 2) = true := decide_eq_true hC
        have HO := hide (HBad.out (by omega))
        clear hA hB hC
        go_enter Tryd.func79, Tryd.ntmps79
        go_wp2_with fail
        go_ret
        rw [HO.out, ← hw0]
        exact ⟨rfl, HB0.out⟩
      · have dC : decide (next < 2) = false := decide_eq_false hC
        by_cases hD : 40 < next
        · have dD : decide (40 < next) = true := decide_eq_true hD
          have HO := hide (HBad.out (by omega))
          clear hA hB hC hD
          go_enter Tryd.func79, Tryd.ntmps79
          go_wp2_with fail
          go_ret
          rw [HO.out, ← hw0]
          exact ⟨rfl, HB0.out⟩
        · have dD : decide (40 < next) = false := decide_eq_false hD
          by_cases hE : root = 0
          · have dE : (root != 0) = false := by simp [hE]
            have HO : Hid (mk = (decide (fs.length ≤ 20) && freesB tx next [root] 0 fs)) := hide (by
              rw [HDef.out, headOkB]
              congr 1
              rw [decide_eq_decide]
              exact ⟨fun h => h.2.2.2.2.2, fun h => ⟨by omega, by omega, by omega, by omega, Or.inl hE, h⟩⟩)
            have HC := hide (fun wx h => freesOk_any tx root next fs hl hs (by omega) (by omega) (by omega) vf wx h)
            obtain ⟨ok, hok⟩ : ∃ ok, ok = (decide (fs.length ≤ 20) && freesB tx next [root] 0 fs) := ⟨_, rfl⟩
            rw [← hok] at HO HC
            clear hA hB hC hD hE hok hl hs
            go_enter Tryd.func79, Tryd.ntmps79
            go_wp2_with fail
            rw [← hw0]
            clear hw0
            refine (HC.out _ HF.out).mono ?_
            rintro e w1 ⟨rfl, hb1⟩
            have HB1 := hide (HB0.out.trans (hb1.mono HB0.out.size))
            clear hb1
            go_wp2_with fail
            go_ret
            rw [HO.out]
            exact ⟨rfl, HB1.out⟩
          · have dE : (root != 0) = true := by simp [hE]
            by_cases hG : root < 2
            · have dG : decide (root < 2) = true := decide_eq_true hG
              have HO := hide (HBad.out (by omega))
              clear hA hB hC hD hE hG
              go_enter Tryd.func79, Tryd.ntmps79
              go_wp2_with fail
              go_ret
              rw [HO.out, ← hw0]
              exact ⟨rfl, HB0.out⟩
            · have dG : decide (root < 2) = false := decide_eq_false hG
              by_cases hH : next ≤ root
              · have dH : decide (next ≤ root) = true := decide_eq_true hH
                have HO := hide (HBad.out (by omega))
                clear hA hB hC hD hE hG hH
                go_enter Tryd.func79, Tryd.ntmps79
                go_wp2_with fail
                go_ret
                rw [HO.out, ← hw0]
                exact ⟨rfl, HB0.out⟩
              · have dH : decide (next ≤ root) = false := decide_eq_false hH
                have HO : Hid (mk = (decide (fs.length ≤ 20) && freesB tx next [root] 0 fs)) := hide (by
                  rw [HDef.out, headOkB]
                  congr 1
                  rw [decide_eq_decide]
                  exact ⟨fun h => h.2.2.2.2.2, fun h => ⟨by omega, by omega, by omega, by omega, Or.inr (by omega), h⟩⟩)
                have HC := hide (fun wx h => freesOk_any tx root next fs hl hs (by omega) (by omega) (by omega) vf wx h)
                obtain ⟨ok, hok⟩ : ∃ ok, ok = (decide (fs.length ≤ 20) && freesB tx next [root] 0 fs) := ⟨_, rfl⟩
                rw [← hok] at HO HC
                clear hA hB hC hD hE hG hH hok hl hs
                go_enter Tryd.func79, Tryd.ntmps79
                go_wp2_with fail
                rw [← hw0]
                clear hw0
                refine (HC.out _ HF.out).mono ?_
                rintro e w1 ⟨rfl, hb1⟩
                have HB1 := hide (HB0.out.trans (hb1.mono HB0.out.size))
                clear hb1
                go_wp2_with fail
                go_ret
                rw [HO.out]
                exact ⟨rfl, HB1.out⟩
open Go.RowKit
theorem Tryd.intInfoT : (Tryd.prog.info? 3).map (fun i => (i.zero, i.size, i.bytes)) = some (some (.int .i64 0), 1, 8) := by kernel_rfl
theorem ints_oneT (l : List Int) : ∀ y ∈ ints l, y.oneCell' = true := fun y hy => by
  obtain ⟨p, _, rfl⟩ := List.mem_map.1 hy
  rfl
theorem lit_row (w : World) (n : Nat) (hn : n = w.heap.size) (l : List Int) (hl : l.length ≤ 100) : (w.alloc (Obj.cells (ints l).toArray 3)).ownsRow w.heap.size 3 1 (.slice (some ⟨n, 0, none⟩) l.length l.length) l.length (ints l) := by
  subst hn
  simpa using World.ownsRow_lit (base := w.heap.size) (e := 3) (size := 1) w (ints l).toArray l.length (Nat.le_refl _) (by unfold maxLen; omega) (by simp [ints])
theorem lit_cells (w : World) (n : Nat) (hn : n = w.heap.size) (l : List Int) : ∀ (j : Nat) (u : Value), (ints l)[j]? = some u → (w.alloc (Obj.cells (ints l).toArray 3)).cell? ((⟨n, 0, none⟩ : Addr).add j) = some u := by
  subst hn
  intro j u hj
  rw [Addr.add_lit, Nat.zero_add, (cell_at (heap_alloc_new w _) j).1]
  simpa using hj
theorem blk_typeT {w : World} {B e sz n g : Nat} {v : Value} {xs : List Value} {cs : Array Value} {t : TypeId} {p : Nat × Nat} (h : w.ownsRow B e sz v n xs) (hb : w.heap[g]? = some (.cells cs t p)) (hne : e ≠ t) : some g ≠ v.ownBlock := by
  intro h2
  rcases h.2 with ⟨rfl, -⟩ | ⟨g', cap, cur, rfl, -, hh, -⟩
  · cases h2
  · injection h2 with h2
    have h2 : g = g' := h2
    subst h2
    rw [hh] at hb
    injection hb with hb
    injection hb with _ he _
    exact hne he
set_option maxHeartbeats 8000000 in
set_option maxRecDepth 100000 in
theorem metaNumbers_any (v : Value) (m : Mt) (hok : m.ok = true) (w : World) (hd : MetaAt w v m) :
    Calls Tryd.prog 80 #[v] w fun e w' => ∃ v', e = .returned v' ∧ w'.ownsRow w.heap.size 3 1 v' m.nums.length (ints m.nums) ∧ Below w.heap.size w w' := by
  obtain ⟨i0, hi, hz0, hz1, hz2⟩ := info_parts Tryd.intInfoT
  obtain ⟨vf, rfl, hr⟩ := hd
  obtain ⟨pa, pc, rfl⟩ := frees_slice hr
  obtain ⟨L, hL⟩ : ∃ L, L = m.fs.length := ⟨_, rfl⟩
  rw [← hL] at hr ⊢
  obtain ⟨tx, htx⟩ : ∃ tx, tx = m.tx := ⟨_, rfl⟩
  obtain ⟨root, hro⟩ : ∃ tx, tx = m.root := ⟨_, rfl⟩
  obtain ⟨next, hne⟩ : ∃ tx, tx = m.next := ⟨_, rfl⟩
  rw [← htx, ← hro, ← hne]
  obtain ⟨w0, hw0⟩ : ∃ w0, w0 = w.alloc (Obj.cells #[.int .i64 tx, .int .i64 root, .int .i64 next, .slice pa L pc] 82) := ⟨_, rfl⟩
  have hb0 : Below w.heap.size w w0 := by rw [hw0]; exact (Below.refl w.heap.size w).alloc (Nat.le_refl _) _
  have HF := hide (frees_below hr hb0)
  have HB0 := hide hb0
  have HOk := hide hok
  have HL := hide hL
  have k6 : L ≤ 20 := by rw [hL]; exact (ok_parts hok).1.2.2.2.2.2
  have HStart : Hid ((w0.alloc (Obj.cells #[.int .i64 tx, .int .i64 root, .int .i64 next, .int .i64 (L : Int)] 3)).ownsRow w0.heap.size 3 1 (.slice (some ⟨w.heap.size + 1, 0, none⟩) 4 4) (m.pre 0).length (ints (m.pre 0))) := hide (by
    rw [pre_zero, ← htx, ← hro, ← hne, ← hL]
    exact lit_row w0 (w.heap.size + 1) (by rw [hw0]; simp) [tx, root, next, (L : Int)] (by simp))
  clear hr hb0 hok htx hro hne hL
  go_enter Tryd.func80, Tryd.ntmps80
  go_wp2_with fail
  rw [← hw0]
  clear hw0
  go_loopg [3, 19] L (fun q rv iv wr => ∃ k : Nat, k ≤ L ∧ iv = .int .i64 (k : Int) ∧ q + k = L ∧ wr.ownsRow w0.heap.size 3 1 rv (m.pre k).length (ints (m.pre k)) ∧ Hid (Below w0.heap.size w0 wr))
  case atStart => exact ⟨0, Nat.zero_le _, rfl, by omega, HStart.out, hide ((Below.refl _ _).alloc (Nat.le_refl _) _)⟩
  case round =>
    obtain ⟨k, hk, rfl, hg, hown, HB⟩ := hrel
    have HG := hide hg
    clear hg
    by_cases hlt : k < L
    · obtain ⟨ftx, ps, hf⟩ : ∃ ftx ps, m.fs[k]? = some (ftx, ps) := ⟨_, _, List.getElem?_eq_getElem (by rw [← HL.out]; exact hlt)⟩
      obtain ⟨b, off, x, c, rfl, hbl0, hc00, hc10, hrow⟩ := frees_at HF.out hf
      obtain ⟨n, hn⟩ : ∃ n, n = ps.length := ⟨_, rfl⟩
      rw [← hn] at hc10 hrow
      have hc0 := (HB.out.cell (by exact hbl0)).trans hc00
      have hc1 := (HB.out.cell (by exact hbl0)).trans hc10
      have q3 : n ≤ 40 := by rw [hn]; exact (nums_of HOk.out hf).2.2.1
      have HRow := hide hrow
      have HPn := hide (pre_next hf)
      rw [← hn] at HPn
      have HN := hide hn
      have hpl := pre_len HOk.out k
      obtain ⟨N, hN⟩ : ∃ N, N = (m.pre k).length := ⟨_, rfl⟩
      rw [← hN] at hpl hown
      have HNp := hide hN
      have hk0 : (0 : Int) ≤ (k : Int) := by omega
      have hk1 : (k : Int) < (L : Int) := by omega
      have hbs := HB.out.size
      clear hf hc00 hc10 hrow hn hN
      go_wp2_with (at_builtin; refine wpList_append_own _ rfl _ _ 85 rfl w0.heap.size 3 i0 (.int .i64 0) 1 8 Tryd.underlying85 hi hz0 hz1 hz2 rfl (by decide) _ _ _ rfl ((hown.alloc _).alloc _) ⟨wr.heap.size + 1, 0, none⟩ 2 2 [.int .i64 ftx, .int .i64 (n : Int)] rfl rfl ?c1 ?c2 ?c3 ?c4 ?c5 ?_)
      case c1 => exact lit_cells _ _ (by simp) [ftx, (n : Int)]
      case c2 => exact ints_oneT [ftx, (n : Int)]
      case c3 => unfold maxLen; omega
      case c4 => omega
      case c5 => simp; omega
      intro v' w3 hown' hgrow _
      have hb3 : Below w0.heap.size w0 w3 := (((HB.out.alloc hbs _).alloc (by simp; omega) _)).grown hgrow (by simp; omega) (fun k hk => (hown.lt k hk).1)
      have h1 : ((wr.alloc (Obj.cells #[.int .i64 ftx, .slice x n c] 99)).alloc (Obj.cells #[.int .i64 ftx, .int .i64 (n : Int)] 3)).heap[wr.heap.size]? = some (Obj.cells #[.int .i64 ftx, .slice x n c] 99) := (two_allocs wr _ _).1
      have hq3 : w3.heap[wr.heap.size]? = some (Obj.cells #[.int .i64 ftx, .slice x n c] 99) := (hgrow.block _ (Array.getElem?_eq_some_iff.1 h1).1 (blk_typeT ((hown.alloc _).alloc _) h1 Tryd.free_int.symm)).trans h1
      have f1 : w3.cell? ⟨wr.heap.size, 1, none⟩ = some (.slice x n c) := (cell_at hq3 1).1
      have hrow3 := row_below HRow.out hb3
      have hb3s := hb3.size
      clear hgrow hown h1 hq3 hc0 hc1
      go_wp2_with (at_builtin; refine wpList_append_row _ rfl _ _ 85 rfl w0.heap.size 3 i0 (.int .i64 0) 1 8 Tryd.underlying85 hi hz0 hz1 hz2 rfl (by decide) _ _ _ rfl hown' _ n (ints ps) rfl hrow3 (ints_oneT ps) ?d3 ?d4 hb3s ?_)
      case d3 => unfold maxLen; omega
      case d4 => omega
      intro x4 c4 w4 hown4 hgrow4
      have HB4 : Hid (Below w0.heap.size w0 w4) := hide (hb3.grown hgrow4 hb3s (fun k hk => (hown'.lt k hk).1))
      have hown5 : w4.ownsRow w0.heap.size 3 1 (.slice x4 (N + 2 + n) c4) (m.pre (k + 1)).length (ints (m.pre (k + 1))) := by
        have e1 : (m.pre (k + 1)).length = N + 2 + n := by rw [HPn.out, List.length_append, List.length_append, ← HNp.out, ← HN.out]; rfl
        have e2 : ints (m.pre (k + 1)) = ints (m.pre k) ++ .int .i64 ftx :: .int .i64 (n : Int) :: ints ps := by rw [HPn.out]; simp [ints]
        rw [e1, e2]
        exact hown4
      clear hown4 hgrow4 hown' hb3 hrow3 f1 hb3s hbs
      go_wp2_with fail
      go_roundg (gk - 1)
      case measure => have := HG.out; omega
      case rel => exact ⟨k + 1, by omega, by go_num, by have := HG.out; omega, hown5, HB4⟩
    · have HE : Hid (m.pre k = m.nums) := hide (by rw [← pre_end, ← HL.out, show k = L from by omega])
      rw [HE.out] at hown
      have HO := hide hown
      clear hown
      go_wp2_with fail
      go_ret
      exact ⟨_, rfl, own_down HO.out HB0.out.size, HB0.out.trans (HB.out.mono HB0.out.size)⟩
theorem Tryd.int_u8 : (3 : Nat) ≠ 5 := by decide
theorem cells_strT (l : List UInt8) (s : ByteArray) : Lib.byteCells l ++ Lib.strCells s = Lib.byteCells (l ++ s.data.toList) := by
  simp [Lib.byteCells, Lib.strCells]
theorem apartT {u v : Value} (h : ∀ k, u.ownBlock = some k → v.ownBlock ≠ some k) : v.ownBlock = none ∨ v.ownBlock ≠ u.ownBlock := by
  cases hv : v.ownBlock with
  | none => exact Or.inl rfl
  | some k => exact Or.inr (fun e => h k e.symm hv)
theorem numsL_take_succ {l : List Int} {k : Nat} {x : Int} (h : l[k]? = some x) : numsL (l.take (k + 1)) = numsL (l.take k) ++ vtext x.toNat := by
  obtain ⟨hk, e⟩ := List.getElem?_eq_some_iff.1 h
  rw [List.take_succ_eq_append_getElem hk, numsL_snoc, e]
set_option maxHeartbeats 8000000 in
set_option maxRecDepth 100000 in
theorem implMetaText_any (v : Value) (m : Mt) (hl : m.fs.length ≤ 1048576) (hs : ∀ f ∈ m.fs, f.2.length ≤ 1048576) (w : World) (hT : SumTab w) (hd : MetaAt w v m) :
    Calls Tryd.prog 67 #[v] w fun e w' => e = .returned (.tuple #[.string m.textO, .bool m.good]) ∧ Below w.heap.size w w' := by
  obtain ⟨i0, hi, hz0, hz1, hz2⟩ := info_parts Tryd.infoU8
  have HS := hide (fun wx h => implMetaOk_any v m hl hs wx h)
  have HNu := hide (fun hok wx h => metaNumbers_any v m hok wx h)
  have HD := hide hd
  have HT := hide hT
  obtain ⟨vf, rfl, hr⟩ := hd
  obtain ⟨tx, htx⟩ : ∃ tx, tx = m.tx := ⟨_, rfl⟩
  obtain ⟨root, hro⟩ : ∃ tx, tx = m.root := ⟨_, rfl⟩
  obtain ⟨next, hne⟩ : ∃ tx, tx = m.next := ⟨_, rfl⟩
  rw [← htx, ← hro, ← hne] at HS HD HNu ⊢
  have HVar := hide (meta_cells w tx root next vf 82)
  obtain ⟨w0, hw0⟩ : ∃ w0, w0 = w.alloc (Obj.cells #[.int .i64 tx, .int .i64 root, .int .i64 next, vf] 82) := ⟨_, rfl⟩
  rw [← hw0] at HVar
  have hb0 : Below w.heap.size w w0 := by rw [hw0]; exact (Below.refl w.heap.size w).alloc (Nat.le_refl _) _
  have HB0 := hide hb0
  clear hr hb0 hl hs hT htx hro hne
  cases hok : m.ok with
  | false =>
    rw [hok] at HS
    have HO := hide (good_no (Or.inl hok))
    clear hok
    go_enter Tryd.func67, Tryd.ntmps67
    go_wp2_with fail
    rw [← hw0]
    clear hw0
    refine (HS.out _ (meta_below HD.out HB0.out)).mono ?_
    rintro e w1 ⟨rfl, hb⟩
    go_wp2_with fail
    go_ret2
    rw [HO.out.1, HO.out.2]
    exact ⟨rfl, HB0.out.trans (hb.mono HB0.out.size)⟩
  | true =>
    rw [hok] at HS
    have HNu2 := hide (fun wx h => HNu.out hok wx h)
    have HOk := hide hok
    have hnl := nums_len hok
    have HIn := hide (nums_in hok)
    obtain ⟨N, hN⟩ : ∃ N, N = m.nums.length := ⟨_, rfl⟩
    rw [← hN] at HNu2 hnl
    have HN := hide hN
    clear HNu hok hN
    go_enter Tryd.func67, Tryd.ntmps67
    go_wp2_with fail
    rw [← hw0]
    clear hw0
    refine (HS.out _ (meta_below HD.out HB0.out)).mono ?_
    rintro e w1 ⟨rfl, hb⟩
    have HB1 := hide hb
    obtain ⟨w2, hw2⟩ : ∃ w2, w2 = w1.alloc (Obj.cells #[] 5) := ⟨_, rfl⟩
    have hb2 : Below w0.heap.size w0 w2 := by rw [hw2]; exact hb.alloc hb.size _
    have hown2 : w2.ownsRow w0.heap.size 5 1 (.slice (some ⟨w1.heap.size, 0, none⟩) 0 0) 0 (Lib.byteCells []) := by
      rw [hw2]
      exact own_down (by simpa [Lib.byteCells] using World.ownsRow_lit (base := w1.heap.size) (e := 5) (size := 1) w1 #[] 0 (Nat.le_refl _) (by unfold maxLen; omega) (by simp)) hb.size
    obtain ⟨p0, p1, p2, p3⟩ := HVar.out w2 hb2
    rw [hw2] at p0 p1 p2 p3
    obtain ⟨q0, q1, q2, q3⟩ := HVar.out w1 hb
    have HB2 := hide hb2
    have HO2 := hide hown2
    clear hb hb2 hown2
    go_wp2_with fail
    rw [← hw2]
    clear hw2 p0 p1 p2 p3 q0 q1 q2 q3
    refine (HNu2.out _ (meta_below HD.out (HB0.out.trans (HB2.out.mono HB0.out.size)))).mono ?_
    rintro e w3 ⟨vr, rfl, hownN, hb3⟩
    obtain ⟨ra, rc, rfl⟩ := own_slice hownN
    have HO3 := own_stays HO2.out hb3
    have HB3 : Hid (Below w0.heap.size w0 w3) := hide (HB2.out.trans (hb3.mono HB2.out.size))
    have HN3 := hide (own_down hownN HB2.out.size)
    clear hb3 hownN
    go_wp2_with fail
    go_loopg [4, 18] N (fun q ov iv wr => ∃ k : Nat, k ≤ N ∧ iv = .int .i64 (k : Int) ∧ q + k = N ∧ wr.ownsRow w0.heap.size 5 1 ov (numsL (m.nums.take k)).length (Lib.byteCells (numsL (m.nums.take k))) ∧ Hid (wr.ownsRow w0.heap.size 3 1 (.slice ra N rc) N (ints m.nums)) ∧ Hid (Below w0.heap.size w0 wr))
    case atStart => exact ⟨0, Nat.zero_le _, rfl, by omega, HO3, HN3, HB3⟩
    case round =>
      clear HO3 HN3 HB3
      obtain ⟨k, hk, rfl, hg, hown, HNr, HB⟩ := hrel
      have HG := hide hg
      clear hg
      have hsz : (numsL (m.nums.take k)).length ≤ 4220 := by have h1 := (numsL_size (m.nums.take k)).2; rw [List.length_take] at h1; omega
      by_cases hlt : k < N
      · obtain ⟨x, hx⟩ : ∃ x, m.nums[k]? = some x := ⟨_, List.getElem?_eq_getElem (by have := HN.out; omega)⟩
        obtain ⟨-, a1, cp1, e1, h0 | ⟨bp, op, e0, hbp, hcp⟩⟩ := row_of_own HNr.out
        · omega
        injection e1 with e11 _ e12
        subst e11 e12
        subst e0
        have hpc : wr.cell? ⟨bp, op + k, none⟩ = some (.int .i64 x) := by
          obtain ⟨ht, e⟩ := List.getElem?_eq_some_iff.1 hx
          rw [hcp k (by omega), ints_at m.nums k ht, e]
        have hxr := HIn.out x (List.mem_of_getElem? hx)
        have HV := hide (fun wx => implVarText_yes x hxr.1 (by omega) wx)
        have HK := hide (numsL_take_succ hx)
        have z := vtB_size x.toNat
        have z5 := (vtext_length x.toNat).2
        obtain ⟨t, ht⟩ : ∃ t : ByteArray, t = ⟨(vtext x.toNat).toArray⟩ := ⟨_, rfl⟩
        have HTl : Hid (t.data.toList = vtext x.toNat) := hide (by rw [ht])
        rw [← ht] at HV z
        have hts : t.size ≤ 5 := by omega
        have hk0 : (0 : Int) ≤ (k : Int) := by omega
        have hk1 : (k : Int) < (N : Int) := by omega
        clear hx hcp hxr z z5 ht
        go_wp2_with fail
        refine (HV.out _).mono ?_
        rintro e w4 ⟨rfl, hb4⟩
        have hown4 := own_stays hown hb4
        have HN4 := hide (own_stays HNr.out hb4)
        have hb4' := HB.out.trans (hb4.mono HB.out.size)
        have hs4 := hb4'.size
        clear hb4 hown hpc
        go_wp2_with (at_builtin; refine Lib.wpList_append_own_string _ rfl _ _ 22 9 rfl w0.heap.size 5 i0 Tryd.underlying22 Tryd.underlying9 hi hz0 hz1 hz2 _ _ _ rfl hown4 t rfl ?d1 ?d2 hs4 ?_)
        case d1 => unfold maxLen; omega
        case d2 => omega
        intro v5 w5 hown5 hgrow5 _
        have hown6 : w5.ownsRow w0.heap.size 5 1 v5 (numsL (m.nums.take (k + 1))).length (Lib.byteCells (numsL (m.nums.take (k + 1)))) := by
          have e1 : (numsL (m.nums.take (k + 1))).length = (numsL (m.nums.take k)).length + t.size := by rw [HK.out, List.length_append, ← HTl.out, ba_len]
          rw [e1, HK.out, ← HTl.out, ← cells_strT]
          exact hown5
        have HN6 : Hid (w5.ownsRow w0.heap.size 3 1 (.slice (some ⟨bp, op, none⟩) N rc) N (ints m.nums)) := hide (HN4.out.kept hgrow5 (apartT (fun k e => one_type hown4 HN4.out Tryd.int_u8.symm k e)))
        have HB6 : Hid (Below w0.heap.size w0 w5) := hide (hb4'.grown hgrow5 hs4 (fun k hk => (hown4.lt k hk).1))
        clear hown5 hgrow5 hown4 hb4' hs4
        go_wp2_with fail
        go_roundg (gk - 1)
        case measure => have := HG.out; omega
        case rel => exact ⟨k + 1, by omega, by go_num, by have := HG.out; omega, hown6, HN6, HB6⟩
      · have HE : Hid (m.nums.take k = m.nums) := hide (List.take_of_length_le (by have := HN.out; omega))
        rw [HE.out] at hown hsz
        have hcv := string_own (dst := 9) (src := 22) Tryd.underlying22 Tryd.underlying5 Tryd.underlying9 hown
        have HSe := hide (fun wx h => implSealed_yes (numsB m.nums) (by have := (nums_size HOk.out).1; omega) wx h)
        rw [text_seal] at HSe
        rw [numsB] at HSe
        have HGy := hide (fun h => good_yes (m := m) HOk.out h)
        have HGn := hide (fun h => good_no (m := m) (Or.inr h))
        obtain ⟨tt, htt⟩ : ∃ tt, tt = m.text := ⟨_, rfl⟩
        rw [← htt] at HSe HGy HGn
        have htl : tt.size ≤ 5000 := by rw [htt, text_size]; omega
        have HTr := hide (sumTab_below HT.out (HB0.out.trans (HB.out.mono HB0.out.size)))
        clear htt hown hsz
        go_wp2_with fail
        refine (HSe.out _ HTr.out).mono ?_
        rintro e wa ⟨rfl, hba⟩
        have HB3 := hide (HB.out.trans (hba.mono HB.out.size))
        clear hba hcv
        by_cases hbig : 240 < tt.size
        · have HO := hide (HGn.out hbig)
          have d1 : decide ((240 : Int) < (tt.size : Int)) = true := decide_eq_true (by omega)
          go_wp2_with fail
          go_ret2
          rw [HO.out.1, HO.out.2]
          exact ⟨rfl, HB0.out.trans (HB3.out.mono HB0.out.size)⟩
        · have HO := hide (HGy.out (by omega))
          have d1 : decide ((240 : Int) < (tt.size : Int)) = false := decide_eq_false (by omega)
          go_wp2_with fail
          go_ret2
          rw [HO.out.1, HO.out.2]
          exact ⟨rfl, HB0.out.trans (HB3.out.mono HB0.out.size)⟩
open Go.RowKit
def pgOf (x : Int) : Int := if x.tmod 2 = 0 then 0 else 1
theorem and_one (x : Int) : bits .and .i64 x 1 = pgOf x := by
  have h1 : ((BitVec.ofInt 64 x) &&& (BitVec.ofInt 64 1)).toNat = (x % 18446744073709551616).toNat % 2 := by
    rw [BitVec.toNat_and, BitVec.toNat_ofInt, show (BitVec.ofInt 64 1).toNat = 1 from by decide, Nat.and_one_is_mod]
    rfl
  have h2 : bits .and .i64 x 1 = IntKind.i64.wrap (((x % 18446744073709551616).toNat % 2 : Nat) : Int) := by rw [← h1]; rfl
  rw [h2, pgOf]
  have h3 : x.tmod 2 = 0 ↔ x % 2 = 0 := by rw [← Int.dvd_iff_tmod_eq_zero, ← Int.dvd_iff_emod_eq_zero]
  by_cases h : x % 2 = 0
  · rw [if_pos (h3.2 h), show (x % 18446744073709551616).toNat % 2 = 0 from by omega]
    decide
  · rw [if_neg (fun e => h (h3.1 e)), show (x % 18446744073709551616).toNat % 2 = 1 from by omega]
    decide
set_option maxHeartbeats 400000 in
theorem implMetaPage_any (x : Int) (w : World) :
    Calls Tryd.prog 68 #[.int .i64 x] w fun e w' => e = .returned (.int .i64 (pgOf x)) ∧ w = w' := by
  have HB := hide (and_one x)
  go_enter Tryd.func68, Tryd.ntmps68
  go_wp2
  go_ret
  rw [← HB.out]
  exact ⟨rfl, rfl⟩
end Go.Proofs.YtmmepgincbngeaaDoor
