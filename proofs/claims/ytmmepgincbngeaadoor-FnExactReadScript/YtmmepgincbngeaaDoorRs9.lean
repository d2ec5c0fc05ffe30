/-
  Facts and contracts that the law's own text rests on, by their texts' names: MetaSpec.
-/
import Derived.BigQuiet
import Derived.Deep.RegionHeld3
import Derived.Test.YtmmepgincbngeaaDoorRs8
import Derived.Test.YtmmepgincbngeaaDoorRs3
import Derived.Test.YtmmepgincbngeaaDoorRs1
import Derived.Test.YtmmepgincbngeaaDoorRs2
namespace Go.Proofs.YtmmepgincbngeaaDoor
open Go.RowKit
theorem Tryd.intInfo : (Tryd.prog.info? 3).map (fun i => (i.zero, i.size, i.bytes)) = some (some (.int .i64 0), 1, 8) := by kernel_rfl
theorem meta_var (w : World) (tx root next : Int) (vf : Value) (t : TypeId) : ∀ wx, Below (w.alloc (Obj.cells #[.int .i64 tx, .int .i64 root, .int .i64 next, vf] t)).heap.size (w.alloc (Obj.cells #[.int .i64 tx, .int .i64 root, .int .i64 next, vf] t)) wx →
    wx.cell? ⟨w.heap.size, 0, none⟩ = some (.int .i64 tx) ∧ wx.cell? ⟨w.heap.size, 1, none⟩ = some (.int .i64 root) ∧ wx.cell? ⟨w.heap.size, 2, none⟩ = some (.int .i64 next) ∧ wx.cell? ⟨w.heap.size, 3, none⟩ = some vf := fun wx hb => by
  have hblk := heap_alloc_new w (Obj.cells #[.int .i64 tx, .int .i64 root, .int .i64 next, vf] t)
  have hq := (hb.block _ (Array.getElem?_eq_some_iff.1 hblk).1).trans hblk
  exact ⟨(cell_at hq 0).1, (cell_at hq 1).1, (cell_at hq 2).1, (cell_at hq 3).1⟩
theorem int_one (w : World) (x : Int) : (w.alloc (Obj.cells #[.int .i64 x] 3)).ownsRow w.heap.size 3 1 (.slice (some ⟨w.heap.size, 0, none⟩) 1 1) 1 (ints [x]) := by
  simpa [ints] using World.ownsRow_lit (base := w.heap.size) (e := 3) (size := 1) w #[.int .i64 x] 1 (Nat.le_refl _) (by unfold maxLen; omega) (by simp)
theorem int_cell (w : World) (x : Int) : ∀ (j : Nat) (u : Value), [Value.int .i64 x][j]? = some u → (w.alloc (Obj.cells #[.int .i64 x] 3)).cell? ((⟨w.heap.size, 0, none⟩ : Addr).add j) = some u := by
  intro j u hj
  match j, hj with
  | 0, hj => simp at hj; subst hj; simp [Addr.add]
theorem blk_type {w : World} {B e sz n g : Nat} {v : Value} {xs : List Value} {cs : Array Value} {t : TypeId} {p : Nat × Nat} (h : w.ownsRow B e sz v n xs) (hb : w.heap[g]? = some (.cells cs t p)) (hne : e ≠ t) : some g ≠ v.ownBlock := by
  intro h2
  rcases h.2 with ⟨rfl, -⟩ | ⟨g', cap, cur, rfl, -, hh, -⟩
  · cases h2
  · injection h2 with h2
    have h2 : g = g' := h2
    subst h2
    rw [hh] at hb
    injection hb with hb
    injection hb with _ he _
    exact hne he
theorem ints_snocS (l : List Int) (x : Int) : ints l ++ [.int .i64 x] = ints (l ++ [x]) := by simp [ints]
set_option maxHeartbeats 16000000 in
set_option maxRecDepth 100000 in
theorem specMetaOk_any (v : Value) (m : Mt) (hl : m.fs.length ≤ 1048576) (hs : ∀ f ∈ m.fs, f.2.length ≤ 1048576) (w : World) (hd : MetaAt w v m) :
    Calls Tryd.prog 58 #[v] w fun e w' => e = .returned (.bool m.ok) ∧ Below w.heap.size w w' := by
  obtain ⟨i0, hi, hz0, hz1, hz2⟩ := info_parts Tryd.intInfo
  obtain ⟨vf, rfl, hr⟩ := hd
  obtain ⟨pa, pc, rfl⟩ := frees_slice hr
  have HOk1 := hide (fun h => ok_head (m := m) h)
  have HOk2 := hide (fun h => ok_frees (m := m) h)
  obtain ⟨mk, hmk⟩ : ∃ mk, mk = m.ok := ⟨_, rfl⟩
  rw [← hmk] at HOk1 HOk2 ⊢
  clear hmk
  obtain ⟨tx, root, next, fs⟩ := m
  dsimp only at hr hl hs HOk1 HOk2 ⊢
  obtain ⟨L, hL⟩ : ∃ L, L = fs.length := ⟨_, rfl⟩
  rw [← hL] at hl HOk1 HOk2 ⊢
  have HVar := hide (meta_var w tx root next (.slice pa L pc) 82)
  obtain ⟨w0, hw0⟩ : ∃ w0, w0 = w.alloc (Obj.cells #[.int .i64 tx, .int .i64 root, .int .i64 next, .slice pa L pc] 82) := ⟨_, rfl⟩
  rw [← hw0] at HVar
  have hb0 : Below w.heap.size w w0 := by rw [hw0]; exact (Below.refl w.heap.size w).alloc (Nat.le_refl _) _
  obtain ⟨c0, c1, c2, c3⟩ := HVar.out w0 (Below.refl _ _)
  have HF := hide (frees_below hr hb0)
  rw [← hL] at HF
  have HB0 := hide hb0
  have HS := hide hs
  have HL := hide hL
  clear hr hb0 hs hL
  have HIn1 := hide (fun wx => in_dec tx 0 100000 wx)
  have HIn2 := hide (fun wx => in_dec next 2 40 wx)
  have HIn3 := hide (fun wx => in_dec root 2 (next - 1) wx)
  by_cases h1 : 0 ≤ tx ∧ tx ≤ 100000
  · rw [decide_eq_true h1] at HIn1
    by_cases h2 : 2 ≤ next ∧ next ≤ 40
    · rw [decide_eq_true h2] at HIn2
      obtain ⟨h2a, h2b⟩ := h2
      by_cases h3 : root ≠ 0 ∧ ¬ (2 ≤ root ∧ root ≤ next - 1)
      · rw [decide_eq_false h3.2] at HIn3
        have dr : (root != 0) = true := by simp [h3.1]
        have HO := hide (HOk1.out (by rw [headOkB, decide_eq_false]; omega))
        clear h3
        go_enter Tryd.func58, Tryd.ntmps58
        go_wp2_with fail
        rw [← hw0]
        clear hw0
        refine (HIn1.out _).mono ?_
        rintro e w1 ⟨rfl, rfl⟩
        go_wp2_with fail
        refine (HIn2.out _).mono ?_
        rintro e w1 ⟨rfl, rfl⟩
        go_wp2_with fail
        refine (HIn3.out _).mono ?_
        rintro e w1 ⟨rfl, rfl⟩
        go_wp2_with fail
        go_ret
        rw [HO.out]
        exact ⟨rfl, HB0.out⟩
      · by_cases h4 : L ≤ 20
        · have HO := hide (HOk2.out (by rw [headOkB, decide_eq_true]; omega))
          have HHd := hide (⟨h1, h2a, h2b, h3⟩ : _ ∧ _ ∧ _ ∧ _)
          clear h1
          by_cases hr0 : root = 0
          · have dr : (root != 0) = false := by simp [hr0]
            clear h3 hr0
            go_enter Tryd.func58, Tryd.ntmps58
            go_wp2_with fail
            rw [← hw0]
            clear hw0
            refine (HIn1.out _).mono ?_
            rintro e w1 ⟨rfl, rfl⟩
            go_wp2_with fail
            refine (HIn2.out _).mono ?_
            rintro e w1 ⟨rfl, rfl⟩
            go_wp2_with fail
            clear c0 c1 c2 c3 dr
            go_loopg [3, 4] L (fun q sv iv wr => ∃ (k : Nat) (seen : List Int) (last : Int), k ≤ L ∧ iv = .int .i64 (k : Int) ∧ q + k = L ∧ Hid (wr.ownsRow w0.heap.size 3 1 sv seen.length (ints seen)) ∧ Hid (MSt tx root next fs k seen last) ∧ Hid (Below w0.heap.size w0 wr))
            case atStart => exact ⟨0, [root], 0, Nat.zero_le _, rfl, by omega, hide (int_one w0 root), hide (mst_start tx root next fs), hide ((Below.refl _ _).alloc (Nat.le_refl _) _)⟩
            case round =>
              obtain ⟨k, seen0, last, hk, rfl, hg, HOwn, HM, HB⟩ := hrel
              have HG := hide hg
              clear hg
              obtain ⟨gq, hgq⟩ : ∃ gq, gq = gk := ⟨_, rfl⟩
              have HGQ := hide hgq
              clear hgq
              obtain ⟨p0, p1, p2, p3⟩ := HVar.out wr HB.out
              by_cases hlt : k < L
              · obtain ⟨ftx, ps, hf⟩ : ∃ ftx ps, fs[k]? = some (ftx, ps) := ⟨_, _, List.getElem?_eq_getElem (by rw [← HL.out]; exact hlt)⟩
                obtain ⟨b, off, x, c, rfl, hbl0, hc00, hc10, hrow⟩ := frees_at HF.out hf
                have hbl : b < wr.heap.size := Nat.lt_of_lt_of_le hbl0 HB.out.size
                have hc0 := (HB.out.cell (by exact hbl0)).trans hc00
                have hc1 := (HB.out.cell (by exact hbl0)).trans hc10
                clear hc00 hc10
                obtain ⟨n, hn⟩ : ∃ n, n = ps.length := ⟨_, rfl⟩
                have hnl : n ≤ 1048576 := by rw [hn]; exact HS.out _ (List.mem_of_getElem? hf)
                have HRow := hide hrow
                rw [← hn] at hc1 HRow
                have HF1 := hide hf
                have HN := hide hn
                have hk0 : (0 : Int) ≤ (k : Int) := by omega
                have hk1 : (k : Int) < (L : Int) := by omega
                have HPv : Hid (0 < k → ∃ px, wr.cell? ⟨b, off + (k - 1) * 2, none⟩ = some (.int .i64 px) ∧ px = last) := hide (fun hp => by
                  obtain ⟨px, pps, hpx⟩ : ∃ px pps, fs[k - 1]? = some (px, pps) := ⟨_, _, List.getElem?_eq_getElem (by rw [← HL.out]; omega)⟩
                  obtain ⟨b', off', x', c', e, -, hc', -, -⟩ := frees_at (frees_below HF.out HB.out) hpx
                  injection e with e
                  injection e with e1 e2 _
                  subst e1 e2
                  exact ⟨px, hc', HM.out.2.2.2.2.1 _ hp hpx⟩)
                obtain ⟨w1, hw1⟩ : ∃ w1, w1 = wr.alloc (Obj.cells #[.int .i64 ftx, .slice x n c] 99) := ⟨_, rfl⟩
                have hbw1 : Below w0.heap.size w0 w1 := by rw [hw1]; exact HB.out.alloc HB.out.size _
                have hblk : w1.heap[wr.heap.size]? = some (Obj.cells #[.int .i64 ftx, .slice x n c] 99) := by rw [hw1]; exact heap_alloc_new wr _
                have HBl := hide hblk
                have HB1 := hide hbw1
                have HOwn1 : Hid (w1.ownsRow w0.heap.size 3 1 u3 seen0.length (ints seen0)) := hide (by rw [hw1]; exact own_stays HOwn.out ((Below.refl wr.heap.size wr).alloc (Nat.le_refl _) _))
                have HK1 : Hid (Below wr.heap.size wr w1) := hide (by rw [hw1]; exact (Below.refl wr.heap.size wr).alloc (Nat.le_refl _) _)
                clear hf hrow hn hblk hbw1
                have HC1 := hide (fun wx => in_dec ftx 1 tx wx)
                have HC2 := hide (fun wx => in_dec (n : Int) 1 40 wx)
                have HMB : Hid (¬ (last < ftx ∧ ftx ≤ tx ∧ 1 ≤ n ∧ n ≤ 40) → freesB tx next [root] 0 fs = false) := hide (fun h => mst_bad HM.out HF1.out (by rw [← HN.out]; exact h))
                have hla : 0 ≤ last := HM.out.2.2.1
                have hlz : k = 0 → last = 0 := HM.out.2.2.2.1
                by_cases hA : 1 ≤ ftx ∧ ftx ≤ tx
                · rw [decide_eq_true hA] at HC1
                  by_cases hB : 0 < k ∧ ftx ≤ last
                  · have HT := hide (HMB.out (by omega))
                    obtain ⟨px, hpx, hpl⟩ := HPv.out hB.1
                    have dp : decide (ftx ≤ px) = true := decide_eq_true (by omega)
                    go_wp2_with fail
                    rw [← hw1]
                    clear hw1 hc0 hc1 p0 p1 p2 p3
                    obtain ⟨p0, p1, p2, p3⟩ := HVar.out w1 HB1.out
                    have f0 : w1.cell? ⟨wr.heap.size, 0, none⟩ = some (.int .i64 ftx) := (cell_at HBl.out 0).1
                    have f1 : w1.cell? ⟨wr.heap.size, 1, none⟩ = some (.slice x n c) := (cell_at HBl.out 1).1
                    have hpx1 : w1.cell? ⟨b, off + (k - 1) * 2, none⟩ = some (.int .i64 px) := (HK1.out.cell (by exact hbl)).trans hpx
                    have hpx2 : w1.cell? ⟨b, off + ((k : Int) - 1).toNat * 2, none⟩ = some (.int .i64 px) := by rw [show ((k : Int) - 1).toNat = k - 1 from by omega]; exact hpx1
                    have hwj : IntKind.i64.wrap ((k : Int) - 1) = (k : Int) - 1 := IntWalk.i64_in _ ⟨by omega, by omega⟩
                    have hwk : wrap64 ((k : Int) - 1) = (k : Int) - 1 := wrap64_small _ (by omega) (by omega)
                    have hq0 : (0 : Int) ≤ (k : Int) - 1 := by omega
                    have hq1 : (k : Int) - 1 < (L : Int) := by omega
                    have hq2 : (1 : Int) ≤ (k : Int) := by omega
                    have hq3 : (k : Int) < (L : Int) + 1 := by omega
                    have hq4 : (k : Int) ≤ (L : Int) := by omega
                    have hq5 : 1 ≤ k := by omega
                    have dk : decide ((0 : Int) < (k : Int)) = true := decide_eq_true (by omega)
                    have dkn : decide (0 < k) = true := decide_eq_true (by omega)
                    have hpos : 0 < k := by omega
                    clear hA hB hpl hla hlz hpx
                    go_quiet (first | (go_at_call 45; with_reducible exact Calls.quiet_of_same ((HC1.out _).mono (fun _ _ h => ⟨h.1, h.2.symm⟩))) | (go_at_call 45; with_reducible exact Calls.quiet_of_same ((HC2.out _).mono (fun _ _ h => ⟨h.1, h.2.symm⟩))))
                    go_wp2_with fail
                    go_ret
                    rw [HO.out, HT.out]
                    exact ⟨rfl, HB0.out.trans ((bel_dn HB1.out).mono HB0.out.size)⟩
                  · by_cases hC : 1 ≤ n ∧ n ≤ 40
                    · rw [decide_eq_true (show (1 : Int) ≤ (n : Int) ∧ (n : Int) ≤ 40 from by omega)] at HC2
                      have HGood : Hid (last < ftx ∧ ftx ≤ tx ∧ 1 ≤ ps.length ∧ ps.length ≤ 40) := hide (by have := HN.out; omega)
                      by_cases hk9 : 0 < k
                      · obtain ⟨px, hpx, hpl⟩ := HPv.out hk9
                        have dp : decide (ftx ≤ px) = false := decide_eq_false (by omega)
                        go_wp2_with fail
                        rw [← hw1]
                        clear hw1 hc0 hc1 p0 p1 p2 p3
                        obtain ⟨p0, p1, p2, p3⟩ := HVar.out w1 HB1.out
                        have f0 : w1.cell? ⟨wr.heap.size, 0, none⟩ = some (.int .i64 ftx) := (cell_at HBl.out 0).1
                        have f1 : w1.cell? ⟨wr.heap.size, 1, none⟩ = some (.slice x n c) := (cell_at HBl.out 1).1
                        have hpx1 : w1.cell? ⟨b, off + (k - 1) * 2, none⟩ = some (.int .i64 px) := (HK1.out.cell (by exact hbl)).trans hpx
                        have hpx2 : w1.cell? ⟨b, off + ((k : Int) - 1).toNat * 2, none⟩ = some (.int .i64 px) := by rw [show ((k : Int) - 1).toNat = k - 1 from by omega]; exact hpx1
                        have hwj : IntKind.i64.wrap ((k : Int) - 1) = (k : Int) - 1 := IntWalk.i64_in _ ⟨by omega, by omega⟩
                        have hwk : wrap64 ((k : Int) - 1) = (k : Int) - 1 := wrap64_small _ (by omega) (by omega)
                        have hq0 : (0 : Int) ≤ (k : Int) - 1 := by omega
                        have hq1 : (k : Int) - 1 < (L : Int) := by omega
                        have hq2 : (1 : Int) ≤ (k : Int) := by omega
                        have hq3 : (k : Int) < (L : Int) + 1 := by omega
                        have hq4 : (k : Int) ≤ (L : Int) := by omega
                        have hq5 : 1 ≤ k := by omega
                        have dk : decide ((0 : Int) < (k : Int)) = true := decide_eq_true (by omega)
                        have dkn : decide (0 < k) = true := decide_eq_true (by omega)
                        have hpos : 0 < k := by omega
                        clear hA hB hpl hla hlz hpx hk9
                        go_quiet (first | (go_at_call 45; with_reducible exact Calls.quiet_of_same ((HC1.out _).mono (fun _ _ h => ⟨h.1, h.2.symm⟩))) | (go_at_call 45; with_reducible exact Calls.quiet_of_same ((HC2.out _).mono (fun _ _ h => ⟨h.1, h.2.symm⟩))))
                        clear hpx1 hpx2 hwj hwk hq0 hq1 hq2 hq3 hq4 hq5 dk dkn hpos
                        go_wp2_with fail
                        obtain ⟨gf, hgf⟩ : ∃ gf, gf = wr.heap.size := ⟨_, rfl⟩
                        rw [← hgf]
                        have HFb : Hid ((w1.drewN nq).heap[gf]? = some (Obj.cells #[.int .i64 ftx, .slice x n c] 99)) := hide (by rw [hgf]; exact HBl.out)
                        have HBd : Hid (Below w0.heap.size w0 (w1.drewN nq)) := hide (bel_dn HB1.out)
                        have HOd : Hid ((w1.drewN nq).ownsRow w0.heap.size 3 1 u3 seen0.length (ints seen0)) := hide (own_stays HOwn1.out (bel_dn (Below.refl _ _)))
                        have hs0 : seen0.length ≤ 801 := by have := HM.out.1; omega
                        clear hgf f0 f1 p0 p1 p2 p3 HBl HB1 HOwn1 HK1 HPv HOwn HB HC1 HC2
                        go_loopg [3, 6] n (fun q sv jv wi => ∃ (j : Nat) (seen : List Int) (prev : Int), j ≤ n ∧ jv = .int .i64 (j : Int) ∧ q + j = n ∧ Hid (wi.ownsRow w0.heap.size 3 1 sv seen.length (ints seen)) ∧ Hid (PSt next seen0 ps j seen prev) ∧ Hid (Below w0.heap.size w0 wi) ∧ Hid (wi.heap[gf]? = some (Obj.cells #[.int .i64 ftx, .slice x n c] 99)))
                        case atStart => exact ⟨0, seen0, 1, Nat.zero_le _, rfl, by omega, HOd, hide (pst_start next seen0 ps), HBd, HFb⟩
                        case round =>
                          clear HFb HBd HOd
                          obtain ⟨j, seen, prev, hj, rfl, hg2, HOwn2, HP, HB2, HFb2⟩ := hrel
                          have HG2 := hide hg2
                          clear hg2
                          obtain ⟨p0, p1, p2, p3⟩ := HVar.out wr HB2.out
                          have f1 : wr.cell? ⟨gf, 1, none⟩ = some (.slice x n c) := (cell_at HFb2.out 1).1
                          have hsl : seen.length ≤ 1000 := by have := HP.out.1; omega
                          by_cases hjn : j < n
                          · obtain ⟨p, hp⟩ : ∃ p, ps[j]? = some p := ⟨_, List.getElem?_eq_getElem (by have := HN.out; omega)⟩
                            obtain ⟨-, a1, cp1, e1, h0 | ⟨bp, op, e0, hbp, hcp⟩⟩ := HRow.out
                            · omega
                            injection e1 with e11 _ e12
                            subst e11 e12
                            subst e0
                            have HPc : Hid (∀ wx, Below w0.heap.size w0 wx → ∀ t z, ps[t]? = some z → wx.cell? ⟨bp, op + t, none⟩ = some (.int .i64 z)) := hide (fun wx hb t z hz => by
                              obtain ⟨ht, e⟩ := List.getElem?_eq_some_iff.1 hz
                              rw [hb.cell (by exact hbp), hcp t (by have := HN.out; omega), ints_at ps t ht, e])
                            have hpc : wr.cell? ⟨bp, op + j, none⟩ = some (.int .i64 p) := HPc.out wr HB2.out j p hp
                            have HPj := hide hp
                            have hj0 : (0 : Int) ≤ (j : Int) := by omega
                            have hj1 : (j : Int) < (n : Int) := by omega
                            have HC1 := hide (fun wx => in_dec p 2 (next - 1) wx)
                            have HC2 := hide (fun nn => l06In_any seen (by omega) p u3 (wr.drewN nn) (row_below (row_of_own HOwn2.out) (bel_dn (Below.refl _ _))))
                            have HBad : Hid (¬ (2 ≤ p ∧ p < next ∧ prev < p ∧ p ∉ seen) → freesB tx next [root] 0 fs = false) := hide (fun h => mst_none HM.out HF1.out (pst_bad HP.out HPj.out h))
                            have hpv0 : j = 0 → prev = 1 := HP.out.2.2.1
                            clear hcp hp
                            by_cases hA : 2 ≤ p ∧ p ≤ next - 1
                            · rw [decide_eq_true hA] at HC1
                              by_cases hB : 0 < j ∧ p ≤ prev
                              · have HT := hide (HBad.out (by omega))
                                have hpos := hB.1
                                have dp : decide (p ≤ prev) = true := decide_eq_true hB.2
                                have hpx : ps[j - 1]? = some prev := by
                                  obtain ⟨px, hpx⟩ : ∃ px, ps[j - 1]? = some px := ⟨_, List.getElem?_eq_getElem (by have := HN.out; omega)⟩
                                  rw [hpx, HP.out.2.2.2.1 px hpos hpx]
                                have hpx1 : wr.cell? ⟨bp, op + (j - 1), none⟩ = some (.int .i64 prev) := HPc.out wr HB2.out (j - 1) prev hpx
                                have hpx2 : wr.cell? ⟨bp, op + ((j : Int) - 1).toNat, none⟩ = some (.int .i64 prev) := by rw [show ((j : Int) - 1).toNat = j - 1 from by omega]; exact hpx1
                                have hwj : IntKind.i64.wrap ((j : Int) - 1) = (j : Int) - 1 := IntWalk.i64_in _ ⟨by omega, by omega⟩
                                have hwk : wrap64 ((j : Int) - 1) = (j : Int) - 1 := wrap64_small _ (by omega) (by omega)
                                have hq0 : (0 : Int) ≤ (j : Int) - 1 := by omega
                                have hq1 : (j : Int) - 1 < (n : Int) := by omega
                                have hq2 : (1 : Int) ≤ (j : Int) := by omega
                                have hq3 : (j : Int) < (n : Int) + 1 := by omega
                                have hq4 : (j : Int) ≤ (n : Int) := by omega
                                have hq5 : 1 ≤ j := by omega
                                have dk : decide ((0 : Int) < (j : Int)) = true := decide_eq_true (by omega)
                                have dkn : decide (0 < j) = true := decide_eq_true hpos
                                clear hpx
                                clear hA hB hpv0
                                go_wp2_with fail
                                go_quiet (first | (go_at_call 45; with_reducible exact Calls.quiet_of_same ((HC1.out _).mono (fun _ _ h => ⟨h.1, h.2.symm⟩))) | (go_at_call 75; with_reducible exact Calls.quiet_of_same ((HC2.out _).mono (fun _ _ h => ⟨h.1, h.2.symm⟩))))
                                go_wp2_with fail
                                go_ret
                                rw [HO.out, HT.out]
                                exact ⟨rfl, HB0.out.trans ((bel_dn HB2.out).mono HB0.out.size)⟩
                              · cases hin : decide (p ∈ seen) with
                                | true =>
                                  rw [hin] at HC2
                                  have HT := hide (HBad.out (fun h => h.2.2.2 (of_decide_eq_true hin)))
                                  clear hin
                                  by_cases hpos : 0 < j
                                  · have dp : decide (p ≤ prev) = false := decide_eq_false (by omega)
                                    have hpx : ps[j - 1]? = some prev := by
                                      obtain ⟨px, hpx⟩ : ∃ px, ps[j - 1]? = some px := ⟨_, List.getElem?_eq_getElem (by have := HN.out; omega)⟩
                                      rw [hpx, HP.out.2.2.2.1 px hpos hpx]
                                    have hpx1 : wr.cell? ⟨bp, op + (j - 1), none⟩ = some (.int .i64 prev) := HPc.out wr HB2.out (j - 1) prev hpx
                                    have hpx2 : wr.cell? ⟨bp, op + ((j : Int) - 1).toNat, none⟩ = some (.int .i64 prev) := by rw [show ((j : Int) - 1).toNat = j - 1 from by omega]; exact hpx1
                                    have hwj : IntKind.i64.wrap ((j : Int) - 1) = (j : Int) - 1 := IntWalk.i64_in _ ⟨by omega, by omega⟩
                                    have hwk : wrap64 ((j : Int) - 1) = (j : Int) - 1 := wrap64_small _ (by omega) (by omega)
                                    have hq0 : (0 : Int) ≤ (j : Int) - 1 := by omega
                                    have hq1 : (j : Int) - 1 < (n : Int) := by omega
                                    have hq2 : (1 : Int) ≤ (j : Int) := by omega
                                    have hq3 : (j : Int) < (n : Int) + 1 := by omega
                                    have hq4 : (j : Int) ≤ (n : Int) := by omega
                                    have hq5 : 1 ≤ j := by omega
                                    have dk : decide ((0 : Int) < (j : Int)) = true := decide_eq_true (by omega)
                                    have dkn : decide (0 < j) = true := decide_eq_true hpos
                                    clear hpx
                                    clear hA hB hpv0
                                    go_wp2_with fail
                                    go_quiet (first | (go_at_call 45; with_reducible exact Calls.quiet_of_same ((HC1.out _).mono (fun _ _ h => ⟨h.1, h.2.symm⟩))) | (go_at_call 75; with_reducible exact Calls.quiet_of_same ((HC2.out _).mono (fun _ _ h => ⟨h.1, h.2.symm⟩))))
                                    go_wp2_with fail
                                    go_ret
                                    rw [HO.out, HT.out]
                                    exact ⟨rfl, HB0.out.trans ((bel_dn HB2.out).mono HB0.out.size)⟩
                                  · clear hpv0
                                    have dk : decide ((0 : Int) < (j : Int)) = false := decide_eq_false (by omega)
                                    have dkn : decide (0 < j) = false := decide_eq_false (by omega)
                                    clear hA hB hpos
                                    go_wp2_with fail
                                    go_quiet (first | (go_at_call 45; with_reducible exact Calls.quiet_of_same ((HC1.out _).mono (fun _ _ h => ⟨h.1, h.2.symm⟩))) | (go_at_call 75; with_reducible exact Calls.quiet_of_same ((HC2.out _).mono (fun _ _ h => ⟨h.1, h.2.symm⟩))))
                                    go_wp2_with fail
                                    go_ret
                                    rw [HO.out, HT.out]
                                    exact ⟨rfl, HB0.out.trans ((bel_dn HB2.out).mono HB0.out.size)⟩
                                | false =>
                                  rw [hin] at HC2
                                  have HGd : Hid (2 ≤ p ∧ p < next ∧ prev < p ∧ p ∉ seen) := hide ⟨by omega, by omega, by omega, of_decide_eq_false hin⟩
                                  clear hin
                                  by_cases hpos : 0 < j
                                  · have dp : decide (p ≤ prev) = false := decide_eq_false (by omega)
                                    have hpx : ps[j - 1]? = some prev := by
                                      obtain ⟨px, hpx⟩ : ∃ px, ps[j - 1]? = some px := ⟨_, List.getElem?_eq_getElem (by have := HN.out; omega)⟩
                                      rw [hpx, HP.out.2.2.2.1 px hpos hpx]
                                    have hpx1 : wr.cell? ⟨bp, op + (j - 1), none⟩ = some (.int .i64 prev) := HPc.out wr HB2.out (j - 1) prev hpx
                                    have hpx2 : wr.cell? ⟨bp, op + ((j : Int) - 1).toNat, none⟩ = some (.int .i64 prev) := by rw [show ((j : Int) - 1).toNat = j - 1 from by omega]; exact hpx1
                                    have hwj : IntKind.i64.wrap ((j : Int) - 1) = (j : Int) - 1 := IntWalk.i64_in _ ⟨by omega, by omega⟩
                                    have hwk : wrap64 ((j : Int) - 1) = (j : Int) - 1 := wrap64_small _ (by omega) (by omega)
                                    have hq0 : (0 : Int) ≤ (j : Int) - 1 := by omega
                                    have hq1 : (j : Int) - 1 < (n : Int) := by omega
                                    have hq2 : (1 : Int) ≤ (j : Int) := by omega
                                    have hq3 : (j : Int) < (n : Int) + 1 := by omega
                                    have hq4 : (j : Int) ≤ (n : Int) := by omega
                                    have hq5 : 1 ≤ j := by omega
                                    have dk : decide ((0 : Int) < (j : Int)) = true := decide_eq_true (by omega)
                                    have dkn : decide (0 < j) = true := decide_eq_true hpos
                                    clear hpx
                                    clear hA hB hpv0
                                    go_wp2_with fail
                                    go_quiet (first | (go_at_call 45; with_reducible exact Calls.quiet_of_same ((HC1.out _).mono (fun _ _ h => ⟨h.1, h.2.symm⟩))) | (go_at_call 75; with_reducible exact Calls.quiet_of_same ((HC2.out _).mono (fun _ _ h => ⟨h.1, h.2.symm⟩))))
                                    clear hpx1 hpx2 hwj hwk hq0 hq1 hq2 hq3 hq4 hq5 dk dkn dp hpos
                                    obtain ⟨wq, hwq⟩ : ∃ wq, wq = wr.drewN nq := ⟨_, rfl⟩
                                    have hBq : Below w0.heap.size w0 wq := by rw [hwq]; exact bel_dn HB2.out
                                    have hown : wq.ownsRow w0.heap.size 3 1 u3 seen.length (ints seen) := by rw [hwq]; exact own_stays HOwn2.out (bel_dn (Below.refl _ _))
                                    have HFq : Hid (wq.heap[gf]? = some (Obj.cells #[.int .i64 ftx, .slice (some ⟨bp, op, none⟩) n c] 99)) := hide (by rw [hwq]; exact HFb2.out)
                                    have f1 : wq.cell? ⟨gf, 1, none⟩ = some (.slice (some ⟨bp, op, none⟩) n c) := (cell_at HFq.out 1).1
                                    have hpc : wq.cell? ⟨bp, op + j, none⟩ = some (.int .i64 p) := HPc.out wq hBq j p HPj.out
                                    rw [← hwq]
                                    clear hwq
                                    have hsz := hBq.size
                                    go_wp2_with (at_builtin; refine wpList_append_own _ rfl _ _ 85 rfl w0.heap.size 3 i0 (.int .i64 0) 1 8 Tryd.underlying85 hi hz0 hz1 hz2 rfl (by decide) _ _ _ rfl (hown.alloc _) ⟨wq.heap.size, 0, none⟩ 1 1 [.int .i64 p] rfl rfl ?c1 ?c2 ?c3 ?c4 ?c5 ?_)
                                    case c1 => exact int_cell _ _
                                    case c2 => intro u hu; simp at hu; subst hu; rfl
                                    case c3 => unfold maxLen; omega
                                    case c4 => omega
                                    case c5 => simp; omega
                                    intro v' w3 hown' hgrow _
                                    have hb3 : Below w0.heap.size w0 w3 := (hBq.alloc hsz _).grown hgrow (by simp; omega) (fun k hk => (hown.lt k hk).1)
                                    have HFb3 : Hid (w3.heap[gf]? = some (Obj.cells #[.int .i64 ftx, .slice (some ⟨bp, op, none⟩) n c] 99)) := hide (by
                                      have hlt := (Array.getElem?_eq_some_iff.1 HFq.out).1
                                      have h1 : (wq.alloc (Obj.cells #[.int .i64 p] 3)).heap[gf]? = some (Obj.cells #[.int .i64 ftx, .slice (some ⟨bp, op, none⟩) n c] 99) := by rw [heap_push, if_neg (by omega)]; exact HFq.out
                                      exact (hgrow.block gf (Array.getElem?_eq_some_iff.1 h1).1 (blk_type hown HFq.out Tryd.free_int.symm)).trans h1)
                                    have HO3 : Hid (w3.ownsRow w0.heap.size 3 1 v' (seen ++ [p]).length (ints (seen ++ [p]))) := hide (by
                                      rw [← ints_snocS, List.length_append]
                                      simpa using hown')
                                    have HB3 := hide hb3
                                    have HP3 := hide (pst_next HP.out HPj.out HGd.out)
                                    clear hown' hgrow hown hb3 hBq hsz
                                    go_wp2
                                    go_roundg (gk - 1)
                                    case measure => have := HG2.out; omega
                                    case rel => exact ⟨j + 1, seen ++ [p], p, by omega, by go_num, by have := HG2.out; omega, HO3, HP3, HB3, HFb3⟩
                                  · clear hpv0
                                    have dk : decide ((0 : Int) < (j : Int)) = false := decide_eq_false (by omega)
                                    have dkn : decide (0 < j) = false := decide_eq_false (by omega)
                                    clear hA hB hpos
                                    go_wp2_with fail
                                    go_quiet (first | (go_at_call 45; with_reducible exact Calls.quiet_of_same ((HC1.out _).mono (fun _ _ h => ⟨h.1, h.2.symm⟩))) | (go_at_call 75; with_reducible exact Calls.quiet_of_same ((HC2.out _).mono (fun _ _ h => ⟨h.1, h.2.symm⟩))))
                                    clear dk dkn
                                    obtain ⟨wq, hwq⟩ : ∃ wq, wq = wr.drewN nq := ⟨_, rfl⟩
                                    have hBq : Below w0.heap.size w0 wq := by rw [hwq]; exact bel_dn HB2.out
                                    have hown : wq.ownsRow w0.heap.size 3 1 u3 seen.length (ints seen) := by rw [hwq]; exact own_stays HOwn2.out (bel_dn (Below.refl _ _))
                                    have HFq : Hid (wq.heap[gf]? = some (Obj.cells #[.int .i64 ftx, .slice (some ⟨bp, op, none⟩) n c] 99)) := hide (by rw [hwq]; exact HFb2.out)
                                    have f1 : wq.cell? ⟨gf, 1, none⟩ = some (.slice (some ⟨bp, op, none⟩) n c) := (cell_at HFq.out 1).1
                                    have hpc : wq.cell? ⟨bp, op + j, none⟩ = some (.int .i64 p) := HPc.out wq hBq j p HPj.out
                                    rw [← hwq]
                                    clear hwq
                                    have hsz := hBq.size
                                    go_wp2_with (at_builtin; refine wpList_append_own _ rfl _ _ 85 rfl w0.heap.size 3 i0 (.int .i64 0) 1 8 Tryd.underlying85 hi hz0 hz1 hz2 rfl (by decide) _ _ _ rfl (hown.alloc _) ⟨wq.heap.size, 0, none⟩ 1 1 [.int .i64 p] rfl rfl ?c1 ?c2 ?c3 ?c4 ?c5 ?_)
                                    case c1 => exact int_cell _ _
                                    case c2 => intro u hu; simp at hu; subst hu; rfl
                                    case c3 => unfold maxLen; omega
                                    case c4 => omega
                                    case c5 => simp; omega
                                    intro v' w3 hown' hgrow _
                                    have hb3 : Below w0.heap.size w0 w3 := (hBq.alloc hsz _).grown hgrow (by simp; omega) (fun k hk => (hown.lt k hk).1)
                                    have HFb3 : Hid (w3.heap[gf]? = some (Obj.cells #[.int .i64 ftx, .slice (some ⟨bp, op, none⟩) n c] 99)) := hide (by
                                      have hlt := (Array.getElem?_eq_some_iff.1 HFq.out).1
                                      have h1 : (wq.alloc (Obj.cells #[.int .i64 p] 3)).heap[gf]? = some (Obj.cells #[.int .i64 ftx, .slice (some ⟨bp, op, none⟩) n c] 99) := by rw [heap_push, if_neg (by omega)]; exact HFq.out
                                      exact (hgrow.block gf (Array.getElem?_eq_some_iff.1 h1).1 (blk_type hown HFq.out Tryd.free_int.symm)).trans h1)
                                    have HO3 : Hid (w3.ownsRow w0.heap.size 3 1 v' (seen ++ [p]).length (ints (seen ++ [p]))) := hide (by
                                      rw [← ints_snocS, List.length_append]
                                      simpa using hown')
                                    have HB3 := hide hb3
                                    have HP3 := hide (pst_next HP.out HPj.out HGd.out)
                                    clear hown' hgrow hown hb3 hBq hsz
                                    go_wp2
                                    go_roundg (gk - 1)
                                    case measure => have := HG2.out; omega
                                    case rel => exact ⟨j + 1, seen ++ [p], p, by omega, by go_num, by have := HG2.out; omega, HO3, HP3, HB3, HFb3⟩
                            · rw [decide_eq_false hA] at HC1
                              have HT := hide (HBad.out (by omega))
                              clear hA hpv0
                              go_wp2_with fail
                              go_quiet (first | (go_at_call 45; with_reducible exact Calls.quiet_of_same ((HC1.out _).mono (fun _ _ h => ⟨h.1, h.2.symm⟩))) | (go_at_call 75; with_reducible exact Calls.quiet_of_same ((HC2.out _).mono (fun _ _ h => ⟨h.1, h.2.symm⟩))))
                              go_wp2_with fail
                              go_ret
                              rw [HO.out, HT.out]
                              exact ⟨rfl, HB0.out.trans ((bel_dn HB2.out).mono HB0.out.size)⟩
                          · have hjl : j = ps.length := by have := HN.out; omega
                            have HM2 := hide (mst_next HM.out HF1.out HGood.out (by rw [← hjl]; exact HP.out))
                            clear hjl
                            go_wp2_with fail
                            go_roundg (gq - 1)
                            case measure => have h1 := HGQ.out; have h2 := HG.out; omega
                            case rel => exact ⟨k + 1, seen, ftx, by omega, by go_num, by have h1 := HGQ.out; have h2 := HG.out; omega, HOwn2, HM2, HB2⟩
                      · have dk : decide ((0 : Int) < (k : Int)) = false := decide_eq_false (by omega)
                        have dkn : decide (0 < k) = false := decide_eq_false (by omega)
                        go_wp2_with fail
                        rw [← hw1]
                        clear hw1 hc0 hc1 p0 p1 p2 p3
                        obtain ⟨p0, p1, p2, p3⟩ := HVar.out w1 HB1.out
                        have f0 : w1.cell? ⟨wr.heap.size, 0, none⟩ = some (.int .i64 ftx) := (cell_at HBl.out 0).1
                        have f1 : w1.cell? ⟨wr.heap.size, 1, none⟩ = some (.slice x n c) := (cell_at HBl.out 1).1
                        clear hA hB hla hlz hk9
                        go_quiet (first | (go_at_call 45; with_reducible exact Calls.quiet_of_same ((HC1.out _).mono (fun _ _ h => ⟨h.1, h.2.symm⟩))) | (go_at_call 45; with_reducible exact Calls.quiet_of_same ((HC2.out _).mono (fun _ _ h => ⟨h.1, h.2.symm⟩))))
                        clear dk dkn
                        go_wp2_with fail
                        obtain ⟨gf, hgf⟩ : ∃ gf, gf = wr.heap.size := ⟨_, rfl⟩
                        rw [← hgf]
                        have HFb : Hid ((w1.drewN nq).heap[gf]? = some (Obj.cells #[.int .i64 ftx, .slice x n c] 99)) := hide (by rw [hgf]; exact HBl.out)
                        have HBd : Hid (Below w0.heap.size w0 (w1.drewN nq)) := hide (bel_dn HB1.out)
                        have HOd : Hid ((w1.drewN nq).ownsRow w0.heap.size 3 1 u3 seen0.length (ints seen0)) := hide (own_stays HOwn1.out (bel_dn (Below.refl _ _)))
                        have hs0 : seen0.length ≤ 801 := by have := HM.out.1; omega
                        clear hgf f0 f1 p0 p1 p2 p3 HBl HB1 HOwn1 HK1 HPv HOwn HB HC1 HC2
                        go_loopg [3, 6] n (fun q sv jv wi => ∃ (j : Nat) (seen : List Int) (prev : Int), j ≤ n ∧ jv = .int .i64 (j : Int) ∧ q + j = n ∧ Hid (wi.ownsRow w0.heap.size 3 1 sv seen.length (ints seen)) ∧ Hid (PSt next seen0 ps j seen prev) ∧ Hid (Below w0.heap.size w0 wi) ∧ Hid (wi.heap[gf]? = some (Obj.cells #[.int .i64 ftx, .slice x n c] 99)))
                        case atStart => exact ⟨0, seen0, 1, Nat.zero_le _, rfl, by omega, HOd, hide (pst_start next seen0 ps), HBd, HFb⟩
                        case round =>
                          clear HFb HBd HOd
                          obtain ⟨j, seen, prev, hj, rfl, hg2, HOwn2, HP, HB2, HFb2⟩ := hrel
                          have HG2 := hide hg2
                          clear hg2
                          obtain ⟨p0, p1, p2, p3⟩ := HVar.out wr HB2.out
                          have f1 : wr.cell? ⟨gf, 1, none⟩ = some (.slice x n c) := (cell_at HFb2.out 1).1
                          have hsl : seen.length ≤ 1000 := by have := HP.out.1; omega
                          by_cases hjn : j < n
                          · obtain ⟨p, hp⟩ : ∃ p, ps[j]? = some p := ⟨_, List.getElem?_eq_getElem (by have := HN.out; omega)⟩
                            obtain ⟨-, a1, cp1, e1, h0 | ⟨bp, op, e0, hbp, hcp⟩⟩ := HRow.out
                            · omega
                            injection e1 with e11 _ e12
                            subst e11 e12
                            subst e0
                            have HPc : Hid (∀ wx, Below w0.heap.size w0 wx → ∀ t z, ps[t]? = some z → wx.cell? ⟨bp, op + t, none⟩ = some (.int .i64 z)) := hide (fun wx hb t z hz => by
                              obtain ⟨ht, e⟩ := List.getElem?_eq_some_iff.1 hz
                              rw [hb.cell (by exact hbp), hcp t (by have := HN.out; omega), ints_at ps t ht, e])
                            have hpc : wr.cell? ⟨bp, op + j, none⟩ = some (.int .i64 p) := HPc.out wr HB2.out j p hp
                            have HPj := hide hp
                            have hj0 : (0 : Int) ≤ (j : Int) := by omega
                            have hj1 : (j : Int) < (n : Int) := by omega
                            have HC1 := hide (fun wx => in_dec p 2 (next - 1) wx)
                            have HC2 := hide (fun nn => l06In_any seen (by omega) p u3 (wr.drewN nn) (row_below (row_of_own HOwn2.out) (bel_dn (Below.refl _ _))))
                            have HBad : Hid (¬ (2 ≤ p ∧ p < next ∧ prev < p ∧ p ∉ seen) → freesB tx next [root] 0 fs = false) := hide (fun h => mst_none HM.out HF1.out (pst_bad HP.out HPj.out h))
                            have hpv0 : j = 0 → prev = 1 := HP.out.2.2.1
                            clear hcp hp
                            by_cases hA : 2 ≤ p ∧ p ≤ next - 1
                            · rw [decide_eq_true hA] at HC1
                              by_cases hB : 0 < j ∧ p ≤ prev
                              · have HT := hide (HBad.out (by omega))
                                have hpos := hB.1
                                have dp : decide (p ≤ prev) = true := decide_eq_true hB.2
                                have hpx : ps[j - 1]? = some prev := by
                                  obtain ⟨px, hpx⟩ : ∃ px, ps[j - 1]? = some px := ⟨_, List.getElem?_eq_getElem (by have := HN.out; omega)⟩
                                  rw [hpx, HP.out.2.2.2.1 px hpos hpx]
                                have hpx1 : wr.cell? ⟨bp, op + (j - 1), none⟩ = some (.int .i64 prev) := HPc.out wr HB2.out (j - 1) prev hpx
                                have hpx2 : wr.cell? ⟨bp, op + ((j : Int) - 1).toNat, none⟩ = some (.int .i64 prev) := by rw [show ((j : Int) - 1).toNat = j - 1 from by omega]; exact hpx1
                                have hwj : IntKind.i64.wrap ((j : Int) - 1) = (j : Int) - 1 := IntWalk.i64_in _ ⟨by omega, by omega⟩
                                have hwk : wrap64 ((j : Int) - 1) = (j : Int) - 1 := wrap64_small _ (by omega) (by omega)
                                have hq0 : (0 : Int) ≤ (j : Int) - 1 := by omega
                                have hq1 : (j : Int) - 1 < (n : Int) := by omega
                                have hq2 : (1 : Int) ≤ (j : Int) := by omega
                                have hq3 : (j : Int) < (n : Int) + 1 := by omega
                                have hq4 : (j : Int) ≤ (n : Int) := by omega
                                have hq5 : 1 ≤ j := by omega
                                have dk : decide ((0 : Int) < (j : Int)) = true := decide_eq_true (by omega)
                                have dkn : decide (0 < j) = true := decide_eq_true hpos
                                clear hpx
                                clear hA hB hpv0
                                go_wp2_with fail
                                go_quiet (first | (go_at_call 45; with_reducible exact Calls.quiet_of_same ((HC1.out _).mono (fun _ _ h => ⟨h.1, h.2.symm⟩))) | (go_at_call 75; with_reducible exact Calls.quiet_of_same ((HC2.out _).mono (fun _ _ h => ⟨h.1, h.2.symm⟩))))
                                go_wp2_with fail
                                go_ret
                                rw [HO.out, HT.out]
                                exact ⟨rfl, HB0.out.trans ((bel_dn HB2.out).mono HB0.out.size)⟩
                              · cases hin : decide (p ∈ seen) with
                                | true =>
                                  rw [hin] at HC2
                                  have HT := hide (HBad.out (fun h => h.2.2.2 (of_decide_eq_true hin)))
                                  clear hin
                                  by_cases hpos : 0 < j
                                  · have dp : decide (p ≤ prev) = false := decide_eq_false (by omega)
                                    have hpx : ps[j - 1]? = some prev := by
                                      obtain ⟨px, hpx⟩ : ∃ px, ps[j - 1]? = some px := ⟨_, List.getElem?_eq_getElem (by have := HN.out; omega)⟩
                                      rw [hpx, HP.out.2.2.2.1 px hpos hpx]
                                    have hpx1 : wr.cell? ⟨bp, op + (j - 1), none⟩ = some (.int .i64 prev) := HPc.out wr HB2.out (j - 1) prev hpx
                                    have hpx2 : wr.cell? ⟨bp, op + ((j : Int) - 1).toNat, none⟩ = some (.int .i64 prev) := by rw [show ((j : Int) - 1).toNat = j - 1 from by omega]; exact hpx1
                                    have hwj : IntKind.i64.wrap ((j : Int) - 1) = (j : Int) - 1 := IntWalk.i64_in _ ⟨by omega, by omega⟩
                                    have hwk : wrap64 ((j : Int) - 1) = (j : Int) - 1 := wrap64_small _ (by omega) (by omega)
                                    have hq0 : (0 : Int) ≤ (j : Int) - 1 := by omega
                                    have hq1 : (j : Int) - 1 < (n : Int) := by omega
                                    have hq2 : (1 : Int) ≤ (j : Int) := by omega
                                    have hq3 : (j : Int) < (n : Int) + 1 := by omega
                                    have hq4 : (j : Int) ≤ (n : Int) := by omega
                                    have hq5 : 1 ≤ j := by omega
                                    have dk : decide ((0 : Int) < (j : Int)) = true := decide_eq_true (by omega)
                                    have dkn : decide (0 < j) = true := decide_eq_true hpos
                                    clear hpx
                                    clear hA hB hpv0
                                    go_wp2_with fail
                                    go_quiet (first | (go_at_call 45; with_reducible exact Calls.quiet_of_same ((HC1.out _).mono (fun _ _ h => ⟨h.1, h.2.symm⟩))) | (go_at_call 75; with_reducible exact Calls.quiet_of_same ((HC2.out _).mono (fun _ _ h => ⟨h.1, h.2.symm⟩))))
                                    go_wp2_with fail
                                    go_ret
                                    rw [HO.out, HT.out]
                                    exact ⟨rfl, HB0.out.trans ((bel_dn HB2.out).mono HB0.out.size)⟩
                                  · clear hpv0
                                    have dk : decide ((0 : Int) < (j : Int)) = false := decide_eq_false (by omega)
                                    have dkn : decide (0 < j) = false := decide_eq_false (by omega)
                                    clear hA hB hpos
                                    go_wp2_with fail
                                    go_quiet (first | (go_at_call 45; with_reducible exact Calls.quiet_of_same ((HC1.out _).mono (fun _ _ h => ⟨h.1, h.2.symm⟩))) | (go_at_call 75; with_reducible exact Calls.quiet_of_same ((HC2.out _).mono (fun _ _ h => ⟨h.1, h.2.symm⟩))))
                                    go_wp2_with fail
                                    go_ret
                                    rw [HO.out, HT.out]
                                    exact ⟨rfl, HB0.out.trans ((bel_dn HB2.out).mono HB0.out.size)⟩
                                | false =>
                                  rw [hin] at HC2
                                  have HGd : Hid (2 ≤ p ∧ p < next ∧ prev < p ∧ p ∉ seen) := hide ⟨by omega, by omega, by omega, of_decide_eq_false hin⟩
                                  clear hin
                                  by_cases hpos : 0 < j
                                  · have dp : decide (p ≤ prev) = false := decide_eq_false (by omega)
                                    have hpx : ps[j - 1]? = some prev := by
                                      obtain ⟨px, hpx⟩ : ∃ px, ps[j - 1]? = some px := ⟨_, List.getElem?_eq_getElem (by have := HN.out; omega)⟩
                                      rw [hpx, HP.out.2.2.2.1 px hpos hpx]
                                    have hpx1 : wr.cell? ⟨bp, op + (j - 1), none⟩ = some (.int .i64 prev) := HPc.out wr HB2.out (j - 1) prev hpx
                                    have hpx2 : wr.cell? ⟨bp, op + ((j : Int) - 1).toNat, none⟩ = some (.int .i64 prev) := by rw [show ((j : Int) - 1).toNat = j - 1 from by omega]; exact hpx1
                                    have hwj : IntKind.i64.wrap ((j : Int) - 1) = (j : Int) - 1 := IntWalk.i64_in _ ⟨by omega, by omega⟩
                                    have hwk : wrap64 ((j : Int) - 1) = (j : Int) - 1 := wrap64_small _ (by omega) (by omega)
                                    have hq0 : (0 : Int) ≤ (j : Int) - 1 := by omega
                                    have hq1 : (j : Int) - 1 < (n : Int) := by omega
                                    have hq2 : (1 : Int) ≤ (j : Int) := by omega
                                    have hq3 : (j : Int) < (n : Int) + 1 := by omega
                                    have hq4 : (j : Int) ≤ (n : Int) := by omega
                                    have hq5 : 1 ≤ j := by omega
                                    have dk : decide ((0 : Int) < (j : Int)) = true := decide_eq_true (by omega)
                                    have dkn : decide (0 < j) = true := decide_eq_true hpos
                                    clear hpx
                                    clear hA hB hpv0
                                    go_wp2_with fail
                                    go_quiet (first | (go_at_call 45; with_reducible exact Calls.quiet_of_same ((HC1.out _).mono (fun _ _ h => ⟨h.1, h.2.symm⟩))) | (go_at_call 75; with_reducible exact Calls.quiet_of_same ((HC2.out _).mono (fun _ _ h => ⟨h.1, h.2.symm⟩))))
                                    clear hpx1 hpx2 hwj hwk hq0 hq1 hq2 hq3 hq4 hq5 dk dkn dp hpos
                                    obtain ⟨wq, hwq⟩ : ∃ wq, wq = wr.drewN nq := ⟨_, rfl⟩
                                    have hBq : Below w0.heap.size w0 wq := by rw [hwq]; exact bel_dn HB2.out
                                    have hown : wq.ownsRow w0.heap.size 3 1 u3 seen.length (ints seen) := by rw [hwq]; exact own_stays HOwn2.out (bel_dn (Below.refl _ _))
                                    have HFq : Hid (wq.heap[gf]? = some (Obj.cells #[.int .i64 ftx, .slice (some ⟨bp, op, none⟩) n c] 99)) := hide (by rw [hwq]; exact HFb2.out)
                                    have f1 : wq.cell? ⟨gf, 1, none⟩ = some (.slice (some ⟨bp, op, none⟩) n c) := (cell_at HFq.out 1).1
                                    have hpc : wq.cell? ⟨bp, op + j, none⟩ = some (.int .i64 p) := HPc.out wq hBq j p HPj.out
                                    rw [← hwq]
                                    clear hwq
                                    have hsz := hBq.size
                                    go_wp2_with (at_builtin; refine wpList_append_own _ rfl _ _ 85 rfl w0.heap.size 3 i0 (.int .i64 0) 1 8 Tryd.underlying85 hi hz0 hz1 hz2 rfl (by decide) _ _ _ rfl (hown.alloc _) ⟨wq.heap.size, 0, none⟩ 1 1 [.int .i64 p] rfl rfl ?c1 ?c2 ?c3 ?c4 ?c5 ?_)
                                    case c1 => exact int_cell _ _
                                    case c2 => intro u hu; simp at hu; subst hu; rfl
                                    case c3 => unfold maxLen; omega
                                    case c4 => omega
                                    case c5 => simp; omega
                                    intro v' w3 hown' hgrow _
                                    have hb3 : Below w0.heap.size w0 w3 := (hBq.alloc hsz _).grown hgrow (by simp; omega) (fun k hk => (hown.lt k hk).1)
                                    have HFb3 : Hid (w3.heap[gf]? = some (Obj.cells #[.int .i64 ftx, .slice (some ⟨bp, op, none⟩) n c] 99)) := hide (by
                                      have hlt := (Array.getElem?_eq_some_iff.1 HFq.out).1
                                      have h1 : (wq.alloc (Obj.cells #[.int .i64 p] 3)).heap[gf]? = some (Obj.cells #[.int .i64 ftx, .slice (some ⟨bp, op, none⟩) n c] 99) := by rw [heap_push, if_neg (by omega)]; exact HFq.out
                                      exact (hgrow.block gf (Array.getElem?_eq_some_iff.1 h1).1 (blk_type hown HFq.out Tryd.free_int.symm)).trans h1)
                                    have HO3 : Hid (w3.ownsRow w0.heap.size 3 1 v' (seen ++ [p]).length (ints (seen ++ [p]))) := hide (by
                                      rw [← ints_snocS, List.length_append]
                                      simpa using hown')
                                    have HB3 := hide hb3
                                    have HP3 := hide (pst_next HP.out HPj.out HGd.out)
                                    clear hown' hgrow hown hb3 hBq hsz
                                    go_wp2
                                    go_roundg (gk - 1)
                                    case measure => have := HG2.out; omega
                                    case rel => exact ⟨j + 1, seen ++ [p], p, by omega, by go_num, by have := HG2.out; omega, HO3, HP3, HB3, HFb3⟩
                                  · clear hpv0
                                    have dk : decide ((0 : Int) < (j : Int)) = false := decide_eq_false (by omega)
                                    have dkn : decide (0 < j) = false := decide_eq_false (by omega)
                                    clear hA hB hpos
                                    go_wp2_with fail
                                    go_quiet (first | (go_at_call 45; with_reducible exact Calls.quiet_of_same ((HC1.out _).mono (fun _ _ h => ⟨h.1, h.2.symm⟩))) | (go_at_call 75; with_reducible exact Calls.quiet_of_same ((HC2.out _).mono (fun _ _ h => ⟨h.1, h.2.symm⟩))))
                                    clear dk dkn
                                    obtain ⟨wq, hwq⟩ : ∃ wq, wq = wr.drewN nq := ⟨_, rfl⟩
                                    have hBq : Below w0.heap.size w0 wq := by rw [hwq]; exact bel_dn HB2.out
                                    have hown : wq.ownsRow w0.heap.size 3 1 u3 seen.length (ints seen) := by rw [hwq]; exact own_stays HOwn2.out (bel_dn (Below.refl _ _))
                                    have HFq : Hid (wq.heap[gf]? = some (Obj.cells #[.int .i64 ftx, .slice (some ⟨bp, op, none⟩) n c] 99)) := hide (by rw [hwq]; exact HFb2.out)
                                    have f1 : wq.cell? ⟨gf, 1, none⟩ = some (.slice (some ⟨bp, op, none⟩) n c) := (cell_at HFq.out 1).1
                                    have hpc : wq.cell? ⟨bp, op + j, none⟩ = some (.int .i64 p) := HPc.out wq hBq j p HPj.out
                                    rw [← hwq]
                                    clear hwq
                                    have hsz := hBq.size
                                    go_wp2_with (at_builtin; refine wpList_append_own _ rfl _ _ 85 rfl w0.heap.size 3 i0 (.int .i64 0) 1 8 Tryd.underlying85 hi hz0 hz1 hz2 rfl (by decide) _ _ _ rfl (hown.alloc _) ⟨wq.heap.size, 0, none⟩ 1 1 [.int .i64 p] rfl rfl ?c1 ?c2 ?c3 ?c4 ?c5 ?_)
                                    case c1 => exact int_cell _ _
                                    case c2 => intro u hu; simp at hu; subst hu; rfl
                                    case c3 => unfold maxLen; omega
                                    case c4 => omega
                                    case c5 => simp; omega
                                    intro v' w3 hown' hgrow _
                                    have hb3 : Below w0.heap.size w0 w3 := (hBq.alloc hsz _).grown hgrow (by simp; omega) (fun k hk => (hown.lt k hk).1)
                                    have HFb3 : Hid (w3.heap[gf]? = some (Obj.cells #[.int .i64 ftx, .slice (some ⟨bp, op, none⟩) n c] 99)) := hide (by
                                      have hlt := (Array.getElem?_eq_some_iff.1 HFq.out).1
                                      have h1 : (wq.alloc (Obj.cells #[.int .i64 p] 3)).heap[gf]? = some (Obj.cells #[.int .i64 ftx, .slice (some ⟨bp, op, none⟩) n c] 99) := by rw [heap_push, if_neg (by omega)]; exact HFq.out
                                      exact (hgrow.block gf (Array.getElem?_eq_some_iff.1 h1).1 (blk_type hown HFq.out Tryd.free_int.symm)).trans h1)
                                    have HO3 : Hid (w3.ownsRow w0.heap.size 3 1 v' (seen ++ [p]).length (ints (seen ++ [p]))) := hide (by
                                      rw [← ints_snocS, List.length_append]
                                      simpa using hown')
                                    have HB3 := hide hb3
                                    have HP3 := hide (pst_next HP.out HPj.out HGd.out)
                                    clear hown' hgrow hown hb3 hBq hsz
                                    go_wp2
                                    go_roundg (gk - 1)
                                    case measure => have := HG2.out; omega
                                    case rel => exact ⟨j + 1, seen ++ [p], p, by omega, by go_num, by have := HG2.out; omega, HO3, HP3, HB3, HFb3⟩
                            · rw [decide_eq_false hA] at HC1
                              have HT := hide (HBad.out (by omega))
                              clear hA hpv0
                              go_wp2_with fail
                              go_quiet (first | (go_at_call 45; with_reducible exact Calls.quiet_of_same ((HC1.out _).mono (fun _ _ h => ⟨h.1, h.2.symm⟩))) | (go_at_call 75; with_reducible exact Calls.quiet_of_same ((HC2.out _).mono (fun _ _ h => ⟨h.1, h.2.symm⟩))))
                              go_wp2_with fail
                              go_ret
                              rw [HO.out, HT.out]
                              exact ⟨rfl, HB0.out.trans ((bel_dn HB2.out).mono HB0.out.size)⟩
                          · have hjl : j = ps.length := by have := HN.out; omega
                            have HM2 := hide (mst_next HM.out HF1.out HGood.out (by rw [← hjl]; exact HP.out))
                            clear hjl
                            go_wp2_with fail
                            go_roundg (gq - 1)
                            case measure => have h1 := HGQ.out; have h2 := HG.out; omega
                            case rel => exact ⟨k + 1, seen, ftx, by omega, by go_num, by have h1 := HGQ.out; have h2 := HG.out; omega, HOwn2, HM2, HB2⟩
                    · rw [decide_eq_false (show ¬ ((1 : Int) ≤ (n : Int) ∧ (n : Int) ≤ 40) from by omega)] at HC2
                      have HT := hide (HMB.out (by omega))
                      by_cases hk9 : 0 < k
                      · obtain ⟨px, hpx, hpl⟩ := HPv.out hk9
                        have dp : decide (ftx ≤ px) = false := decide_eq_false (by omega)
                        go_wp2_with fail
                        rw [← hw1]
                        clear hw1 hc0 hc1 p0 p1 p2 p3
                        obtain ⟨p0, p1, p2, p3⟩ := HVar.out w1 HB1.out
                        have f0 : w1.cell? ⟨wr.heap.size, 0, none⟩ = some (.int .i64 ftx) := (cell_at HBl.out 0).1
                        have f1 : w1.cell? ⟨wr.heap.size, 1, none⟩ = some (.slice x n c) := (cell_at HBl.out 1).1
                        have hpx1 : w1.cell? ⟨b, off + (k - 1) * 2, none⟩ = some (.int .i64 px) := (HK1.out.cell (by exact hbl)).trans hpx
                        have hpx2 : w1.cell? ⟨b, off + ((k : Int) - 1).toNat * 2, none⟩ = some (.int .i64 px) := by rw [show ((k : Int) - 1).toNat = k - 1 from by omega]; exact hpx1
                        have hwj : IntKind.i64.wrap ((k : Int) - 1) = (k : Int) - 1 := IntWalk.i64_in _ ⟨by omega, by omega⟩
                        have hwk : wrap64 ((k : Int) - 1) = (k : Int) - 1 := wrap64_small _ (by omega) (by omega)
                        have hq0 : (0 : Int) ≤ (k : Int) - 1 := by omega
                        have hq1 : (k : Int) - 1 < (L : Int) := by omega
                        have hq2 : (1 : Int) ≤ (k : Int) := by omega
                        have hq3 : (k : Int) < (L : Int) + 1 := by omega
                        have hq4 : (k : Int) ≤ (L : Int) := by omega
                        have hq5 : 1 ≤ k := by omega
                        have dk : decide ((0 : Int) < (k : Int)) = true := decide_eq_true (by omega)
                        have dkn : decide (0 < k) = true := decide_eq_true (by omega)
                        have hpos : 0 < k := by omega
                        clear hA hB hC hpl hla hlz hpx hk9
                        go_quiet (first | (go_at_call 45; with_reducible exact Calls.quiet_of_same ((HC1.out _).mono (fun _ _ h => ⟨h.1, h.2.symm⟩))) | (go_at_call 45; with_reducible exact Calls.quiet_of_same ((HC2.out _).mono (fun _ _ h => ⟨h.1, h.2.symm⟩))))
                        go_wp2_with fail
                        go_ret
                        rw [HO.out, HT.out]
                        exact ⟨rfl, HB0.out.trans ((bel_dn HB1.out).mono HB0.out.size)⟩
                      · have dk : decide ((0 : Int) < (k : Int)) = false := decide_eq_false (by omega)
                        have dkn : decide (0 < k) = false := decide_eq_false (by omega)
                        go_wp2_with fail
                        rw [← hw1]
                        clear hw1 hc0 hc1 p0 p1 p2 p3
                        obtain ⟨p0, p1, p2, p3⟩ := HVar.out w1 HB1.out
                        have f0 : w1.cell? ⟨wr.heap.size, 0, none⟩ = some (.int .i64 ftx) := (cell_at HBl.out 0).1
                        have f1 : w1.cell? ⟨wr.heap.size, 1, none⟩ = some (.slice x n c) := (cell_at HBl.out 1).1
                        clear hA hB hC hla hlz hk9
                        go_quiet (first | (go_at_call 45; with_reducible exact Calls.quiet_of_same ((HC1.out _).mono (fun _ _ h => ⟨h.1, h.2.symm⟩))) | (go_at_call 45; with_reducible exact Calls.quiet_of_same ((HC2.out _).mono (fun _ _ h => ⟨h.1, h.2.symm⟩))))
                        go_wp2_with fail
                        go_ret
                        rw [HO.out, HT.out]
                        exact ⟨rfl, HB0.out.trans ((bel_dn HB1.out).mono HB0.out.size)⟩
                · rw [decide_eq_false hA] at HC1
                  have HT := hide (HMB.out (by omega))
                  go_wp2_with fail
                  rw [← hw1]
                  clear hw1 hc0 hc1 p0 p1 p2 p3
                  obtain ⟨p0, p1, p2, p3⟩ := HVar.out w1 HB1.out
                  have f0 : w1.cell? ⟨wr.heap.size, 0, none⟩ = some (.int .i64 ftx) := (cell_at HBl.out 0).1
                  have f1 : w1.cell? ⟨wr.heap.size, 1, none⟩ = some (.slice x n c) := (cell_at HBl.out 1).1
                  clear hA hla hlz
                  go_quiet (first | (go_at_call 45; with_reducible exact Calls.quiet_of_same ((HC1.out _).mono (fun _ _ h => ⟨h.1, h.2.symm⟩))) | (go_at_call 45; with_reducible exact Calls.quiet_of_same ((HC2.out _).mono (fun _ _ h => ⟨h.1, h.2.symm⟩))))
                  go_wp2_with fail
                  go_ret
                  rw [HO.out, HT.out]
                  exact ⟨rfl, HB0.out.trans ((bel_dn HB1.out).mono HB0.out.size)⟩
              · have HT := hide (mst_end HM.out (by rw [← HL.out]; omega))
                go_wp2_with fail
                go_ret
                rw [HO.out, HT.out]
                exact ⟨rfl, HB0.out.trans (HB.out.mono HB0.out.size)⟩
          · have dr : (root != 0) = true := by simp [hr0]
            rw [decide_eq_true (show 2 ≤ root ∧ root ≤ next - 1 from by omega)] at HIn3
            clear h3
            go_enter Tryd.func58, Tryd.ntmps58
            go_wp2_with fail
            rw [← hw0]
            clear hw0
            refine (HIn1.out _).mono ?_
            rintro e w1 ⟨rfl, rfl⟩
            go_wp2_with fail
            refine (HIn2.out _).mono ?_
            rintro e w1 ⟨rfl, rfl⟩
            go_wp2_with fail
            refine (HIn3.out _).mono ?_
            rintro e w1 ⟨rfl, rfl⟩
            clear hr0
            go_wp2_with fail
            clear c0 c1 c2 c3 dr
            go_loopg [3, 4] L (fun q sv iv wr => ∃ (k : Nat) (seen : List Int) (last : Int), k ≤ L ∧ iv = .int .i64 (k : Int) ∧ q + k = L ∧ Hid (wr.ownsRow w0.heap.size 3 1 sv seen.length (ints seen)) ∧ Hid (MSt tx root next fs k seen last) ∧ Hid (Below w0.heap.size w0 wr))
            case atStart => exact ⟨0, [root], 0, Nat.zero_le _, rfl, by omega, hide (int_one w0 root), hide (mst_start tx root next fs), hide ((Below.refl _ _).alloc (Nat.le_refl _) _)⟩
            case round =>
              obtain ⟨k, seen0, last, hk, rfl, hg, HOwn, HM, HB⟩ := hrel
              have HG := hide hg
              clear hg
              obtain ⟨gq, hgq⟩ : ∃ gq, gq = gk := ⟨_, rfl⟩
              have HGQ := hide hgq
              clear hgq
              obtain ⟨p0, p1, p2, p3⟩ := HVar.out wr HB.out
              by_cases hlt : k < L
              · obtain ⟨ftx, ps, hf⟩ : ∃ ftx ps, fs[k]? = some (ftx, ps) := ⟨_, _, List.getElem?_eq_getElem (by rw [← HL.out]; exact hlt)⟩
                obtain ⟨b, off, x, c, rfl, hbl0, hc00, hc10, hrow⟩ := frees_at HF.out hf
                have hbl : b < wr.heap.size := Nat.lt_of_lt_of_le hbl0 HB.out.size
                have hc0 := (HB.out.cell (by exact hbl0)).trans hc00
                have hc1 := (HB.out.cell (by exact hbl0)).trans hc10
                clear hc00 hc10
                obtain ⟨n, hn⟩ : ∃ n, n = ps.length := ⟨_, rfl⟩
                have hnl : n ≤ 1048576 := by rw [hn]; exact HS.out _ (List.mem_of_getElem? hf)
                have HRow := hide hrow
                rw [← hn] at hc1 HRow
                have HF1 := hide hf
                have HN := hide hn
                have hk0 : (0 : Int) ≤ (k : Int) := by omega
                have hk1 : (k : Int) < (L : Int) := by omega
                have HPv : Hid (0 < k → ∃ px, wr.cell? ⟨b, off + (k - 1) * 2, none⟩ = some (.int .i64 px) ∧ px = last) := hide (fun hp => by
                  obtain ⟨px, pps, hpx⟩ : ∃ px pps, fs[k - 1]? = some (px, pps) := ⟨_, _, List.getElem?_eq_getElem (by rw [← HL.out]; omega)⟩
                  obtain ⟨b', off', x', c', e, -, hc', -, -⟩ := frees_at (frees_below HF.out HB.out) hpx
                  injection e with e
                  injection e with e1 e2 _
                  subst e1 e2
                  exact ⟨px, hc', HM.out.2.2.2.2.1 _ hp hpx⟩)
                obtain ⟨w1, hw1⟩ : ∃ w1, w1 = wr.alloc (Obj.cells #[.int .i64 ftx, .slice x n c] 99) := ⟨_, rfl⟩
                have hbw1 : Below w0.heap.size w0 w1 := by rw [hw1]; exact HB.out.alloc HB.out.size _
                have hblk : w1.heap[wr.heap.size]? = some (Obj.cells #[.int .i64 ftx, .slice x n c] 99) := by rw [hw1]; exact heap_alloc_new wr _
                have HBl := hide hblk
                have HB1 := hide hbw1
                have HOwn1 : Hid (w1.ownsRow w0.heap.size 3 1 u3 seen0.length (ints seen0)) := hide (by rw [hw1]; exact own_stays HOwn.out ((Below.refl wr.heap.size wr).alloc (Nat.le_refl _) _))
                have HK1 : Hid (Below wr.heap.size wr w1) := hide (by rw [hw1]; exact (Below.refl wr.heap.size wr).alloc (Nat.le_refl _) _)
                clear hf hrow hn hblk hbw1
                have HC1 := hide (fun wx => in_dec ftx 1 tx wx)
                have HC2 := hide (fun wx => in_dec (n : Int) 1 40 wx)
                have HMB : Hid (¬ (last < ftx ∧ ftx ≤ tx ∧ 1 ≤ n ∧ n ≤ 40) → freesB tx next [root] 0 fs = false) := hide (fun h => mst_bad HM.out HF1.out (by rw [← HN.out]; exact h))
                have hla : 0 ≤ last := HM.out.2.2.1
                have hlz : k = 0 → last = 0 := HM.out.2.2.2.1
                by_cases hA : 1 ≤ ftx ∧ ftx ≤ tx
                · rw [decide_eq_true hA] at HC1
                  by_cases hB : 0 < k ∧ ftx ≤ last
                  · have HT := hide (HMB.out (by omega))
                    obtain ⟨px, hpx, hpl⟩ := HPv.out hB.1
                    have dp : decide (ftx ≤ px) = true := decide_eq_true (by omega)
                    go_wp2_with fail
                    rw [← hw1]
                    clear hw1 hc0 hc1 p0 p1 p2 p3
                    obtain ⟨p0, p1, p2, p3⟩ := HVar.out w1 HB1.out
                    have f0 : w1.cell? ⟨wr.heap.size, 0, none⟩ = some (.int .i64 ftx) := (cell_at HBl.out 0).1
                    have f1 : w1.cell? ⟨wr.heap.size, 1, none⟩ = some (.slice x n c) := (cell_at HBl.out 1).1
                    have hpx1 : w1.cell? ⟨b, off + (k - 1) * 2, none⟩ = some (.int .i64 px) := (HK1.out.cell (by exact hbl)).trans hpx
                    have hpx2 : w1.cell? ⟨b, off + ((k : Int) - 1).toNat * 2, none⟩ = some (.int .i64 px) := by rw [show ((k : Int) - 1).toNat = k - 1 from by omega]; exact hpx1
                    have hwj : IntKind.i64.wrap ((k : Int) - 1) = (k : Int) - 1 := IntWalk.i64_in _ ⟨by omega, by omega⟩
                    have hwk : wrap64 ((k : Int) - 1) = (k : Int) - 1 := wrap64_small _ (by omega) (by omega)
                    have hq0 : (0 : Int) ≤ (k : Int) - 1 := by omega
                    have hq1 : (k : Int) - 1 < (L : Int) := by omega
                    have hq2 : (1 : Int) ≤ (k : Int) := by omega
                    have hq3 : (k : Int) < (L : Int) + 1 := by omega
                    have hq4 : (k : Int) ≤ (L : Int) := by omega
                    have hq5 : 1 ≤ k := by omega
                    have dk : decide ((0 : Int) < (k : Int)) = true := decide_eq_true (by omega)
                    have dkn : decide (0 < k) = true := decide_eq_true (by omega)
                    have hpos : 0 < k := by omega
                    clear hA hB hpl hla hlz hpx
                    go_quiet (first | (go_at_call 45; with_reducible exact Calls.quiet_of_same ((HC1.out _).mono (fun _ _ h => ⟨h.1, h.2.symm⟩))) | (go_at_call 45; with_reducible exact Calls.quiet_of_same ((HC2.out _).mono (fun _ _ h => ⟨h.1, h.2.symm⟩))))
                    go_wp2_with fail
                    go_ret
                    rw [HO.out, HT.out]
                    exact ⟨rfl, HB0.out.trans ((bel_dn HB1.out).mono HB0.out.size)⟩
                  · by_cases hC : 1 ≤ n ∧ n ≤ 40
                    · rw [decide_eq_true (show (1 : Int) ≤ (n : Int) ∧ (n : Int) ≤ 40 from by omega)] at HC2
                      have HGood : Hid (last < ftx ∧ ftx ≤ tx ∧ 1 ≤ ps.length ∧ ps.length ≤ 40) := hide (by have := HN.out; omega)
                      by_cases hk9 : 0 < k
                      · obtain ⟨px, hpx, hpl⟩ := HPv.out hk9
                        have dp : decide (ftx ≤ px) = false := decide_eq_false (by omega)
                        go_wp2_with fail
                        rw [← hw1]
                        clear hw1 hc0 hc1 p0 p1 p2 p3
                        obtain ⟨p0, p1, p2, p3⟩ := HVar.out w1 HB1.out
                        have f0 : w1.cell? ⟨wr.heap.size, 0, none⟩ = some (.int .i64 ftx) := (cell_at HBl.out 0).1
                        have f1 : w1.cell? ⟨wr.heap.size, 1, none⟩ = some (.slice x n c) := (cell_at HBl.out 1).1
                        have hpx1 : w1.cell? ⟨b, off + (k - 1) * 2, none⟩ = some (.int .i64 px) := (HK1.out.cell (by exact hbl)).trans hpx
                        have hpx2 : w1.cell? ⟨b, off + ((k : Int) - 1).toNat * 2, none⟩ = some (.int .i64 px) := by rw [show ((k : Int) - 1).toNat = k - 1 from by omega]; exact hpx1
                        have hwj : IntKind.i64.wrap ((k : Int) - 1) = (k : Int) - 1 := IntWalk.i64_in _ ⟨by omega, by omega⟩
                        have hwk : wrap64 ((k : Int) - 1) = (k : Int) - 1 := wrap64_small _ (by omega) (by omega)
                        have hq0 : (0 : Int) ≤ (k : Int) - 1 := by omega
                        have hq1 : (k : Int) - 1 < (L : Int) := by omega
                        have hq2 : (1 : Int) ≤ (k : Int) := by omega
                        have hq3 : (k : Int) < (L : Int) + 1 := by omega
                        have hq4 : (k : Int) ≤ (L : Int) := by omega
                        have hq5 : 1 ≤ k := by omega
                        have dk : decide ((0 : Int) < (k : Int)) = true := decide_eq_true (by omega)
                        have dkn : decide (0 < k) = true := decide_eq_true (by omega)
                        have hpos : 0 < k := by omega
                        clear hA hB hpl hla hlz hpx hk9
                        go_quiet (first | (go_at_call 45; with_reducible exact Calls.quiet_of_same ((HC1.out _).mono (fun _ _ h => ⟨h.1, h.2.symm⟩))) | (go_at_call 45; with_reducible exact Calls.quiet_of_same ((HC2.out _).mono (fun _ _ h => ⟨h.1, h.2.symm⟩))))
                        clear hpx1 hpx2 hwj hwk hq0 hq1 hq2 hq3 hq4 hq5 dk dkn hpos
                        go_wp2_with fail
                        obtain ⟨gf, hgf⟩ : ∃ gf, gf = wr.heap.size := ⟨_, rfl⟩
                        rw [← hgf]
                        have HFb : Hid ((w1.drewN nq).heap[gf]? = some (Obj.cells #[.int .i64 ftx, .slice x n c] 99)) := hide (by rw [hgf]; exact HBl.out)
                        have HBd : Hid (Below w0.heap.size w0 (w1.drewN nq)) := hide (bel_dn HB1.out)
                        have HOd : Hid ((w1.drewN nq).ownsRow w0.heap.size 3 1 u3 seen0.length (ints seen0)) := hide (own_stays HOwn1.out (bel_dn (Below.refl _ _)))
                        have hs0 : seen0.length ≤ 801 := by have := HM.out.1; omega
                        clear hgf f0 f1 p0 p1 p2 p3 HBl HB1 HOwn1 HK1 HPv HOwn HB HC1 HC2
                        go_loopg [3, 6] n (fun q sv jv wi => ∃ (j : Nat) (seen : List Int) (prev : Int), j ≤ n ∧ jv = .int .i64 (j : Int) ∧ q + j = n ∧ Hid (wi.ownsRow w0.heap.size 3 1 sv seen.length (ints seen)) ∧ Hid (PSt next seen0 ps j seen prev) ∧ Hid (Below w0.heap.size w0 wi) ∧ Hid (wi.heap[gf]? = some (Obj.cells #[.int .i64 ftx, .slice x n c] 99)))
                        case atStart => exact ⟨0, seen0, 1, Nat.zero_le _, rfl, by omega, HOd, hide (pst_start next seen0 ps), HBd, HFb⟩
                        case round =>
                          clear HFb HBd HOd
                          obtain ⟨j, seen, prev, hj, rfl, hg2, HOwn2, HP, HB2, HFb2⟩ := hrel
                          have HG2 := hide hg2
                          clear hg2
                          obtain ⟨p0, p1, p2, p3⟩ := HVar.out wr HB2.out
                          have f1 : wr.cell? ⟨gf, 1, none⟩ = some (.slice x n c) := (cell_at HFb2.out 1).1
                          have hsl : seen.length ≤ 1000 := by have := HP.out.1; omega
                          by_cases hjn : j < n
                          · obtain ⟨p, hp⟩ : ∃ p, ps[j]? = some p := ⟨_, List.getElem?_eq_getElem (by have := HN.out; omega)⟩
                            obtain ⟨-, a1, cp1, e1, h0 | ⟨bp, op, e0, hbp, hcp⟩⟩ := HRow.out
                            · omega
                            injection e1 with e11 _ e12
                            subst e11 e12
                            subst e0
                            have HPc : Hid (∀ wx, Below w0.heap.size w0 wx → ∀ t z, ps[t]? = some z → wx.cell? ⟨bp, op + t, none⟩ = some (.int .i64 z)) := hide (fun wx hb t z hz => by
                              obtain ⟨ht, e⟩ := List.getElem?_eq_some_iff.1 hz
                              rw [hb.cell (by exact hbp), hcp t (by have := HN.out; omega), ints_at ps t ht, e])
                            have hpc : wr.cell? ⟨bp, op + j, none⟩ = some (.int .i64 p) := HPc.out wr HB2.out j p hp
                            have HPj := hide hp
                            have hj0 : (0 : Int) ≤ (j : Int) := by omega
                            have hj1 : (j : Int) < (n : Int) := by omega
                            have HC1 := hide (fun wx => in_dec p 2 (next - 1) wx)
                            have HC2 := hide (fun nn => l06In_any seen (by omega) p u3 (wr.drewN nn) (row_below (row_of_own HOwn2.out) (bel_dn (Below.refl _ _))))
                            have HBad : Hid (¬ (2 ≤ p ∧ p < next ∧ prev < p ∧ p ∉ seen) → freesB tx next [root] 0 fs = false) := hide (fun h => mst_none HM.out HF1.out (pst_bad HP.out HPj.out h))
                            have hpv0 : j = 0 → prev = 1 := HP.out.2.2.1
                            clear hcp hp
                            by_cases hA : 2 ≤ p ∧ p ≤ next - 1
                            · rw [decide_eq_true hA] at HC1
                              by_cases hB : 0 < j ∧ p ≤ prev
                              · have HT := hide (HBad.out (by omega))
                                have hpos := hB.1
                                have dp : decide (p ≤ prev) = true := decide_eq_true hB.2
                                have hpx : ps[j - 1]? = some prev := by
                                  obtain ⟨px, hpx⟩ : ∃ px, ps[j - 1]? = some px := ⟨_, List.getElem?_eq_getElem (by have := HN.out; omega)⟩
                                  rw [hpx, HP.out.2.2.2.1 px hpos hpx]
                                have hpx1 : wr.cell? ⟨bp, op + (j - 1), none⟩ = some (.int .i64 prev) := HPc.out wr HB2.out (j - 1) prev hpx
                                have hpx2 : wr.cell? ⟨bp, op + ((j : Int) - 1).toNat, none⟩ = some (.int .i64 prev) := by rw [show ((j : Int) - 1).toNat = j - 1 from by omega]; exact hpx1
                                have hwj : IntKind.i64.wrap ((j : Int) - 1) = (j : Int) - 1 := IntWalk.i64_in _ ⟨by omega, by omega⟩
                                have hwk : wrap64 ((j : Int) - 1) = (j : Int) - 1 := wrap64_small _ (by omega) (by omega)
                                have hq0 : (0 : Int) ≤ (j : Int) - 1 := by omega
                                have hq1 : (j : Int) - 1 < (n : Int) := by omega
                                have hq2 : (1 : Int) ≤ (j : Int) := by omega
                                have hq3 : (j : Int) < (n : Int) + 1 := by omega
                                have hq4 : (j : Int) ≤ (n : Int) := by omega
                                have hq5 : 1 ≤ j := by omega
                                have dk : decide ((0 : Int) < (j : Int)) = true := decide_eq_true (by omega)
                                have dkn : decide (0 < j) = true := decide_eq_true hpos
                                clear hpx
                                clear hA hB hpv0
                                go_wp2_with fail
                                go_quiet (first | (go_at_call 45; with_reducible exact Calls.quiet_of_same ((HC1.out _).mono (fun _ _ h => ⟨h.1, h.2.symm⟩))) | (go_at_call 75; with_reducible exact Calls.quiet_of_same ((HC2.out _).mono (fun _ _ h => ⟨h.1, h.2.symm⟩))))
                                go_wp2_with fail
                                go_ret
                                rw [HO.out, HT.out]
                                exact ⟨rfl, HB0.out.trans ((bel_dn HB2.out).mono HB0.out.size)⟩
                              · cases hin : decide (p ∈ seen) with
                                | true =>
                                  rw [hin] at HC2
                                  have HT := hide (HBad.out (fun h => h.2.2.2 (of_decide_eq_true hin)))
                                  clear hin
                                  by_cases hpos : 0 < j
                                  · have dp : decide (p ≤ prev) = false := decide_eq_false (by omega)
                                    have hpx : ps[j - 1]? = some prev := by
                                      obtain ⟨px, hpx⟩ : ∃ px, ps[j - 1]? = some px := ⟨_, List.getElem?_eq_getElem (by have := HN.out; omega)⟩
                                      rw [hpx, HP.out.2.2.2.1 px hpos hpx]
                                    have hpx1 : wr.cell? ⟨bp, op + (j - 1), none⟩ = some (.int .i64 prev) := HPc.out wr HB2.out (j - 1) prev hpx
                                    have hpx2 : wr.cell? ⟨bp, op + ((j : Int) - 1).toNat, none⟩ = some (.int .i64 prev) := by rw [show ((j : Int) - 1).toNat = j - 1 from by omega]; exact hpx1
                                    have hwj : IntKind.i64.wrap ((j : Int) - 1) = (j : Int) - 1 := IntWalk.i64_in _ ⟨by omega, by omega⟩
                                    have hwk : wrap64 ((j : Int) - 1) = (j : Int) - 1 := wrap64_small _ (by omega) (by omega)
                                    have hq0 : (0 : Int) ≤ (j : Int) - 1 := by omega
                                    have hq1 : (j : Int) - 1 < (n : Int) := by omega
                                    have hq2 : (1 : Int) ≤ (j : Int) := by omega
                                    have hq3 : (j : Int) < (n : Int) + 1 := by omega
                                    have hq4 : (j : Int) ≤ (n : Int) := by omega
                                    have hq5 : 1 ≤ j := by omega
                                    have dk : decide ((0 : Int) < (j : Int)) = true := decide_eq_true (by omega)
                                    have dkn : decide (0 < j) = true := decide_eq_true hpos
                                    clear hpx
                                    clear hA hB hpv0
                                    go_wp2_with fail
                                    go_quiet (first | (go_at_call 45; with_reducible exact Calls.quiet_of_same ((HC1.out _).mono (fun _ _ h => ⟨h.1, h.2.symm⟩))) | (go_at_call 75; with_reducible exact Calls.quiet_of_same ((HC2.out _).mono (fun _ _ h => ⟨h.1, h.2.symm⟩))))
                                    go_wp2_with fail
                                    go_ret
                                    rw [HO.out, HT.out]
                                    exact ⟨rfl, HB0.out.trans ((bel_dn HB2.out).mono HB0.out.size)⟩
                                  · clear hpv0
                                    have dk : decide ((0 : Int) < (j : Int)) = false := decide_eq_false (by omega)
                                    have dkn : decide (0 < j) = false := decide_eq_false (by omega)
                                    clear hA hB hpos
                                    go_wp2_with fail
                                    go_quiet (first | (go_at_call 45; with_reducible exact Calls.quiet_of_same ((HC1.out _).mono (fun _ _ h => ⟨h.1, h.2.symm⟩))) | (go_at_call 75; with_reducible exact Calls.quiet_of_same ((HC2.out _).mono (fun _ _ h => ⟨h.1, h.2.symm⟩))))
                                    go_wp2_with fail
                                    go_ret
                                    rw [HO.out, HT.out]
                                    exact ⟨rfl, HB0.out.trans ((bel_dn HB2.out).mono HB0.out.size)⟩
                                | false =>
                                  rw [hin] at HC2
                                  have HGd : Hid (2 ≤ p ∧ p < next ∧ prev < p ∧ p ∉ seen) := hide ⟨by omega, by omega, by omega, of_decide_eq_false hin⟩
                                  clear hin
                                  by_cases hpos : 0 < j
                                  · have dp : decide (p ≤ prev) = false := decide_eq_false (by omega)
                                    have hpx : ps[j - 1]? = some prev := by
                                      obtain ⟨px, hpx⟩ : ∃ px, ps[j - 1]? = some px := ⟨_, List.getElem?_eq_getElem (by have := HN.out; omega)⟩
                                      rw [hpx, HP.out.2.2.2.1 px hpos hpx]
                                    have hpx1 : wr.cell? ⟨bp, op + (j - 1), none⟩ = some (.int .i64 prev) := HPc.out wr HB2.out (j - 1) prev hpx
                                    have hpx2 : wr.cell? ⟨bp, op + ((j : Int) - 1).toNat, none⟩ = some (.int .i64 prev) := by rw [show ((j : Int) - 1).toNat = j - 1 from by omega]; exact hpx1
                                    have hwj : IntKind.i64.wrap ((j : Int) - 1) = (j : Int) - 1 := IntWalk.i64_in _ ⟨by omega, by omega⟩
                                    have hwk : wrap64 ((j : Int) - 1) = (j : Int) - 1 := wrap64_small _ (by omega) (by omega)
                                    have hq0 : (0 : Int) ≤ (j : Int) - 1 := by omega
                                    have hq1 : (j : Int) - 1 < (n : Int) := by omega
                                    have hq2 : (1 : Int) ≤ (j : Int) := by omega
                                    have hq3 : (j : Int) < (n : Int) + 1 := by omega
                                    have hq4 : (j : Int) ≤ (n : Int) := by omega
                                    have hq5 : 1 ≤ j := by omega
                                    have dk : decide ((0 : Int) < (j : Int)) = true := decide_eq_true (by omega)
                                    have dkn : decide (0 < j) = true := decide_eq_true hpos
                                    clear hpx
                                    clear hA hB hpv0
                                    go_wp2_with fail
                                    go_quiet (first | (go_at_call 45; with_reducible exact Calls.quiet_of_same ((HC1.out _).mono (fun _ _ h => ⟨h.1, h.2.symm⟩))) | (go_at_call 75; with_reducible exact Calls.quiet_of_same ((HC2.out _).mono (fun _ _ h => ⟨h.1, h.2.symm⟩))))
                                    clear hpx1 hpx2 hwj hwk hq0 hq1 hq2 hq3 hq4 hq5 dk dkn dp hpos
                                    obtain ⟨wq, hwq⟩ : ∃ wq, wq = wr.drewN nq := ⟨_, rfl⟩
                                    have hBq : Below w0.heap.size w0 wq := by rw [hwq]; exact bel_dn HB2.out
                                    have hown : wq.ownsRow w0.heap.size 3 1 u3 seen.length (ints seen) := by rw [hwq]; exact own_stays HOwn2.out (bel_dn (Below.refl _ _))
                                    have HFq : Hid (wq.heap[gf]? = some (Obj.cells #[.int .i64 ftx, .slice (some ⟨bp, op, none⟩) n c] 99)) := hide (by rw [hwq]; exact HFb2.out)
                                    have f1 : wq.cell? ⟨gf, 1, none⟩ = some (.slice (some ⟨bp, op, none⟩) n c) := (cell_at HFq.out 1).1
                                    have hpc : wq.cell? ⟨bp, op + j, none⟩ = some (.int .i64 p) := HPc.out wq hBq j p HPj.out
                                    rw [← hwq]
                                    clear hwq
                                    have hsz := hBq.size
                                    go_wp2_with (at_builtin; refine wpList_append_own _ rfl _ _ 85 rfl w0.heap.size 3 i0 (.int .i64 0) 1 8 Tryd.underlying85 hi hz0 hz1 hz2 rfl (by decide) _ _ _ rfl (hown.alloc _) ⟨wq.heap.size, 0, none⟩ 1 1 [.int .i64 p] rfl rfl ?c1 ?c2 ?c3 ?c4 ?c5 ?_)
                                    case c1 => exact int_cell _ _
                                    case c2 => intro u hu; simp at hu; subst hu; rfl
                                    case c3 => unfold maxLen; omega
                                    case c4 => omega
                                    case c5 => simp; omega
                                    intro v' w3 hown' hgrow _
                                    have hb3 : Below w0.heap.size w0 w3 := (hBq.alloc hsz _).grown hgrow (by simp; omega) (fun k hk => (hown.lt k hk).1)
                                    have HFb3 : Hid (w3.heap[gf]? = some (Obj.cells #[.int .i64 ftx, .slice (some ⟨bp, op, none⟩) n c] 99)) := hide (by
                                      have hlt := (Array.getElem?_eq_some_iff.1 HFq.out).1
                                      have h1 : (wq.alloc (Obj.cells #[.int .i64 p] 3)).heap[gf]? = some (Obj.cells #[.int .i64 ftx, .slice (some ⟨bp, op, none⟩) n c] 99) := by rw [heap_push, if_neg (by omega)]; exact HFq.out
                                      exact (hgrow.block gf (Array.getElem?_eq_some_iff.1 h1).1 (blk_type hown HFq.out Tryd.free_int.symm)).trans h1)
                                    have HO3 : Hid (w3.ownsRow w0.heap.size 3 1 v' (seen ++ [p]).length (ints (seen ++ [p]))) := hide (by
                                      rw [← ints_snocS, List.length_append]
                                      simpa using hown')
                                    have HB3 := hide hb3
                                    have HP3 := hide (pst_next HP.out HPj.out HGd.out)
                                    clear hown' hgrow hown hb3 hBq hsz
                                    go_wp2
                                    go_roundg (gk - 1)
                                    case measure => have := HG2.out; omega
                                    case rel => exact ⟨j + 1, seen ++ [p], p, by omega, by go_num, by have := HG2.out; omega, HO3, HP3, HB3, HFb3⟩
                                  · clear hpv0
                                    have dk : decide ((0 : Int) < (j : Int)) = false := decide_eq_false (by omega)
                                    have dkn : decide (0 < j) = false := decide_eq_false (by omega)
                                    clear hA hB hpos
                                    go_wp2_with fail
                                    go_quiet (first | (go_at_call 45; with_reducible exact Calls.quiet_of_same ((HC1.out _).mono (fun _ _ h => ⟨h.1, h.2.symm⟩))) | (go_at_call 75; with_reducible exact Calls.quiet_of_same ((HC2.out _).mono (fun _ _ h => ⟨h.1, h.2.symm⟩))))
                                    clear dk dkn
                                    obtain ⟨wq, hwq⟩ : ∃ wq, wq = wr.drewN nq := ⟨_, rfl⟩
                                    have hBq : Below w0.heap.size w0 wq := by rw [hwq]; exact bel_dn HB2.out
                                    have hown : wq.ownsRow w0.heap.size 3 1 u3 seen.length (ints seen) := by rw [hwq]; exact own_stays HOwn2.out (bel_dn (Below.refl _ _))
                                    have HFq : Hid (wq.heap[gf]? = some (Obj.cells #[.int .i64 ftx, .slice (some ⟨bp, op, none⟩) n c] 99)) := hide (by rw [hwq]; exact HFb2.out)
                                    have f1 : wq.cell? ⟨gf, 1, none⟩ = some (.slice (some ⟨bp, op, none⟩) n c) := (cell_at HFq.out 1).1
                                    have hpc : wq.cell? ⟨bp, op + j, none⟩ = some (.int .i64 p) := HPc.out wq hBq j p HPj.out
                                    rw [← hwq]
                                    clear hwq
                                    have hsz := hBq.size
                                    go_wp2_with (at_builtin; refine wpList_append_own _ rfl _ _ 85 rfl w0.heap.size 3 i0 (.int .i64 0) 1 8 Tryd.underlying85 hi hz0 hz1 hz2 rfl (by decide) _ _ _ rfl (hown.alloc _) ⟨wq.heap.size, 0, none⟩ 1 1 [.int .i64 p] rfl rfl ?c1 ?c2 ?c3 ?c4 ?c5 ?_)
                                    case c1 => exact int_cell _ _
                                    case c2 => intro u hu; simp at hu; subst hu; rfl
                                    case c3 => unfold maxLen; omega
                                    case c4 => omega
                                    case c5 => simp; omega
                                    intro v' w3 hown' hgrow _
                                    have hb3 : Below w0.heap.size w0 w3 := (hBq.alloc hsz _).grown hgrow (by simp; omega) (fun k hk => (hown.lt k hk).1)
                                    have HFb3 : Hid (w3.heap[gf]? = some (Obj.cells #[.int .i64 ftx, .slice (some ⟨bp, op, none⟩) n c] 99)) := hide (by
                                      have hlt := (Array.getElem?_eq_some_iff.1 HFq.out).1
                                      have h1 : (wq.alloc (Obj.cells #[.int .i64 p] 3)).heap[gf]? = some (Obj.cells #[.int .i64 ftx, .slice (some ⟨bp, op, none⟩) n c] 99) := by rw [heap_push, if_neg (by omega)]; exact HFq.out
                                      exact (hgrow.block gf (Array.getElem?_eq_some_iff.1 h1).1 (blk_type hown HFq.out Tryd.free_int.symm)).trans h1)
                                    have HO3 : Hid (w3.ownsRow w0.heap.size 3 1 v' (seen ++ [p]).length (ints (seen ++ [p]))) := hide (by
                                      rw [← ints_snocS, List.length_append]
                                      simpa using hown')
                                    have HB3 := hide hb3
                                    have HP3 := hide (pst_next HP.out HPj.out HGd.out)
                                    clear hown' hgrow hown hb3 hBq hsz
                                    go_wp2
                                    go_roundg (gk - 1)
                                    case measure => have := HG2.out; omega
                                    case rel => exact ⟨j + 1, seen ++ [p], p, by omega, by go_num, by have := HG2.out; omega, HO3, HP3, HB3, HFb3⟩
                            · rw [decide_eq_false hA] at HC1
                              have HT := hide (HBad.out (by omega))
                              clear hA hpv0
                              go_wp2_with fail
                              go_quiet (first | (go_at_call 45; with_reducible exact Calls.quiet_of_same ((HC1.out _).mono (fun _ _ h => ⟨h.1, h.2.symm⟩))) | (go_at_call 75; with_reducible exact Calls.quiet_of_same ((HC2.out _).mono (fun _ _ h => ⟨h.1, h.2.symm⟩))))
                              go_wp2_with fail
                              go_ret
                              rw [HO.out, HT.out]
                              exact ⟨rfl, HB0.out.trans ((bel_dn HB2.out).mono HB0.out.size)⟩
                          · have hjl : j = ps.length := by have := HN.out; omega
                            have HM2 := hide (mst_next HM.out HF1.out HGood.out (by rw [← hjl]; exact HP.out))
                            clear hjl
                            go_wp2_with fail
                            go_roundg (gq - 1)
                            case measure => have h1 := HGQ.out; have h2 := HG.out; omega
                            case rel => exact ⟨k + 1, seen, ftx, by omega, by go_num, by have h1 := HGQ.out; have h2 := HG.out; omega, HOwn2, HM2, HB2⟩
                      · have dk : decide ((0 : Int) < (k : Int)) = false := decide_eq_false (by omega)
                        have dkn : decide (0 < k) = false := decide_eq_false (by omega)
                        go_wp2_with fail
                        rw [← hw1]
                        clear hw1 hc0 hc1 p0 p1 p2 p3
                        obtain ⟨p0, p1, p2, p3⟩ := HVar.out w1 HB1.out
                        have f0 : w1.cell? ⟨wr.heap.size, 0, none⟩ = some (.int .i64 ftx) := (cell_at HBl.out 0).1
                        have f1 : w1.cell? ⟨wr.heap.size, 1, none⟩ = some (.slice x n c) := (cell_at HBl.out 1).1
                        clear hA hB hla hlz hk9
                        go_quiet (first | (go_at_call 45; with_reducible exact Calls.quiet_of_same ((HC1.out _).mono (fun _ _ h => ⟨h.1, h.2.symm⟩))) | (go_at_call 45; with_reducible exact Calls.quiet_of_same ((HC2.out _).mono (fun _ _ h => ⟨h.1, h.2.symm⟩))))
                        clear dk dkn
                        go_wp2_with fail
                        obtain ⟨gf, hgf⟩ : ∃ gf, gf = wr.heap.size := ⟨_, rfl⟩
                        rw [← hgf]
                        have HFb : Hid ((w1.drewN nq).heap[gf]? = some (Obj.cells #[.int .i64 ftx, .slice x n c] 99)) := hide (by rw [hgf]; exact HBl.out)
                        have HBd : Hid (Below w0.heap.size w0 (w1.drewN nq)) := hide (bel_dn HB1.out)
                        have HOd : Hid ((w1.drewN nq).ownsRow w0.heap.size 3 1 u3 seen0.length (ints seen0)) := hide (own_stays HOwn1.out (bel_dn (Below.refl _ _)))
                        have hs0 : seen0.length ≤ 801 := by have := HM.out.1; omega
                        clear hgf f0 f1 p0 p1 p2 p3 HBl HB1 HOwn1 HK1 HPv HOwn HB HC1 HC2
                        go_loopg [3, 6] n (fun q sv jv wi => ∃ (j : Nat) (seen : List Int) (prev : Int), j ≤ n ∧ jv = .int .i64 (j : Int) ∧ q + j = n ∧ Hid (wi.ownsRow w0.heap.size 3 1 sv seen.length (ints seen)) ∧ Hid (PSt next seen0 ps j seen prev) ∧ Hid (Below w0.heap.size w0 wi) ∧ Hid (wi.heap[gf]? = some (Obj.cells #[.int .i64 ftx, .slice x n c] 99)))
                        case atStart => exact ⟨0, seen0, 1, Nat.zero_le _, rfl, by omega, HOd, hide (pst_start next seen0 ps), HBd, HFb⟩
                        case round =>
                          clear HFb HBd HOd
                          obtain ⟨j, seen, prev, hj, rfl, hg2, HOwn2, HP, HB2, HFb2⟩ := hrel
                          have HG2 := hide hg2
                          clear hg2
                          obtain ⟨p0, p1, p2, p3⟩ := HVar.out wr HB2.out
                          have f1 : wr.cell? ⟨gf, 1, none⟩ = some (.slice x n c) := (cell_at HFb2.out 1).1
                          have hsl : seen.length ≤ 1000 := by have := HP.out.1; omega
                          by_cases hjn : j < n
                          · obtain ⟨p, hp⟩ : ∃ p, ps[j]? = some p := ⟨_, List.getElem?_eq_getElem (by have := HN.out; omega)⟩
                            obtain ⟨-, a1, cp1, e1, h0 | ⟨bp, op, e0, hbp, hcp⟩⟩ := HRow.out
                            · omega
                            injection e1 with e11 _ e12
                            subst e11 e12
                            subst e0
                            have HPc : Hid (∀ wx, Below w0.heap.size w0 wx → ∀ t z, ps[t]? = some z → wx.cell? ⟨bp, op + t, none⟩ = some (.int .i64 z)) := hide (fun wx hb t z hz => by
                              obtain ⟨ht, e⟩ := List.getElem?_eq_some_iff.1 hz
                              rw [hb.cell (by exact hbp), hcp t (by have := HN.out; omega), ints_at ps t ht, e])
                            have hpc : wr.cell? ⟨bp, op + j, none⟩ = some (.int .i64 p) := HPc.out wr HB2.out j p hp
                            have HPj := hide hp
                            have hj0 : (0 : Int) ≤ (j : Int) := by omega
                            have hj1 : (j : Int) < (n : Int) := by omega
                            have HC1 := hide (fun wx => in_dec p 2 (next - 1) wx)
                            have HC2 := hide (fun nn => l06In_any seen (by omega) p u3 (wr.drewN nn) (row_below (row_of_own HOwn2.out) (bel_dn (Below.refl _ _))))
                            have HBad : Hid (¬ (2 ≤ p ∧ p < next ∧ prev < p ∧ p ∉ seen) → freesB tx next [root] 0 fs = false) := hide (fun h => mst_none HM.out HF1.out (pst_bad HP.out HPj.out h))
                            have hpv0 : j = 0 → prev = 1 := HP.out.2.2.1
                            clear hcp hp
                            by_cases hA : 2 ≤ p ∧ p ≤ next - 1
                            · rw [decide_eq_true hA] at HC1
                              by_cases hB : 0 < j ∧ p ≤ prev
                              · have HT := hide (HBad.out (by omega))
                                have hpos := hB.1
                                have dp : decide (p ≤ prev) = true := decide_eq_true hB.2
                                have hpx : ps[j - 1]? = some prev := by
                                  obtain ⟨px, hpx⟩ : ∃ px, ps[j - 1]? = some px := ⟨_, List.getElem?_eq_getElem (by have := HN.out; omega)⟩
                                  rw [hpx, HP.out.2.2.2.1 px hpos hpx]
                                have hpx1 : wr.cell? ⟨bp, op + (j - 1), none⟩ = some (.int .i64 prev) := HPc.out wr HB2.out (j - 1) prev hpx
                                have hpx2 : wr.cell? ⟨bp, op + ((j : Int) - 1).toNat, none⟩ = some (.int .i64 prev) := by rw [show ((j : Int) - 1).toNat = j - 1 from by omega]; exact hpx1
                                have hwj : IntKind.i64.wrap ((j : Int) - 1) = (j : Int) - 1 := IntWalk.i64_in _ ⟨by omega, by omega⟩
                                have hwk : wrap64 ((j : Int) - 1) = (j : Int) - 1 := wrap64_small _ (by omega) (by omega)
                                have hq0 : (0 : Int) ≤ (j : Int) - 1 := by omega
                                have hq1 : (j : Int) - 1 < (n : Int) := by omega
                                have hq2 : (1 : Int) ≤ (j : Int) := by omega
                                have hq3 : (j : Int) < (n : Int) + 1 := by omega
                                have hq4 : (j : Int) ≤ (n : Int) := by omega
                                have hq5 : 1 ≤ j := by omega
                                have dk : decide ((0 : Int) < (j : Int)) = true := decide_eq_true (by omega)
                                have dkn : decide (0 < j) = true := decide_eq_true hpos
                                clear hpx
                                clear hA hB hpv0
                                go_wp2_with fail
                                go_quiet (first | (go_at_call 45; with_reducible exact Calls.quiet_of_same ((HC1.out _).mono (fun _ _ h => ⟨h.1, h.2.symm⟩))) | (go_at_call 75; with_reducible exact Calls.quiet_of_same ((HC2.out _).mono (fun _ _ h => ⟨h.1, h.2.symm⟩))))
                                go_wp2_with fail
                                go_ret
                                rw [HO.out, HT.out]
                                exact ⟨rfl, HB0.out.trans ((bel_dn HB2.out).mono HB0.out.size)⟩
                              · cases hin : decide (p ∈ seen) with
                                | true =>
                                  rw [hin] at HC2
                                  have HT := hide (HBad.out (fun h => h.2.2.2 (of_decide_eq_true hin)))
                                  clear hin
                                  by_cases hpos : 0 < j
                                  · have dp : decide (p ≤ prev) = false := decide_eq_false (by omega)
                                    have hpx : ps[j - 1]? = some prev := by
                                      obtain ⟨px, hpx⟩ : ∃ px, ps[j - 1]? = some px := ⟨_, List.getElem?_eq_getElem (by have := HN.out; omega)⟩
                                      rw [hpx, HP.out.2.2.2.1 px hpos hpx]
                                    have hpx1 : wr.cell? ⟨bp, op + (j - 1), none⟩ = some (.int .i64 prev) := HPc.out wr HB2.out (j - 1) prev hpx
                                    have hpx2 : wr.cell? ⟨bp, op + ((j : Int) - 1).toNat, none⟩ = some (.int .i64 prev) := by rw [show ((j : Int) - 1).toNat = j - 1 from by omega]; exact hpx1
                                    have hwj : IntKind.i64.wrap ((j : Int) - 1) = (j : Int) - 1 := IntWalk.i64_in _ ⟨by omega, by omega⟩
                                    have hwk : wrap64 ((j : Int) - 1) = (j : Int) - 1 := wrap64_small _ (by omega) (by omega)
                                    have hq0 : (0 : Int) ≤ (j : Int) - 1 := by omega
                                    have hq1 : (j : Int) - 1 < (n : Int) := by omega
                                    have hq2 : (1 : Int) ≤ (j : Int) := by omega
                                    have hq3 : (j : Int) < (n : Int) + 1 := by omega
                                    have hq4 : (j : Int) ≤ (n : Int) := by omega
                                    have hq5 : 1 ≤ j := by omega
                                    have dk : decide ((0 : Int) < (j : Int)) = true := decide_eq_true (by omega)
                                    have dkn : decide (0 < j) = true := decide_eq_true hpos
                                    clear hpx
                                    clear hA hB hpv0
                                    go_wp2_with fail
                                    go_quiet (first | (go_at_call 45; with_reducible exact Calls.quiet_of_same ((HC1.out _).mono (fun _ _ h => ⟨h.1, h.2.symm⟩))) | (go_at_call 75; with_reducible exact Calls.quiet_of_same ((HC2.out _).mono (fun _ _ h => ⟨h.1, h.2.symm⟩))))
                                    go_wp2_with fail
                                    go_ret
                                    rw [HO.out, HT.out]
                                    exact ⟨rfl, HB0.out.trans ((bel_dn HB2.out).mono HB0.out.size)⟩
                                  · clear hpv0
                                    have dk : decide ((0 : Int) < (j : Int)) = false := decide_eq_false (by omega)
                                    have dkn : decide (0 < j) = false := decide_eq_false (by omega)
                                    clear hA hB hpos
                                    go_wp2_with fail
                                    go_quiet (first | (go_at_call 45; with_reducible exact Calls.quiet_of_same ((HC1.out _).mono (fun _ _ h => ⟨h.1, h.2.symm⟩))) | (go_at_call 75; with_reducible exact Calls.quiet_of_same ((HC2.out _).mono (fun _ _ h => ⟨h.1, h.2.symm⟩))))
                                    go_wp2_with fail
                                    go_ret
                                    rw [HO.out, HT.out]
                                    exact ⟨rfl, HB0.out.trans ((bel_dn HB2.out).mono HB0.out.size)⟩
                                | false =>
                                  rw [hin] at HC2
                                  have HGd : Hid (2 ≤ p ∧ p < next ∧ prev < p ∧ p ∉ seen) := hide ⟨by omega, by omega, by omega, of_decide_eq_false hin⟩
                                  clear hin
                                  by_cases hpos : 0 < j
                                  · have dp : decide (p ≤ prev) = false := decide_eq_false (by omega)
                                    have hpx : ps[j - 1]? = some prev := by
                                      obtain ⟨px, hpx⟩ : ∃ px, ps[j - 1]? = some px := ⟨_, List.getElem?_eq_getElem (by have := HN.out; omega)⟩
                                      rw [hpx, HP.out.2.2.2.1 px hpos hpx]
                                    have hpx1 : wr.cell? ⟨bp, op + (j - 1), none⟩ = some (.int .i64 prev) := HPc.out wr HB2.out (j - 1) prev hpx
                                    have hpx2 : wr.cell? ⟨bp, op + ((j : Int) - 1).toNat, none⟩ = some (.int .i64 prev) := by rw [show ((j : Int) - 1).toNat = j - 1 from by omega]; exact hpx1
                                    have hwj : IntKind.i64.wrap ((j : Int) - 1) = (j : Int) - 1 := IntWalk.i64_in _ ⟨by omega, by omega⟩
                                    have hwk : wrap64 ((j : Int) - 1) = (j : Int) - 1 := wrap64_small _ (by omega) (by omega)
                                    have hq0 : (0 : Int) ≤ (j : Int) - 1 := by omega
                                    have hq1 : (j : Int) - 1 < (n : Int) := by omega
                                    have hq2 : (1 : Int) ≤ (j : Int) := by omega
                                    have hq3 : (j : Int) < (n : Int) + 1 := by omega
                                    have hq4 : (j : Int) ≤ (n : Int) := by omega
                                    have hq5 : 1 ≤ j := by omega
                                    have dk : decide ((0 : Int) < (j : Int)) = true := decide_eq_true (by omega)
                                    have dkn : decide (0 < j) = true := decide_eq_true hpos
                                    clear hpx
                                    clear hA hB hpv0
                                    go_wp2_with fail
                                    go_quiet (first | (go_at_call 45; with_reducible exact Calls.quiet_of_same ((HC1.out _).mono (fun _ _ h => ⟨h.1, h.2.symm⟩))) | (go_at_call 75; with_reducible exact Calls.quiet_of_same ((HC2.out _).mono (fun _ _ h => ⟨h.1, h.2.symm⟩))))
                                    clear hpx1 hpx2 hwj hwk hq0 hq1 hq2 hq3 hq4 hq5 dk dkn dp hpos
                                    obtain ⟨wq, hwq⟩ : ∃ wq, wq = wr.drewN nq := ⟨_, rfl⟩
                                    have hBq : Below w0.heap.size w0 wq := by rw [hwq]; exact bel_dn HB2.out
                                    have hown : wq.ownsRow w0.heap.size 3 1 u3 seen.length (ints seen) := by rw [hwq]; exact own_stays HOwn2.out (bel_dn (Below.refl _ _))
                                    have HFq : Hid (wq.heap[gf]? = some (Obj.cells #[.int .i64 ftx, .slice (some ⟨bp, op, none⟩) n c] 99)) := hide (by rw [hwq]; exact HFb2.out)
                                    have f1 : wq.cell? ⟨gf, 1, none⟩ = some (.slice (some ⟨bp, op, none⟩) n c) := (cell_at HFq.out 1).1
                                    have hpc : wq.cell? ⟨bp, op + j, none⟩ = some (.int .i64 p) := HPc.out wq hBq j p HPj.out
                                    rw [← hwq]
                                    clear hwq
                                    have hsz := hBq.size
                                    go_wp2_with (at_builtin; refine wpList_append_own _ rfl _ _ 85 rfl w0.heap.size 3 i0 (.int .i64 0) 1 8 Tryd.underlying85 hi hz0 hz1 hz2 rfl (by decide) _ _ _ rfl (hown.alloc _) ⟨wq.heap.size, 0, none⟩ 1 1 [.int .i64 p] rfl rfl ?c1 ?c2 ?c3 ?c4 ?c5 ?_)
                                    case c1 => exact int_cell _ _
                                    case c2 => intro u hu; simp at hu; subst hu; rfl
                                    case c3 => unfold maxLen; omega
                                    case c4 => omega
                                    case c5 => simp; omega
                                    intro v' w3 hown' hgrow _
                                    have hb3 : Below w0.heap.size w0 w3 := (hBq.alloc hsz _).grown hgrow (by simp; omega) (fun k hk => (hown.lt k hk).1)
                                    have HFb3 : Hid (w3.heap[gf]? = some (Obj.cells #[.int .i64 ftx, .slice (some ⟨bp, op, none⟩) n c] 99)) := hide (by
                                      have hlt := (Array.getElem?_eq_some_iff.1 HFq.out).1
                                      have h1 : (wq.alloc (Obj.cells #[.int .i64 p] 3)).heap[gf]? = some (Obj.cells #[.int .i64 ftx, .slice (some ⟨bp, op, none⟩) n c] 99) := by rw [heap_push, if_neg (by omega)]; exact HFq.out
                                      exact (hgrow.block gf (Array.getElem?_eq_some_iff.1 h1).1 (blk_type hown HFq.out Tryd.free_int.symm)).trans h1)
                                    have HO3 : Hid (w3.ownsRow w0.heap.size 3 1 v' (seen ++ [p]).length (ints (seen ++ [p]))) := hide (by
                                      rw [← ints_snocS, List.length_append]
                                      simpa using hown')
                                    have HB3 := hide hb3
                                    have HP3 := hide (pst_next HP.out HPj.out HGd.out)
                                    clear hown' hgrow hown hb3 hBq hsz
                                    go_wp2
                                    go_roundg (gk - 1)
                                    case measure => have := HG2.out; omega
                                    case rel => exact ⟨j + 1, seen ++ [p], p, by omega, by go_num, by have := HG2.out; omega, HO3, HP3, HB3, HFb3⟩
                                  · clear hpv0
                                    have dk : decide ((0 : Int) < (j : Int)) = false := decide_eq_false (by omega)
                                    have dkn : decide (0 < j) = false := decide_eq_false (by omega)
                                    clear hA hB hpos
                                    go_wp2_with fail
                                    go_quiet (first | (go_at_call 45; with_reducible exact Calls.quiet_of_same ((HC1.out _).mono (fun _ _ h => ⟨h.1, h.2.symm⟩))) | (go_at_call 75; with_reducible exact Calls.quiet_of_same ((HC2.out _).mono (fun _ _ h => ⟨h.1, h.2.symm⟩))))
                                    clear dk dkn
                                    obtain ⟨wq, hwq⟩ : ∃ wq, wq = wr.drewN nq := ⟨_, rfl⟩
                                    have hBq : Below w0.heap.size w0 wq := by rw [hwq]; exact bel_dn HB2.out
                                    have hown : wq.ownsRow w0.heap.size 3 1 u3 seen.length (ints seen) := by rw [hwq]; exact own_stays HOwn2.out (bel_dn (Below.refl _ _))
                                    have HFq : Hid (wq.heap[gf]? = some (Obj.cells #[.int .i64 ftx, .slice (some ⟨bp, op, none⟩) n c] 99)) := hide (by rw [hwq]; exact HFb2.out)
                                    have f1 : wq.cell? ⟨gf, 1, none⟩ = some (.slice (some ⟨bp, op, none⟩) n c) := (cell_at HFq.out 1).1
                                    have hpc : wq.cell? ⟨bp, op + j, none⟩ = some (.int .i64 p) := HPc.out wq hBq j p HPj.out
                                    rw [← hwq]
                                    clear hwq
                                    have hsz := hBq.size
                                    go_wp2_with (at_builtin; refine wpList_append_own _ rfl _ _ 85 rfl w0.heap.size 3 i0 (.int .i64 0) 1 8 Tryd.underlying85 hi hz0 hz1 hz2 rfl (by decide) _ _ _ rfl (hown.alloc _) ⟨wq.heap.size, 0, none⟩ 1 1 [.int .i64 p] rfl rfl ?c1 ?c2 ?c3 ?c4 ?c5 ?_)
                                    case c1 => exact int_cell _ _
                                    case c2 => intro u hu; simp at hu; subst hu; rfl
                                    case c3 => unfold maxLen; omega
                                    case c4 => omega
                                    case c5 => simp; omega
                                    intro v' w3 hown' hgrow _
                                    have hb3 : Below w0.heap.size w0 w3 := (hBq.alloc hsz _).grown hgrow (by simp; omega) (fun k hk => (hown.lt k hk).1)
                                    have HFb3 : Hid (w3.heap[gf]? = some (Obj.cells #[.int .i64 ftx, .slice (some ⟨bp, op, none⟩) n c] 99)) := hide (by
                                      have hlt := (Array.getElem?_eq_some_iff.1 HFq.out).1
                                      have h1 : (wq.alloc (Obj.cells #[.int .i64 p] 3)).heap[gf]? = some (Obj.cells #[.int .i64 ftx, .slice (some ⟨bp, op, none⟩) n c] 99) := by rw [heap_push, if_neg (by omega)]; exact HFq.out
                                      exact (hgrow.block gf (Array.getElem?_eq_some_iff.1 h1).1 (blk_type hown HFq.out Tryd.free_int.symm)).trans h1)
                                    have HO3 : Hid (w3.ownsRow w0.heap.size 3 1 v' (seen ++ [p]).length (ints (seen ++ [p]))) := hide (by
                                      rw [← ints_snocS, List.length_append]
                                      simpa using hown')
                                    have HB3 := hide hb3
                                    have HP3 := hide (pst_next HP.out HPj.out HGd.out)
                                    clear hown' hgrow hown hb3 hBq hsz
                                    go_wp2
                                    go_roundg (gk - 1)
                                    case measure => have := HG2.out; omega
                                    case rel => exact ⟨j + 1, seen ++ [p], p, by omega, by go_num, by have := HG2.out; omega, HO3, HP3, HB3, HFb3⟩
                            · rw [decide_eq_false hA] at HC1
                              have HT := hide (HBad.out (by omega))
                              clear hA hpv0
                              go_wp2_with fail
                              go_quiet (first | (go_at_call 45; with_reducible exact Calls.quiet_of_same ((HC1.out _).mono (fun _ _ h => ⟨h.1, h.2.symm⟩))) | (go_at_call 75; with_reducible exact Calls.quiet_of_same ((HC2.out _).mono (fun _ _ h => ⟨h.1, h.2.symm⟩))))
                              go_wp2_with fail
                              go_ret
                              rw [HO.out, HT.out]
                              exact ⟨rfl, HB0.out.trans ((bel_dn HB2.out).mono HB0.out.size)⟩
                          · have hjl : j = ps.length := by have := HN.out; omega
                            have HM2 := hide (mst_next HM.out HF1.out HGood.out (by rw [← hjl]; exact HP.out))
                            clear hjl
                            go_wp2_with fail
                            go_roundg (gq - 1)
                            case measure => have h1 := HGQ.out; have h2 := HG.out; omega
                            case rel => exact ⟨k + 1, seen, ftx, by omega, by go_num, by have h1 := HGQ.out; have h2 := HG.out; omega, HOwn2, HM2, HB2⟩
                    · rw [decide_eq_false (show ¬ ((1 : Int) ≤ (n : Int) ∧ (n : Int) ≤ 40) from by omega)] at HC2
                      have HT := hide (HMB.out (by omega))
                      by_cases hk9 : 0 < k
                      · obtain ⟨px, hpx, hpl⟩ := HPv.out hk9
                        have dp : decide (ftx ≤ px) = false := decide_eq_false (by omega)
                        go_wp2_with fail
                        rw [← hw1]
                        clear hw1 hc0 hc1 p0 p1 p2 p3
                        obtain ⟨p0, p1, p2, p3⟩ := HVar.out w1 HB1.out
                        have f0 : w1.cell? ⟨wr.heap.size, 0, none⟩ = some (.int .i64 ftx) := (cell_at HBl.out 0).1
                        have f1 : w1.cell? ⟨wr.heap.size, 1, none⟩ = some (.slice x n c) := (cell_at HBl.out 1).1
                        have hpx1 : w1.cell? ⟨b, off + (k - 1) * 2, none⟩ = some (.int .i64 px) := (HK1.out.cell (by exact hbl)).trans hpx
                        have hpx2 : w1.cell? ⟨b, off + ((k : Int) - 1).toNat * 2, none⟩ = some (.int .i64 px) := by rw [show ((k : Int) - 1).toNat = k - 1 from by omega]; exact hpx1
                        have hwj : IntKind.i64.wrap ((k : Int) - 1) = (k : Int) - 1 := IntWalk.i64_in _ ⟨by omega, by omega⟩
                        have hwk : wrap64 ((k : Int) - 1) = (k : Int) - 1 := wrap64_small _ (by omega) (by omega)
                        have hq0 : (0 : Int) ≤ (k : Int) - 1 := by omega
                        have hq1 : (k : Int) - 1 < (L : Int) := by omega
                        have hq2 : (1 : Int) ≤ (k : Int) := by omega
                        have hq3 : (k : Int) < (L : Int) + 1 := by omega
                        have hq4 : (k : Int) ≤ (L : Int) := by omega
                        have hq5 : 1 ≤ k := by omega
                        have dk : decide ((0 : Int) < (k : Int)) = true := decide_eq_true (by omega)
                        have dkn : decide (0 < k) = true := decide_eq_true (by omega)
                        have hpos : 0 < k := by omega
                        clear hA hB hC hpl hla hlz hpx hk9
                        go_quiet (first | (go_at_call 45; with_reducible exact Calls.quiet_of_same ((HC1.out _).mono (fun _ _ h => ⟨h.1, h.2.symm⟩))) | (go_at_call 45; with_reducible exact Calls.quiet_of_same ((HC2.out _).mono (fun _ _ h => ⟨h.1, h.2.symm⟩))))
                        go_wp2_with fail
                        go_ret
                        rw [HO.out, HT.out]
                        exact ⟨rfl, HB0.out.trans ((bel_dn HB1.out).mono HB0.out.size)⟩
                      · have dk : decide ((0 : Int) < (k : Int)) = false := decide_eq_false (by omega)
                        have dkn : decide (0 < k) = false := decide_eq_false (by omega)
                        go_wp2_with fail
                        rw [← hw1]
                        clear hw1 hc0 hc1 p0 p1 p2 p3
                        obtain ⟨p0, p1, p2, p3⟩ := HVar.out w1 HB1.out
                        have f0 : w1.cell? ⟨wr.heap.size, 0, none⟩ = some (.int .i64 ftx) := (cell_at HBl.out 0).1
                        have f1 : w1.cell? ⟨wr.heap.size, 1, none⟩ = some (.slice x n c) := (cell_at HBl.out 1).1
                        clear hA hB hC hla hlz hk9
                        go_quiet (first | (go_at_call 45; with_reducible exact Calls.quiet_of_same ((HC1.out _).mono (fun _ _ h => ⟨h.1, h.2.symm⟩))) | (go_at_call 45; with_reducible exact Calls.quiet_of_same ((HC2.out _).mono (fun _ _ h => ⟨h.1, h.2.symm⟩))))
                        go_wp2_with fail
                        go_ret
                        rw [HO.out, HT.out]
                        exact ⟨rfl, HB0.out.trans ((bel_dn HB1.out).mono HB0.out.size)⟩
                · rw [decide_eq_false hA] at HC1
                  have HT := hide (HMB.out (by omega))
                  go_wp2_with fail
                  rw [← hw1]
                  clear hw1 hc0 hc1 p0 p1 p2 p3
                  obtain ⟨p0, p1, p2, p3⟩ := HVar.out w1 HB1.out
                  have f0 : w1.cell? ⟨wr.heap.size, 0, none⟩ = some (.int .i64 ftx) := (cell_at HBl.out 0).1
                  have f1 : w1.cell? ⟨wr.heap.size, 1, none⟩ = some (.slice x n c) := (cell_at HBl.out 1).1
                  clear hA hla hlz
                  go_quiet (first | (go_at_call 45; with_reducible exact Calls.quiet_of_same ((HC1.out _).mono (fun _ _ h => ⟨h.1, h.2.symm⟩))) | (go_at_call 45; with_reducible exact Calls.quiet_of_same ((HC2.out _).mono (fun _ _ h => ⟨h.1, h.2.symm⟩))))
                  go_wp2_with fail
                  go_ret
                  rw [HO.out, HT.out]
                  exact ⟨rfl, HB0.out.trans ((bel_dn HB1.out).mono HB0.out.size)⟩
              · have HT := hide (mst_end HM.out (by rw [← HL.out]; omega))
                go_wp2_with fail
                go_ret
                rw [HO.out, HT.out]
                exact ⟨rfl, HB0.out.trans (HB.out.mono HB0.out.size)⟩
        · have HO := hide (HOk1.out (by rw [headOkB, decide_eq_false]; omega))
          have d4 : decide ((20 : Int) < (L : Int)) = true := decide_eq_true (by omega)
          by_cases hr0 : root = 0
          · have dr : (root != 0) = false := by simp [hr0]
            clear h3 hr0
            go_enter Tryd.func58, Tryd.ntmps58
            go_wp2_with fail
            rw [← hw0]
            clear hw0
            refine (HIn1.out _).mono ?_
            rintro e w1 ⟨rfl, rfl⟩
            go_wp2_with fail
            refine (HIn2.out _).mono ?_
            rintro e w1 ⟨rfl, rfl⟩
            go_wp2_with fail
            go_ret
            rw [HO.out]
            exact ⟨rfl, HB0.out⟩
          · have dr : (root != 0) = true := by simp [hr0]
            rw [decide_eq_true (show 2 ≤ root ∧ root ≤ next - 1 from by omega)] at HIn3
            clear h3 hr0
            go_enter Tryd.func58, Tryd.ntmps58
            go_wp2_with fail
            rw [← hw0]
            clear hw0
            refine (HIn1.out _).mono ?_
            rintro e w1 ⟨rfl, rfl⟩
            go_wp2_with fail
            refine (HIn2.out _).mono ?_
            rintro e w1 ⟨rfl, rfl⟩
            go_wp2_with fail
            refine (HIn3.out _).mono ?_
            rintro e w1 ⟨rfl, rfl⟩
            go_wp2_with fail
            go_ret
            rw [HO.out]
            exact ⟨rfl, HB0.out⟩
    · rw [decide_eq_false h2] at HIn2
      have HO := hide (HOk1.out (by rw [headOkB, decide_eq_false]; omega))
      clear h1 h2
      go_enter Tryd.func58, Tryd.ntmps58
      go_wp2_with fail
      rw [← hw0]
      clear hw0
      refine (HIn1.out _).mono ?_
      rintro e w1 ⟨rfl, rfl⟩
      go_wp2_with fail
      refine (HIn2.out _).mono ?_
      rintro e w1 ⟨rfl, rfl⟩
      go_wp2_with fail
      go_ret
      rw [HO.out]
      exact ⟨rfl, HB0.out⟩
  · rw [decide_eq_false h1] at HIn1
    have HO := hide (HOk1.out (by rw [headOkB, decide_eq_false]; omega))
    clear h1
    go_enter Tryd.func58, Tryd.ntmps58
    go_wp2_with fail
    rw [← hw0]
    clear hw0
    refine (HIn1.out _).mono ?_
    rintro e w1 ⟨rfl, rfl⟩
    go_wp2_with fail
    go_ret
    rw [HO.out]
    exact ⟨rfl, HB0.out⟩
end Go.Proofs.YtmmepgincbngeaaDoor
