/-
  Facts and contracts that the law's own text rests on, by their texts' names: NodeSpec, Sum.
-/
import Derived.Laws.Cover1
import Derived.Test.YtdbpbhemnnffeaaGreatDoorXw2
import Derived.Test.YtdbpbhemnnffeaaGreatDoorXw3
import Derived.Test.YtdbpbhemnnffeaaGreatDoorXw8
import Derived.Below
import Derived.BigQuiet
import Derived.Deep.LoopGhost
import Derived.Deep.QuietTactic
import Derived.Laws.BitsAllLaws
import Derived.Laws.Shifts
import Derived.Outline
import Derived.WalkSmall
import Derived.WalkSpells
import Derived.Test.YtdbpbhemnnffeaaGreatDoorXw1
namespace Go.Proofs.YtdbpbhemnnffeaaGreatDoor
open Go.RowKit
theorem l01In_dec (x a b : Int) (w : World) : Calls Tryz.prog 86 #[.int .i64 x, .int .i64 a, .int .i64 b] w fun e w' => e = .returned (.bool (decide (a ≤ x ∧ x ≤ b))) ∧ w = w' := by
  by_cases h : a ≤ x ∧ x ≤ b
  · rw [decide_eq_true h]; exact l01In_yes x a b w h.1 h.2
  · rw [decide_eq_false h]; exact l01In_no x a b w (by omega)
def pairsOk (lf : Bool) (ks vs : List ByteArray) (cs : List Int) (i : Nat) : Prop := ∀ j, j < i → keyB ks j = true ∧ (lf = true → (vs.getD j ⟨#[]⟩).size ≤ 24) ∧ (lf = false → kidB cs j = true)
theorem pairs_all {lf : Bool} {ks vs : List ByteArray} {cs : List Int} (h0 : cntB lf ks.length vs.length cs.length = true) (h : pairsOk lf ks vs cs ks.length) : nodeOkB lf ks vs cs = true := by
  obtain ⟨-, -, h3, h4⟩ := cnt_yes h0
  refine node_all h0 (fun i hi => (h i hi).1) (fun i hi => ?_) (fun i hi => ?_)
  · cases lf with
    | true => exact (h i (by have := (h3 rfl).1; omega)).2.1 rfl
    | false => have := (h4 rfl).2; omega
  · cases lf with
    | true => have := (h3 rfl).2; omega
    | false => exact (h i (by have := (h4 rfl).1; omega)).2.2 rfl
theorem bel_n {w w1 : World} (h : Below w.heap.size w w1) {n : Nat} : Below w.heap.size w (w1.drewN n) := below_drewN h n
theorem cnt_no1 {lf : Bool} {nk nv nc : Nat} (h : ¬ (1 ≤ nk ∧ nk ≤ 4)) : cntB lf nk nv nc = false := by rw [cntB, decide_eq_false h]; rfl
theorem cnt_leaf {nk nv nc : Nat} (h : 1 ≤ nk ∧ nk ≤ 4) : cntB true nk nv nc = decide (nv = nk ∧ nc = 0) := by rw [cntB, decide_eq_true h, if_pos rfl]; rfl
theorem cnt_else {nk nv nc : Nat} (h : 1 ≤ nk ∧ nk ≤ 4) : cntB false nk nv nc = decide (nc = nk ∧ nv = 0) := by rw [cntB, decide_eq_true h, if_neg (by decide)]; rfl
set_option maxHeartbeats 4000000 in
set_option maxRecDepth 100000 in
theorem specNodeOk_any (v : Value) (lf : Bool) (ks vs : List ByteArray) (cs : List Int) (hk : ks.length ≤ 1048576) (hv : vs.length ≤ 1048576) (hc : cs.length ≤ 1048576) (hks : ∀ s ∈ ks, s.size ≤ 1048576) (hvs : ∀ s ∈ vs, s.size ≤ 1048576) (w : World) (hd : NodeAt w v lf ks vs cs) :
    Calls Tryz.prog 95 #[v] w fun e w' => e = .returned (.bool (nodeOkB lf ks vs cs)) ∧ Below w.heap.size w w' := by
  obtain ⟨vk, vv, vc, rfl, h1, h2, h3⟩ := hd
  obtain ⟨xk, ck, rfl⟩ : ∃ a cap, vk = .slice a ks.length cap := by obtain ⟨-, a, cap, e, -⟩ := h1; exact ⟨a, cap, e⟩
  obtain ⟨xv, cv, rfl⟩ : ∃ a cap, vv = .slice a vs.length cap := by obtain ⟨-, a, cap, e, -⟩ := h2; exact ⟨a, cap, e⟩
  obtain ⟨xc, cc, rfl⟩ : ∃ a cap, vc = .slice a cs.length cap := by obtain ⟨-, a, cap, e, -⟩ := h3; exact ⟨a, cap, e⟩
  obtain ⟨w0, hw0⟩ : ∃ w0, w0 = w.alloc (Obj.cells #[.bool lf, .slice xk ks.length ck, .slice xv vs.length cv, .slice xc cs.length cc] 129) := ⟨_, rfl⟩
  have hb0 : Below w.heap.size w w0 := by rw [hw0]; exact (Below.refl w.heap.size w).alloc (Nat.le_refl _) _
  have hblk : w0.heap[w.heap.size]? = some (Obj.cells #[.bool lf, .slice xk ks.length ck, .slice xv vs.length cv, .slice xc cs.length cc] 129) := by rw [hw0]; exact heap_alloc_new w _
  have c0 : w0.cell? ⟨w.heap.size, 0, none⟩ = some (.bool lf) := (cell_at hblk 0).1
  have c1 : w0.cell? ⟨w.heap.size, 1, none⟩ = some (.slice xk ks.length ck) := (cell_at hblk 1).1
  have c2 : w0.cell? ⟨w.heap.size, 2, none⟩ = some (.slice xv vs.length cv) := (cell_at hblk 2).1
  have c3 : w0.cell? ⟨w.heap.size, 3, none⟩ = some (.slice xc cs.length cc) := (cell_at hblk 3).1
  have HIn := hide (l01In_dec (ks.length : Int) 1 4)
  have HB0 := hide hb0
  have HR := hide (⟨row_below h1 hb0, row_below h2 hb0, row_below h3 hb0⟩ : _ ∧ _ ∧ _)
  have HPb : Hid (∀ wx, Below w0.heap.size w0 wx → wx.cell? ⟨w.heap.size, 0, none⟩ = some (.bool lf) ∧ wx.cell? ⟨w.heap.size, 1, none⟩ = some (.slice xk ks.length ck) ∧ wx.cell? ⟨w.heap.size, 2, none⟩ = some (.slice xv vs.length cv) ∧ wx.cell? ⟨w.heap.size, 3, none⟩ = some (.slice xc cs.length cc)) := hide (fun wx hb => by
    have hq := (hb.block _ (Array.getElem?_eq_some_iff.1 hblk).1).trans hblk
    exact ⟨(cell_at hq 0).1, (cell_at hq 1).1, (cell_at hq 2).1, (cell_at hq 3).1⟩)
  have HSz := hide (⟨hks, hvs⟩ : _ ∧ _)
  clear h1 h2 h3 hb0 hblk hks hvs
  by_cases hn : 1 ≤ ks.length ∧ ks.length ≤ 4
  · rw [decide_eq_true (show (1 : Int) ≤ (ks.length : Int) ∧ (ks.length : Int) ≤ 4 from by omega)] at HIn
    cases lf with
    | true =>
      have HCn := hide (cnt_leaf (nv := vs.length) (nc := cs.length) hn)
      by_cases hnv : vs.length = ks.length
      · have d1 : ((vs.length : Int) != (ks.length : Int)) = false := by rw [hnv]; simp
        by_cases hnc : cs.length = 0
        · have d2 : ((cs.length : Int) != 0) = false := by rw [hnc]; rfl
          have HCt : Hid (cntB true ks.length vs.length cs.length = true) := hide (by rw [HCn.out]; exact decide_eq_true ⟨hnv, hnc⟩)
          have HNv := hide hnv
          have HNc := hide hnc
          clear hnv hnc HCn
          go_enter Tryz.func95, Tryz.ntmps95
          go_wp2_with fail
          rw [← hw0]
          clear hw0
          refine (HIn.out _).mono ?_
          rintro e w1 ⟨rfl, rfl⟩
          go_wp2_with fail
          clear d1 d2 c0 c1 c2 c3
          go_loopg [4] ks.length (fun q iv wr => ∃ i : Nat, i ≤ ks.length ∧ iv = .int .i64 (i : Int) ∧ q + i = ks.length ∧ Hid (pairsOk true ks vs cs i) ∧ Hid (Below w0.heap.size w0 wr))
          case atStart => exact ⟨0, Nat.zero_le _, rfl, rfl, hide (fun j hj => by omega), hide (Below.refl _ _)⟩
          case round =>
            obtain ⟨i, hi, rfl, hg, HA, HB⟩ := hrel
            have HG := hide hg
            clear hg
            obtain ⟨p0, p1, p2, p3⟩ := HPb.out wr HB.out
            by_cases hlt : i < ks.length
            · obtain ⟨-, a1, cp1, e1, h0 | ⟨bk, ok, e0, hbk, hck⟩⟩ := HR.out.1
              · omega
              injection e1 with e11 _ e12
              subst e11 e12
              subst e0
              obtain ⟨x, hx⟩ : ∃ x, x = ks.getD i ⟨#[]⟩ := ⟨_, rfl⟩
              have hxc : wr.cell? ⟨bk, ok + i, none⟩ = some (.string x) := by rw [HB.out.cell (by exact hbk), hck i (by omega), strs_at ks i hlt, hx]; simp [List.getD, hlt]
              have HX := hide hx
              have hi0 : (0 : Int) ≤ (i : Int) := by omega
              have hi1 : (i : Int) < (ks.length : Int) := by omega
              have hxs : x.size ≤ 1048576 := by rw [hx]; simp only [List.getD, List.getElem?_eq_getElem hlt, Option.getD_some]; exact HSz.out.1 _ (List.getElem_mem hlt)
              have hlv : i < vs.length := by have := HNv.out; omega
              obtain ⟨-, a2, cp2, e2, h0 | ⟨bv, ov, e3, hbv, hcv⟩⟩ := HR.out.2.1
              · omega
              injection e2 with e21 _ e22
              subst e21 e22
              subst e3
              obtain ⟨z, hz⟩ : ∃ z, z = vs.getD i ⟨#[]⟩ := ⟨_, rfl⟩
              have hzc : wr.cell? ⟨bv, ov + i, none⟩ = some (.string z) := by rw [HB.out.cell (by exact hbv), hcv i (by omega), strs_at vs i hlv, hz]; simp [List.getD, hlv]
              have HZ := hide hz
              have hiv : (i : Int) < (vs.length : Int) := by omega
              have hzs : z.size ≤ 1048576 := by rw [hz]; simp only [List.getD, List.getElem?_eq_getElem hlv, Option.getD_some]; exact HSz.out.2 _ (List.getElem_mem hlv)
              clear hcv hz
              by_cases hbig : 24 < x.size
              · have HO : Hid (nodeOkB true ks vs cs = false) := hide (node_key hlt (by rw [keyB, decide_eq_false (by rw [← HX.out]; omega)]; rfl))
                have dx : decide ((24 : Int) < (x.size : Int)) = true := by simp; omega
                clear hx hck
                go_wp2_with fail
                try (go_quiet (fail); go_wp2_with fail)
                try (go_quiet (fail); go_wp2_with fail)
                go_ret
                rw [HO.out]
                exact ⟨rfl, HB0.out.trans ((bel_n HB.out).mono HB0.out.size)⟩
              · have dx : decide ((24 : Int) < (x.size : Int)) = false := by simp; omega
                by_cases hz0 : i = 0
                · subst hz0
                  have HKy : Hid (keyB ks 0 = true) := hide (by rw [keyB, decide_eq_true (by rw [← HX.out]; omega)]; rfl)
                  have hxc0 : wr.cell? ⟨bk, ok, none⟩ = some (.string x) := hxc
                  have hl0 : (0 : Int) < (ks.length : Int) := by omega
                  have hzc0 : wr.cell? ⟨bv, ov, none⟩ = some (.string z) := hzc
                  have hlv0 : (0 : Int) < (vs.length : Int) := by omega
                  clear hzc hiv hlv
                  clear hx hck hxc hi0 hi1
                  by_cases hz : 24 < z.size
                  · have HO : Hid (nodeOkB true ks vs cs = false) := hide (node_val (i := 0) (by have := HNv.out; omega) (by rw [← HZ.out]; exact hz))
                    have dz : decide ((24 : Int) < (z.size : Int)) = true := by simp; omega
                    go_wp2_with fail
                    try (go_quiet (fail); go_wp2_with fail)
                    try (go_quiet (fail); go_wp2_with fail)
                    go_ret
                    rw [HO.out]
                    exact ⟨rfl, HB0.out.trans ((bel_n HB.out).mono HB0.out.size)⟩
                  · have dz : decide ((24 : Int) < (z.size : Int)) = false := by simp; omega
                    have HA2 : Hid (pairsOk true ks vs cs (0 + 1)) := hide (fun t ht => by
                      by_cases e : t = 0
                      · rw [e]; exact ⟨HKy.out, fun _ => by rw [← HZ.out]; omega, fun h => by cases h⟩
                      · exact HA.out t (by omega))
                    go_wp2_with fail
                    try (go_quiet (fail); go_wp2_with fail)
                    try (go_quiet (fail); go_wp2_with fail)
                    go_roundg (gk - 1)
                    case measure => have := HG.out; omega
                    case rel => exact ⟨0 + 1, by omega, by go_num, by have := HG.out; omega, HA2, hide (bel_n HB.out)⟩
                · obtain ⟨j, hj⟩ : ∃ j, i = j + 1 := ⟨i - 1, by omega⟩
                  obtain ⟨y, hy⟩ : ∃ y, y = ks.getD j ⟨#[]⟩ := ⟨_, rfl⟩
                  have hyc : wr.cell? ⟨bk, ok + j, none⟩ = some (.string y) := by rw [HB.out.cell (by exact hbk), hck j (by omega), strs_at ks j (by omega), hy]; simp [List.getD, show j < ks.length by omega]
                  have HYy := hide hy
                  have hj0 : (0 : Int) ≤ (j : Int) := by omega
                  have hj1 : (j : Int) < (ks.length : Int) := by omega
                  have hpos : 0 < i := by omega
                  have di : decide ((0 : Int) < (i : Int)) = true := decide_eq_true (by omega)
                  have hwj : IntKind.i64.wrap ((i : Int) - 1) = (i : Int) - 1 := IntWalk.i64_in _ ⟨by omega, by omega⟩
                  have hwk : wrap64 ((i : Int) - 1) = (i : Int) - 1 := wrap64_small _ (by omega) (by omega)
                  have hb0 : (0 : Int) ≤ (i : Int) - 1 := by omega
                  have hb1 : (i : Int) - 1 < (ks.length : Int) := by omega
                  have hb2 : (1 : Int) ≤ (i : Int) := by omega
                  have hb3 : (i : Int) < (ks.length : Int) + 1 := by omega
                  have hb4 : (i : Int) ≤ (ks.length : Int) := by omega
                  have hb5 : 1 ≤ i := by omega
                  have hyc1 : wr.cell? ⟨bk, ok + ((i : Int) - 1).toNat, none⟩ = some (.string y) := by rw [show ((i : Int) - 1).toNat = j from by omega]; exact hyc
                  have hyc2 : wr.cell? ⟨bk, ok + (i - 1), none⟩ = some (.string y) := by rw [show i - 1 = j from by omega]; exact hyc
                  obtain ⟨lt, hlt2⟩ : ∃ lt, Op.bytesLess y.toList x.toList = lt := ⟨_, rfl⟩
                  have hKe : keyB ks i = lt := by
                    rw [keyB, decide_eq_true (by rw [← HX.out]; omega), decide_eq_false hz0, hj, Nat.add_sub_cancel, ← hj, ← HX.out, ← HYy.out, hlt2]; rfl
                  clear hx hck hy hz0 hj
                  cases lt with
                  | false =>
                    have HO : Hid (nodeOkB true ks vs cs = false) := hide (node_key hlt hKe)
                    clear hKe
                    go_wp2_with fail
                    try (go_quiet (fail); go_wp2_with fail)
                    try (go_quiet (fail); go_wp2_with fail)
                    go_ret
                    rw [HO.out]
                    exact ⟨rfl, HB0.out.trans ((bel_n HB.out).mono HB0.out.size)⟩
                  | true =>
                    have HKy := hide hKe
                    clear hKe
                    by_cases hz : 24 < z.size
                    · have HO : Hid (nodeOkB true ks vs cs = false) := hide (node_val (i := i) (by have := HNv.out; omega) (by rw [← HZ.out]; exact hz))
                      have dz : decide ((24 : Int) < (z.size : Int)) = true := by simp; omega
                      go_wp2_with fail
                      try (go_quiet (fail); go_wp2_with fail)
                      try (go_quiet (fail); go_wp2_with fail)
                      go_ret
                      rw [HO.out]
                      exact ⟨rfl, HB0.out.trans ((bel_n HB.out).mono HB0.out.size)⟩
                    · have dz : decide ((24 : Int) < (z.size : Int)) = false := by simp; omega
                      have HA2 : Hid (pairsOk true ks vs cs (i + 1)) := hide (fun t ht => by
                        by_cases e : t = i
                        · rw [e]; exact ⟨HKy.out, fun _ => by rw [← HZ.out]; omega, fun h => by cases h⟩
                        · exact HA.out t (by omega))
                      go_wp2_with fail
                      try (go_quiet (fail); go_wp2_with fail)
                      try (go_quiet (fail); go_wp2_with fail)
                      go_roundg (gk - 1)
                      case measure => have := HG.out; omega
                      case rel => exact ⟨i + 1, by omega, by go_num, by have := HG.out; omega, HA2, hide (bel_n HB.out)⟩
            · have HO : Hid (nodeOkB true ks vs cs = true) := hide (pairs_all HCt.out (fun j hj => HA.out j (by omega)))
              go_wp2_with fail
              go_ret
              rw [HO.out]
              exact ⟨rfl, HB0.out.trans (HB.out.mono HB0.out.size)⟩
        · have d2 : ((cs.length : Int) != 0) = true := by rw [bne_iff_ne]; omega
          have HO : Hid (nodeOkB true ks vs cs = false) := hide (node_cnt (by rw [HCn.out]; exact decide_eq_false (fun h => hnc h.2)))
          clear hnv hnc HCn
          go_enter Tryz.func95, Tryz.ntmps95
          go_wp2_with fail
          rw [← hw0]
          clear hw0
          refine (HIn.out _).mono ?_
          rintro e w1 ⟨rfl, rfl⟩
          go_wp2_with fail
          go_ret
          rw [HO.out]
          exact ⟨rfl, HB0.out⟩
      · have d1 : ((vs.length : Int) != (ks.length : Int)) = true := by simp; omega
        have HO : Hid (nodeOkB true ks vs cs = false) := hide (node_cnt (by rw [HCn.out]; exact decide_eq_false (fun h => hnv h.1)))
        clear hnv HCn
        go_enter Tryz.func95, Tryz.ntmps95
        go_wp2_with fail
        rw [← hw0]
        clear hw0
        refine (HIn.out _).mono ?_
        rintro e w1 ⟨rfl, rfl⟩
        go_wp2_with fail
        go_ret
        rw [HO.out]
        exact ⟨rfl, HB0.out⟩
    | false =>
      have HCn := hide (cnt_else (nv := vs.length) (nc := cs.length) hn)
      by_cases hnv : cs.length = ks.length
      · have d1 : ((cs.length : Int) != (ks.length : Int)) = false := by rw [hnv]; simp
        by_cases hnc : vs.length = 0
        · have d2 : ((vs.length : Int) != 0) = false := by rw [hnc]; rfl
          have HCt : Hid (cntB false ks.length vs.length cs.length = true) := hide (by rw [HCn.out]; exact decide_eq_true ⟨hnv, hnc⟩)
          have HNv := hide hnv
          have HNc := hide hnc
          clear hnv hnc HCn
          go_enter Tryz.func95, Tryz.ntmps95
          go_wp2_with fail
          rw [← hw0]
          clear hw0
          refine (HIn.out _).mono ?_
          rintro e w1 ⟨rfl, rfl⟩
          go_wp2_with fail
          clear d1 d2 c0 c1 c2 c3
          go_loopg [4] ks.length (fun q iv wr => ∃ i : Nat, i ≤ ks.length ∧ iv = .int .i64 (i : Int) ∧ q + i = ks.length ∧ Hid (pairsOk false ks vs cs i) ∧ Hid (Below w0.heap.size w0 wr))
          case atStart => exact ⟨0, Nat.zero_le _, rfl, rfl, hide (fun j hj => by omega), hide (Below.refl _ _)⟩
          case round =>
            obtain ⟨i, hi, rfl, hg, HA, HB⟩ := hrel
            have HG := hide hg
            clear hg
            obtain ⟨p0, p1, p2, p3⟩ := HPb.out wr HB.out
            by_cases hlt : i < ks.length
            · obtain ⟨-, a1, cp1, e1, h0 | ⟨bk, ok, e0, hbk, hck⟩⟩ := HR.out.1
              · omega
              injection e1 with e11 _ e12
              subst e11 e12
              subst e0
              obtain ⟨x, hx⟩ : ∃ x, x = ks.getD i ⟨#[]⟩ := ⟨_, rfl⟩
              have hxc : wr.cell? ⟨bk, ok + i, none⟩ = some (.string x) := by rw [HB.out.cell (by exact hbk), hck i (by omega), strs_at ks i hlt, hx]; simp [List.getD, hlt]
              have HX := hide hx
              have hi0 : (0 : Int) ≤ (i : Int) := by omega
              have hi1 : (i : Int) < (ks.length : Int) := by omega
              have hxs : x.size ≤ 1048576 := by rw [hx]; simp only [List.getD, List.getElem?_eq_getElem hlt, Option.getD_some]; exact HSz.out.1 _ (List.getElem_mem hlt)
              have hlc : i < cs.length := by have := HNv.out; omega
              obtain ⟨-, a2, cp2, e2, h0 | ⟨bc, oc, e3, hbc, hcc⟩⟩ := HR.out.2.2
              · omega
              injection e2 with e21 _ e22
              subst e21 e22
              subst e3
              obtain ⟨q, hq⟩ : ∃ z, z = cs.getD i 0 := ⟨_, rfl⟩
              have HCc : Hid (∀ wx, Below w0.heap.size w0 wx → ∀ t (h : t < cs.length), wx.cell? ⟨bc, oc + t, none⟩ = some (.int .i64 (cs.getD t 0))) := hide (fun wx hb t h => by rw [hb.cell (by exact hbc), hcc t (by omega), ints_at cs t h]; simp [List.getD, h])
              have hqc : wr.cell? ⟨bc, oc + i, none⟩ = some (.int .i64 q) := by rw [hq]; exact HCc.out wr HB.out i hlc
              have HQ := hide hq
              have hic : (i : Int) < (cs.length : Int) := by omega
              have HIk := hide (l01In_dec q 2 39)
              clear hcc hq
              by_cases hbig : 24 < x.size
              · have HO : Hid (nodeOkB false ks vs cs = false) := hide (node_key hlt (by rw [keyB, decide_eq_false (by rw [← HX.out]; omega)]; rfl))
                have dx : decide ((24 : Int) < (x.size : Int)) = true := by simp; omega
                clear hx hck
                go_wp2_with fail
                try (go_quiet (fail); go_wp2_with fail)
                try (go_quiet (fail); go_wp2_with fail)
                go_ret
                rw [HO.out]
                exact ⟨rfl, HB0.out.trans ((bel_n HB.out).mono HB0.out.size)⟩
              · have dx : decide ((24 : Int) < (x.size : Int)) = false := by simp; omega
                by_cases hz0 : i = 0
                · subst hz0
                  have HKy : Hid (keyB ks 0 = true) := hide (by rw [keyB, decide_eq_true (by rw [← HX.out]; omega)]; rfl)
                  have hxc0 : wr.cell? ⟨bk, ok, none⟩ = some (.string x) := hxc
                  have hl0 : (0 : Int) < (ks.length : Int) := by omega
                  have hqc0 : wr.cell? ⟨bc, oc, none⟩ = some (.int .i64 q) := hqc
                  have hlc0 : (0 : Int) < (cs.length : Int) := by omega
                  clear hqc hic
                  clear hx hck hxc hi0 hi1
                  obtain ⟨gq, hgq⟩ : ∃ gq, gq = gk := ⟨_, rfl⟩
                  have HGQ := hide hgq
                  clear hgq
                  go_wp2_with fail
                  go_quiet (fail)
                  go_wp2_with fail
                  have HBq : Hid (Below w0.heap.size w0 (wr.drewN nq)) := hide (bel_n HB.out)
                  cases hkq : decide (2 ≤ q ∧ q ≤ 39) with
                  | false =>
                    rw [hkq] at HIk
                    have HO : Hid (nodeOkB false ks vs cs = false) := hide (node_kid (i := 0) hlc (by rw [kidB, ← HQ.out, hkq]; rfl))
                    clear hkq
                    refine (HIk.out _).mono ?_
                    rintro e w2 ⟨rfl, rfl⟩
                    go_wp2_with fail
                    go_ret
                    rw [HO.out]
                    exact ⟨rfl, HB0.out.trans (HBq.out.mono HB0.out.size)⟩
                  | true =>
                    rw [hkq] at HIk
                    have HKq := hide hkq
                    clear hkq
                    refine (HIk.out _).mono ?_
                    rintro e w2 ⟨rfl, rfl⟩
                    go_wp2_with fail
                    go_loopg [5] 0 (fun g jv wq => ∃ t : Nat, t ≤ 0 ∧ jv = .int .i64 (t : Int) ∧ g + t = 0 ∧ Hid (∀ r, r < t → cs.getD r 0 ≠ q) ∧ Hid (Below w0.heap.size w0 wq))
                    case atStart => exact ⟨0, Nat.zero_le _, rfl, by omega, hide (fun r h => by omega), HBq⟩
                    case round =>
                      obtain ⟨t, ht, rfl, hg, HT, HBy⟩ := hrel
                      have HG2 := hide hg
                      clear hg
                      by_cases hti : t < 0
                      · omega
                      · have HA2 : Hid (pairsOk false ks vs cs (0 + 1)) := hide (fun r hr => by
                          by_cases e : r = 0
                          · rw [e]
                            refine ⟨HKy.out, fun h => (by cases h), fun _ => ?_⟩
                            rw [kidB, ← HQ.out, HKq.out, decide_eq_true (fun j hj => HT.out j (by omega))]; rfl
                          · exact HA.out r (by omega))
                        go_wp2_with fail
                        go_roundg (gq - 1)
                        case measure => have h1 := HGQ.out; have h2 := HG.out; omega
                        case rel => exact ⟨0 + 1, by omega, by go_num, by have h1 := HGQ.out; have h2 := HG.out; omega, HA2, HBy⟩
                · obtain ⟨j, hj⟩ : ∃ j, i = j + 1 := ⟨i - 1, by omega⟩
                  obtain ⟨y, hy⟩ : ∃ y, y = ks.getD j ⟨#[]⟩ := ⟨_, rfl⟩
                  have hyc : wr.cell? ⟨bk, ok + j, none⟩ = some (.string y) := by rw [HB.out.cell (by exact hbk), hck j (by omega), strs_at ks j (by omega), hy]; simp [List.getD, show j < ks.length by omega]
                  have HYy := hide hy
                  have hj0 : (0 : Int) ≤ (j : Int) := by omega
                  have hj1 : (j : Int) < (ks.length : Int) := by omega
                  have hpos : 0 < i := by omega
                  have di : decide ((0 : Int) < (i : Int)) = true := decide_eq_true (by omega)
                  have hwj : IntKind.i64.wrap ((i : Int) - 1) = (i : Int) - 1 := IntWalk.i64_in _ ⟨by omega, by omega⟩
                  have hwk : wrap64 ((i : Int) - 1) = (i : Int) - 1 := wrap64_small _ (by omega) (by omega)
                  have hb0 : (0 : Int) ≤ (i : Int) - 1 := by omega
                  have hb1 : (i : Int) - 1 < (ks.length : Int) := by omega
                  have hb2 : (1 : Int) ≤ (i : Int) := by omega
                  have hb3 : (i : Int) < (ks.length : Int) + 1 := by omega
                  have hb4 : (i : Int) ≤ (ks.length : Int) := by omega
                  have hb5 : 1 ≤ i := by omega
                  have hyc1 : wr.cell? ⟨bk, ok + ((i : Int) - 1).toNat, none⟩ = some (.string y) := by rw [show ((i : Int) - 1).toNat = j from by omega]; exact hyc
                  have hyc2 : wr.cell? ⟨bk, ok + (i - 1), none⟩ = some (.string y) := by rw [show i - 1 = j from by omega]; exact hyc
                  obtain ⟨lt, hlt2⟩ : ∃ lt, Op.bytesLess y.toList x.toList = lt := ⟨_, rfl⟩
                  have hKe : keyB ks i = lt := by
                    rw [keyB, decide_eq_true (by rw [← HX.out]; omega), decide_eq_false hz0, hj, Nat.add_sub_cancel, ← hj, ← HX.out, ← HYy.out, hlt2]; rfl
                  clear hx hck hy hz0 hj
                  cases lt with
                  | false =>
                    have HO : Hid (nodeOkB false ks vs cs = false) := hide (node_key hlt hKe)
                    clear hKe
                    go_wp2_with fail
                    try (go_quiet (fail); go_wp2_with fail)
                    try (go_quiet (fail); go_wp2_with fail)
                    go_ret
                    rw [HO.out]
                    exact ⟨rfl, HB0.out.trans ((bel_n HB.out).mono HB0.out.size)⟩
                  | true =>
                    have HKy := hide hKe
                    clear hKe
                    obtain ⟨gq, hgq⟩ : ∃ gq, gq = gk := ⟨_, rfl⟩
                    have HGQ := hide hgq
                    clear hgq
                    go_wp2_with fail
                    go_quiet (fail)
                    go_wp2_with fail
                    have HBq : Hid (Below w0.heap.size w0 (wr.drewN nq)) := hide (bel_n HB.out)
                    cases hkq : decide (2 ≤ q ∧ q ≤ 39) with
                    | false =>
                      rw [hkq] at HIk
                      have HO : Hid (nodeOkB false ks vs cs = false) := hide (node_kid (i := i) hlc (by rw [kidB, ← HQ.out, hkq]; rfl))
                      clear hkq
                      refine (HIk.out _).mono ?_
                      rintro e w2 ⟨rfl, rfl⟩
                      go_wp2_with fail
                      go_ret
                      rw [HO.out]
                      exact ⟨rfl, HB0.out.trans (HBq.out.mono HB0.out.size)⟩
                    | true =>
                      rw [hkq] at HIk
                      have HKq := hide hkq
                      clear hkq
                      refine (HIk.out _).mono ?_
                      rintro e w2 ⟨rfl, rfl⟩
                      go_wp2_with fail
                      go_loopg [5] i (fun g jv wq => ∃ t : Nat, t ≤ i ∧ jv = .int .i64 (t : Int) ∧ g + t = i ∧ Hid (∀ r, r < t → cs.getD r 0 ≠ q) ∧ Hid (Below w0.heap.size w0 wq))
                      case atStart => exact ⟨0, Nat.zero_le _, rfl, by omega, hide (fun r h => by omega), HBq⟩
                      case round =>
                        obtain ⟨t, ht, rfl, hg, HT, HBy⟩ := hrel
                        have HG2 := hide hg
                        clear hg
                        by_cases hti : t < i
                        · obtain ⟨p0, p1, p2, p3⟩ := HPb.out wr HBy.out
                          have htc : t < cs.length := by omega
                          obtain ⟨u, hu⟩ : ∃ u, u = cs.getD t 0 := ⟨_, rfl⟩
                          have huc : wr.cell? ⟨bc, oc + t, none⟩ = some (.int .i64 u) := by rw [hu]; exact HCc.out wr HBy.out t htc
                          have hqd : wr.cell? ⟨bc, oc + i, none⟩ = some (.int .i64 q) := by rw [HQ.out]; exact HCc.out wr HBy.out i hlc
                          have ht0 : (0 : Int) ≤ (t : Int) := by omega
                          have ht1 : (t : Int) < (cs.length : Int) := by omega
                          have HU := hide hu
                          clear hu
                          by_cases huq : u = q
                          · have HO : Hid (nodeOkB false ks vs cs = false) := hide (node_kid (i := i) hlc (by
                              rw [kidB, decide_eq_false (show ¬ (∀ j, j < i → cs.getD j 0 ≠ cs.getD i 0) from fun h => h t hti (by rw [← HU.out, ← HQ.out]; exact huq)), Bool.and_false]))
                            subst huq
                            go_wp2_with fail
                            try (go_quiet (fail); go_wp2_with fail)
                            go_ret
                            rw [HO.out]
                            exact ⟨rfl, HB0.out.trans ((bel_n HBy.out).mono HB0.out.size)⟩
                          · have HT2 : Hid (∀ r, r < t + 1 → cs.getD r 0 ≠ q) := hide (fun r hr => by
                              by_cases e : r = t
                              · rw [e, ← HU.out]; exact huq
                              · exact HT.out r (by omega))
                            have hub : (u == q) = false := by rw [beq_eq_false_iff_ne]; exact huq
                            have hud : decide (u = q) = false := decide_eq_false huq
                            clear huq
                            go_wp2_with fail
                            try (go_quiet (fail); go_wp2_with fail)
                            go_roundg (gk - 1)
                            case measure => have := HG2.out; omega
                            case rel => exact ⟨t + 1, by omega, by go_num, by have := HG2.out; omega, HT2, hide (bel_n HBy.out)⟩
                        · have HA2 : Hid (pairsOk false ks vs cs (i + 1)) := hide (fun r hr => by
                            by_cases e : r = i
                            · rw [e]
                              refine ⟨HKy.out, fun h => (by cases h), fun _ => ?_⟩
                              rw [kidB, ← HQ.out, HKq.out, decide_eq_true (fun j hj => HT.out j (by omega))]; rfl
                            · exact HA.out r (by omega))
                          go_wp2_with fail
                          go_roundg (gq - 1)
                          case measure => have h1 := HGQ.out; have h2 := HG.out; omega
                          case rel => exact ⟨i + 1, by omega, by go_num, by have h1 := HGQ.out; have h2 := HG.out; omega, HA2, HBy⟩
            · have HO : Hid (nodeOkB false ks vs cs = true) := hide (pairs_all HCt.out (fun j hj => HA.out j (by omega)))
              go_wp2_with fail
              go_ret
              rw [HO.out]
              exact ⟨rfl, HB0.out.trans (HB.out.mono HB0.out.size)⟩
        · have d2 : ((vs.length : Int) != 0) = true := by rw [bne_iff_ne]; omega
          have HO : Hid (nodeOkB false ks vs cs = false) := hide (node_cnt (by rw [HCn.out]; exact decide_eq_false (fun h => hnc h.2)))
          clear hnv hnc HCn
          go_enter Tryz.func95, Tryz.ntmps95
          go_wp2_with fail
          rw [← hw0]
          clear hw0
          refine (HIn.out _).mono ?_
          rintro e w1 ⟨rfl, rfl⟩
          go_wp2_with fail
          go_ret
          rw [HO.out]
          exact ⟨rfl, HB0.out⟩
      · have d1 : ((cs.length : Int) != (ks.length : Int)) = true := by simp; omega
        have HO : Hid (nodeOkB false ks vs cs = false) := hide (node_cnt (by rw [HCn.out]; exact decide_eq_false (fun h => hnv h.1)))
        clear hnv HCn
        go_enter Tryz.func95, Tryz.ntmps95
        go_wp2_with fail
        rw [← hw0]
        clear hw0
        refine (HIn.out _).mono ?_
        rintro e w1 ⟨rfl, rfl⟩
        go_wp2_with fail
        go_ret
        rw [HO.out]
        exact ⟨rfl, HB0.out⟩
  · rw [decide_eq_false (show ¬ ((1 : Int) ≤ (ks.length : Int) ∧ (ks.length : Int) ≤ 4) from by omega)] at HIn
    have HO : Hid (nodeOkB lf ks vs cs = false) := hide (node_cnt (cnt_no1 hn))
    clear hn
    go_enter Tryz.func95, Tryz.ntmps95
    go_wp2_with fail
    rw [← hw0]
    clear hw0
    refine (HIn.out _).mono ?_
    rintro e w1 ⟨rfl, rfl⟩
    go_wp2_with fail
    go_ret
    rw [HO.out]
    exact ⟨rfl, HB0.out⟩
open Go.RowKit
def SumTab (w : World) : Prop := ∀ i : Nat, i < 16 → w.cell? ⟨0, i, none⟩ = some (.int .u32 ((tab16.getD i 0 : Nat) : Int))
theorem sumTab_below {w w' : World} (h : SumTab w) (hb : Below w.heap.size w w') : SumTab w' := by
  intro i hi
  have hc := h i hi
  have hlt : 0 < w.heap.size := World.block_lt_of_cell? w _ hc
  rw [World.cell?_of_block (hb.block _ hlt)]
  exact hc
theorem wrap32 (x : Int) (h0 : 0 ≤ x) (h1 : x < 4294967296) : IntKind.u32.wrap x = x := by
  simp [IntKind.wrap, IntKind.signed, IntKind.bits]; omega
theorem xor32 (a b : Nat) (ha : a < 4294967296) (hb : b < 4294967296) : bits BinOp.xor IntKind.u32 (a : Int) (b : Int) = ((a ^^^ b : Nat) : Int) := by
  have e : bits BinOp.xor IntKind.u32 (a : Int) (b : Int) = IntKind.u32.wrap ((BitVec.ofInt 32 (a : Int) ^^^ BitVec.ofInt 32 (b : Int)).toNat : Int) := rfl
  have hl := xor_lt32 a b ha hb
  have h : (BitVec.ofInt 32 (a : Int) ^^^ BitVec.ofInt 32 (b : Int)).toNat = a ^^^ b := by
    rw [BitVec.toNat_xor, BitVec.ofInt_natCast, BitVec.ofInt_natCast, BitVec.toNat_ofNat, BitVec.toNat_ofNat, Nat.mod_eq_of_lt (by omega), Nat.mod_eq_of_lt (by omega)]
  rw [e, h, wrap32 _ (by omega) (by omega)]
theorem and32_15 (a : Nat) (ha : a < 4294967296) : bits BinOp.and IntKind.u32 (a : Int) 15 = ((a % 16 : Nat) : Int) := by
  have e : bits BinOp.and IntKind.u32 (a : Int) 15 = IntKind.u32.wrap ((BitVec.ofInt 32 (a : Int) &&& BitVec.ofInt 32 15).toNat : Int) := rfl
  have h : (BitVec.ofInt 32 (a : Int) &&& BitVec.ofInt 32 15).toNat = a % 16 := by
    rw [BitVec.toNat_and, BitVec.ofInt_natCast, BitVec.toNat_ofNat, Nat.mod_eq_of_lt (by omega)]
    exact Nat.and_two_pow_sub_one_eq_mod a 4
  rw [e, h, wrap32 _ (by omega) (by omega)]
theorem tab16_lt (r : Nat) (h : r < 16) : tab16.getD r 0 < 4294967296 := by
  revert r
  decide
set_option maxHeartbeats 1000000 in
theorem after_any (c b : Nat) (hc : c < 4294967296) (hb : b < 256) (w : World) (hT : SumTab w) :
    Calls Tryz.prog 121 #[.int .u32 (c : Int), .int .u8 (b : Int)] w fun e w' => e = .returned (.int .u32 (sumB c b : Int)) ∧ w = w' := by
  obtain ⟨x, hx⟩ : ∃ x, x = c ^^^ b := ⟨_, rfl⟩
  have hxl : x < 4294967296 := by rw [hx]; exact xor_lt32 _ _ hc (by omega)
  obtain ⟨r, hr⟩ : ∃ r, r = x % 16 := ⟨_, rfl⟩
  obtain ⟨t, ht⟩ : ∃ t, t = tab16.getD r 0 := ⟨_, rfl⟩
  have htl : t < 4294967296 := by rw [ht]; exact tab16_lt r (by omega)
  obtain ⟨y, hy⟩ : ∃ y, y = half4 x := ⟨_, rfl⟩
  have hyl : y < 4294967296 := by rw [hy]; exact half4_lt x hxl
  obtain ⟨r2, hr2⟩ : ∃ r, r = y % 16 := ⟨_, rfl⟩
  obtain ⟨t2, ht2⟩ : ∃ t, t = tab16.getD r2 0 := ⟨_, rfl⟩
  have ht2l : t2 < 4294967296 := by rw [ht2]; exact tab16_lt r2 (by omega)
  have q1 : IntKind.u32.wrap (b : Int) = (b : Int) := wrap32 _ (by omega) (by omega)
  have q2 : bits BinOp.xor IntKind.u32 (c : Int) (b : Int) = (x : Int) := by rw [hx]; exact xor32 c b hc (by omega)
  have q3 : bits BinOp.and IntKind.u32 (x : Int) 15 = (r : Int) := by rw [hr]; exact and32_15 x hxl
  have q4 : w.cell? ⟨0, r, none⟩ = some (.int .u32 (t : Int)) := by rw [ht]; exact hT r (by omega)
  have q5 : bits BinOp.xor IntKind.u32 ((x : Int) / 16) (t : Int) = (y : Int) := by
    rw [show (x : Int) / 16 = ((x / 16 : Nat) : Int) by omega, xor32 _ _ (by omega) htl, hy, half4_eq, ht, hr]
  have q6 : bits BinOp.and IntKind.u32 (y : Int) 15 = (r2 : Int) := by rw [hr2]; exact and32_15 y hyl
  have q7 : w.cell? ⟨0, r2, none⟩ = some (.int .u32 (t2 : Int)) := by rw [ht2]; exact hT r2 (by omega)
  have q8 : bits BinOp.xor IntKind.u32 ((y : Int) / 16) (t2 : Int) = (sumB c b : Int) := by
    rw [show (y : Int) / 16 = ((y / 16 : Nat) : Int) by omega, xor32 _ _ (by omega) ht2l, ht2, hr2, ← half4_eq, hy, hx]; rfl
  have l1 : (0 : Int) ≤ (r : Int) := by omega
  have l2 : (r : Int) < 16 := by omega
  have l3 : (0 : Int) ≤ (r2 : Int) := by omega
  have l4 : (r2 : Int) < 16 := by omega
  obtain ⟨z, hz⟩ : ∃ z, z = sumB c b := ⟨_, rfl⟩
  rw [← hz] at q8 ⊢
  clear hx hr ht hy hr2 ht2 hz hT
  go_enter Tryz.func121, Tryz.ntmps121
  go_wp2
  go_ret
  exact ⟨rfl, rfl⟩
set_option maxHeartbeats 1000000 in
theorem implSumMore_any (c : Nat) (s : ByteArray) (hc : c < 4294967296) (hs : s.size ≤ 9223372036854775807) (w : World) (hT : SumTab w) :
    Calls Tryz.prog 115 #[.int .u32 (c : Int), .string s] w fun e w' => e = .returned (.int .u32 (sumL c s.data.toList : Int)) ∧ w = w' := by
  have HT := hide hT
  clear hT
  go_enter Tryz.func115, Tryz.ntmps115
  go_wp2
  go_loopg [5, 6] s.size (fun g cv iv wr => ∃ k x : Nat, k ≤ s.size ∧ iv = .int .i64 (k : Int) ∧ g + k = s.size ∧ cv = .int .u32 (x : Int) ∧ x < 4294967296 ∧ Hid (x = sumL c (s.data.toList.take k)) ∧ w = wr)
  case atStart => exact ⟨0, c, Nat.zero_le _, rfl, rfl, rfl, hc, hide rfl, rfl⟩
  case round =>
    obtain ⟨k, x, hk, rfl, hg, rfl, hx, HX, rfl⟩ := hrel
    have HG := hide hg
    clear hg
    by_cases hlt : k < s.size
    · obtain ⟨y, hy⟩ : ∃ y, y = byt s k := ⟨_, rfl⟩
      have hyb : y < 256 := by rw [hy]; exact byt_lt s k
      have hsj : s[k].toNat = y := by rw [hy]; exact byt_eq s k hlt
      have HY := hide hy
      clear hy
      have hk0 : (0 : Int) ≤ (k : Int) := by omega
      have hk1 : (k : Int) < (s.size : Int) := by omega
      go_wp2_with fail
      refine (after_any x y hx hyb _ HT.out).mono ?_
      rintro e w1 ⟨rfl, rfl⟩
      have hl := sumB_lt x y hx hyb
      have HN : Hid (sumB x y = sumL c (s.data.toList.take (k + 1))) := hide (by rw [take_byt s k hlt, sumL_append, ← HX.out, HY.out, sumL]; simp [toNat_ofNat8 _ (byt_lt s k)])
      go_wp2
      go_roundg (gk - 1)
      case measure => have := HG.out; omega
      case rel => exact ⟨k + 1, sumB x y, by omega, by go_num, by have := HG.out; omega, rfl, hl, HN, rfl⟩
    · have hk' : s.data.toList.take k = s.data.toList := List.take_of_length_le (by rw [Array.length_toList]; have : s.data.size = s.size := rfl; omega)
      rw [hk'] at HX
      go_wp2
      go_ret
      rw [← HX.out]
      exact ⟨rfl, rfl⟩
set_option maxHeartbeats 400000 in
theorem implSumOf_any (s : ByteArray) (hs : s.size ≤ 9223372036854775807) (w : World) (hT : SumTab w) :
    Calls Tryz.prog 108 #[.string s] w fun e w' => e = .returned (.int .u32 (sumL 4294967295 s.data.toList : Int)) ∧ w = w' := by
  have HT := hide hT
  clear hT
  go_enter Tryz.func108, Tryz.ntmps108
  go_wp2_with fail
  refine (implSumMore_any 4294967295 s (by omega) hs _ HT.out).mono ?_
  rintro e w1 ⟨rfl, rfl⟩
  go_wp2
  go_ret
  exact ⟨rfl, rfl⟩
theorem four_at (x : Nat) : [Value.int .u8 ((x / 16777216 % 256 : Nat) : Int), .int .u8 ((x / 65536 % 256 : Nat) : Int), .int .u8 ((x / 256 % 256 : Nat) : Int), .int .u8 ((x % 256 : Nat) : Int)] = Lib.byteCells (fourL x) := by
  simp [Lib.byteCells, fourL]
theorem wrap8 (a b : Nat) (h : b = a % 256) : IntKind.u8.wrap (a : Int) = (b : Int) := by
  subst h
  simp [IntKind.wrap, IntKind.signed, IntKind.bits]
set_option maxHeartbeats 1000000 in
theorem text_any (x : Nat) (w : World) :
    Calls Tryz.prog 109 #[.int .u32 (x : Int)] w fun e w' => e = .returned (.string ⟨(fourL x).toArray⟩) ∧ Below w.heap.size w w' := by
  obtain ⟨a, ha⟩ : ∃ a, a = x / 16777216 % 256 := ⟨_, rfl⟩
  obtain ⟨b, hb⟩ : ∃ b, b = x / 65536 % 256 := ⟨_, rfl⟩
  obtain ⟨c, hc⟩ : ∃ c, c = x / 256 % 256 := ⟨_, rfl⟩
  obtain ⟨d, hd⟩ : ∃ d, d = x % 256 := ⟨_, rfl⟩
  have q1 : IntKind.u8.wrap ((x : Int) / 16777216) = (a : Int) := wrap8 (x / 16777216) a ha
  have q2 : IntKind.u8.wrap ((x : Int) / 65536) = (b : Int) := wrap8 (x / 65536) b hb
  have q3 : IntKind.u8.wrap ((x : Int) / 256) = (c : Int) := wrap8 (x / 256) c hc
  have q4 : IntKind.u8.wrap (x : Int) = (d : Int) := wrap8 x d hd
  have HC : Hid ([Value.int .u8 (a : Int), .int .u8 (b : Int), .int .u8 (c : Int), .int .u8 (d : Int)] = Lib.byteCells (fourL x)) := hide (by rw [ha, hb, hc, hd]; exact four_at x)
  clear ha hb hc hd
  have hown : (w.alloc (Obj.cells #[.int .u8 (a : Int), .int .u8 (b : Int), .int .u8 (c : Int), .int .u8 (d : Int)] 5)).ownsRow w.heap.size 5 1 (.slice (some ⟨w.heap.size, 0, none⟩) 4 4) (fourL x).length (Lib.byteCells (fourL x)) := by
    rw [← HC.out]
    exact World.ownsRow_lit (base := w.heap.size) (e := 5) (size := 1) w #[.int .u8 (a : Int), .int .u8 (b : Int), .int .u8 (c : Int), .int .u8 (d : Int)] 4 (Nat.le_refl _) (by unfold maxLen; omega) (by simp)
  have hcv : (convert 186 9 (.slice (some ⟨w.heap.size, 0, none⟩) 4 4)).run Tryz.prog (w.alloc (Obj.cells #[.int .u8 (a : Int), .int .u8 (b : Int), .int .u8 (c : Int), .int .u8 (d : Int)] 5)) = .ok (.string ⟨(fourL x).toArray⟩) (w.alloc (Obj.cells #[.int .u8 (a : Int), .int .u8 (b : Int), .int .u8 (c : Int), .int .u8 (d : Int)] 5)) :=
    string_own (l := fourL x) Tryz.underlying186 Tryz.underlying5 Tryz.underlying9 hown
  clear hown
  go_enter Tryz.func109, Tryz.ntmps109
  go_wp2
  go_ret
  exact ⟨rfl, (Below.refl _ _).alloc (Nat.le_refl _) _⟩
end Go.Proofs.YtdbpbhemnnffeaaGreatDoor
