/-
  impl.GivePage by a contract: the first usable page, else the next one, else none.
-/
import Derived.Test.YtejfmjejdopglaaGivePlain
import Derived.Test.YtejfmjejdopglaaWCopyImpl
namespace Go.Proofs.Ytejfmjejdopglaa
open Go.RowKit

set_option maxHeartbeats 8000000 in
set_option maxRecDepth 100000 in
theorem implGivePage_any (v : Value) (k : Wk) (hk : k.small) (w : World) (hd : WorkAt w v k) :
    Calls Try.prog 7 #[v] w fun e w' => ∃ v', e = .returned (.tuple #[v', .int .i64 (giveP k)]) ∧ WorkOwn w' w.heap.size v' (giveK k) ∧ Below w.heap.size w w' := by
  obtain ⟨i0, hi, hz0, hz1, hz2⟩ := info_parts Try.infoIntC
  have hfl := hk.2.2.2.2.2.2
  have hpl := hk.1
  have HC := hide (fun u wx h => implWCopy_any u k hk wx h)
  have HD := hide hd
  obtain ⟨vp, vl, vu, vg, vf, rfl, h1, h2, h3, h4, -⟩ := hd
  obtain ⟨nx, hnx⟩ : ∃ n, n = k.next := ⟨_, rfl⟩
  rw [← hnx] at HD ⊢
  have HNx := hide hnx
  clear hk hnx h1 h2 h3 h4
  obtain ⟨w0, hw0⟩ : ∃ w0, w0 = (w.alloc (Obj.cells #[vp, vl, .int .i64 nx, vu, vg, vf] 33)).alloc (Obj.cells #[.slice none 0 0, .slice none 0 0, .int .i64 0, .slice none 0 0, .slice none 0 0, .slice none 0 0] 33) := ⟨_, rfl⟩
  have hb0 : Below w.heap.size w w0 := by rw [hw0]; exact ((Below.refl w.heap.size w).alloc (Nat.le_refl _) _).alloc (by simp) _
  obtain ⟨q0, q1, hs0⟩ := two_allocs w (Obj.cells #[vp, vl, .int .i64 nx, vu, vg, vf] 33) (Obj.cells #[.slice none 0 0, .slice none 0 0, .int .i64 0, .slice none 0 0, .slice none 0 0, .slice none 0 0] 33)
  rw [← hw0] at q0 q1 hs0
  obtain ⟨a0, ha0⟩ : ∃ a, a = w.heap.size := ⟨_, rfl⟩
  rw [← ha0] at q0 q1 hs0
  have HA : Hid (a0 = w.heap.size ∧ w0.heap.size = a0 + 2) := hide ⟨ha0, hs0⟩
  have HB0 := hide hb0
  have HQ := hide (⟨q0, q1⟩ : _ ∧ _)
  go_enter Try.func7, Try.ntmps7
  go_wp2_with fail
  rw [← hw0, ← ha0]
  clear hb0 q0 q1 hs0 hw0 ha0
  refine (HC.out _ _ (work_below HD.out HB0.out)).mono ?_
  rintro e w1 ⟨u, rfl, hnw, hb1⟩
  obtain ⟨a1, c1, a2, c2, a3, c3, a4, c4, a5, c5, rfl⟩ := nw_form hnw
  rw [← HNx.out] at hnw ⊢
  obtain ⟨np, hnp⟩ : ∃ n, n = k.ps.length := ⟨_, rfl⟩
  obtain ⟨nl, hnl⟩ : ∃ n, n = k.ls.length := ⟨_, rfl⟩
  obtain ⟨nu, hnu⟩ : ∃ n, n = k.us.length := ⟨_, rfl⟩
  obtain ⟨ng, hng⟩ : ∃ n, n = k.gs.length := ⟨_, rfl⟩
  obtain ⟨nf, hnf⟩ : ∃ n, n = k.fs.length := ⟨_, rfl⟩
  rw [← hnp, ← hnl, ← hnu, ← hng, ← hnf] at hnw ⊢
  rw [← hnp] at hpl
  rw [← hnf] at hfl
  have HLn := hide (⟨hnp, hnl, hnu, hng, hnf⟩ : _ ∧ _ ∧ _ ∧ _ ∧ _)
  obtain ⟨g, hg⟩ : ∃ g, g = w1.heap.size := ⟨_, rfl⟩
  obtain ⟨w2, hw2⟩ : ∃ wx, wx = w1.alloc (Obj.cells #[.slice a1 np c1, .slice a2 nl c2, .int .i64 nx, .slice a3 nu c3, .slice a4 ng c4, .slice a5 nf c5] 33) := ⟨_, rfl⟩
  have hb2 : Below w1.heap.size w1 w2 := by rw [hw2]; exact (Below.refl _ _).alloc (Nat.le_refl _) _
  have hv2 : w2.heap[g]? = some (Obj.cells #[.slice a1 np c1, .slice a2 nl c2, .int .i64 nx, .slice a3 nu c3, .slice a4 ng c4, .slice a5 nf c5] 33) := by rw [hw2, hg]; exact heap_alloc_new w1 _
  have HB2 : Hid (Below w.heap.size w w2) := hide ((HB0.out.trans (hb1.mono HB0.out.size)).trans (hb2.mono (HB0.out.trans (hb1.mono HB0.out.size)).size))
  have hbx : w2.heap[a0]? = _ := staysW (staysW HQ.out.1 hb1) hb2
  have hrs : w2.heap[a0 + 1]? = _ := staysW (staysW HQ.out.2 hb1) hb2
  have HNw := hide (nw_below hnw hb2)
  have HGt : Hid (w0.heap.size ≤ g ∧ g < w2.heap.size ∧ ∀ j, workBlocks (.agg #[.slice a1 np c1, .slice a2 nl c2, .int .i64 nx, .slice a3 nu c3, .slice a4 ng c4, .slice a5 nf c5]) j → w0.heap.size ≤ j ∧ j < g) := hide ⟨by rw [hg]; exact hb1.size, (Array.getElem?_eq_some_iff.1 hv2).1, fun j hj => by rw [hg]; exact workOwn_lt (nw_own hnw) j hj⟩
  have HV2 := hide hv2
  have HRs := hide hrs
  have HBx := hide hbx
  obtain ⟨v0, v1, v2, v3, v4, v5⟩ := blk6c hv2
  obtain ⟨bx0, bx1, bx2, bx3, bx4, bx5⟩ := blk6c hbx
  obtain ⟨r0, r1, r2, r3, r4, r5⟩ := blk6c hrs
  have zr0 := (cell_at hrs 0).2
  have zr1 := (cell_at hrs 1).2
  have zr2 := (cell_at hrs 2).2
  have zr3 := (cell_at hrs 3).2
  have zr4 := (cell_at hrs 4).2
  have zr5 := (cell_at hrs 5).2
  have hng1 : a0 + 1 ≠ g := by have := HA.out; have := HGt.out.1; omega
  have hng0 : a0 ≠ g := by have := HA.out; have := HGt.out.1; omega
  have hgt : ∀ j, g < j → j ≠ g := fun j h => by omega
  have HN1 := hide hnw
  have HB1 : Hid (Below w.heap.size w w1) := hide (HB0.out.trans (hb1.mono HB0.out.size))
  have HR1 := hide (staysW HQ.out.2 hb1)
  have HF1 : Hid (w1.ownsRow w0.heap.size 3 1 (.slice a5 nf c5) nf (ints k.fs)) := hide (by have := (nw_rows hnw).2.2.2.2.1; rw [← hnf] at this; exact this)
  rw [hw2] at r0 r1 r2 r3 r4 r5 zr0 zr1 zr2 zr3 zr4 zr5
  clear v0 v1 v2 v3 v4 v5 bx0 bx1 bx2 bx3 bx4 bx5
  clear hbx hrs hnp hnl hnu hng hnf hnw hb1 hb2
  by_cases hu : k.us = []
  · have hnu0 : nu = 0 := by rw [HLn.out.2.2.1, hu]; rfl
    subst hnu0
    by_cases hn : nx < (np : Int)
    · have hgv := give_next (k := k) hu (by rw [← HNx.out, ← HLn.out.1]; exact hn)
      rw [← HNx.out] at hgv
      have HGv := hide hgv
      clear hgv
      clear r0 r1 r2 r3 r4 r5 zr0 zr1 zr2 zr3 zr4 zr5 hv2
      have HU0 : Hid (IntOwn w1 w0.heap.size (.slice a3 0 c3) k.us) := hide (intOwn_of_own (nw_rows HN1.out).2.2.1)
      rw [HNx.out] at HN1
      have HUs := hide hu
      clear hu
      go_wp2_with (at_builtin; (refine wpList_append_lies _ rfl _ _ 31 rfl w0.heap.size 3 i0 (.int .i64 0) 1 8 Try.underlying31 hi hz0 hz1 hz2 rfl (by decide) _ nf (ints k.fs) rfl ((HF1.out.alloc _).alloc _) ⟨w1.heap.size + 1, 0, none⟩ 1 1 [.int .i64 (nx)] rfl rfl ?c0 ?c1 (by decide) ?c3 ?c4 ?c5 _ rfl ?_))
      case c0 => exact one_newC _ _ (by simp) _ _
      case c1 => intro u hu; simp at hu; subst hu; rfl
      case c3 => unfold maxLen; omega
      case c4 => omega
      case c5 => have := HGt.out.1; simp; omega
      intro b5 d5 w5 hown5 hg5 hb5 hl5
      obtain ⟨e5, e6, e7, e8, e9, e10⟩ := give_app (us' := k.us) (n' := wrap64 (nx + 1)) HLn.out.2.2.2.2 HN1.out (HU0.out) (fun j e => e) hg HR1.out (by have := HA.out; omega) HA.out.1 HGt.out.1 HB1.out hown5 hg5 (by rcases hb5 with hb5 | hb5; exact Or.inl hb5; right; (try simp at hb5); omega)
      have s5 : w5.cell? ⟨w1.heap.size, 5, none⟩ = some (.slice a5 nf c5) := by rw [← hg]; exact (cell_at e5 5).1
      have z5 : w5.frozen? ⟨w1.heap.size, 5, none⟩ = false := by rw [← hg]; exact (cell_at e5 5).2
      obtain ⟨w6, hw6⟩ : ∃ w6, w6 = w5.setCell ⟨g, 5, none⟩ (.slice (some ⟨b5, 0, none⟩) (nf + 1) d5) := ⟨_, rfl⟩
      rw [← hw6] at e6 e7 e8 e9 e10
      obtain ⟨v0, v1, v2, v3, v4, v5⟩ := blk6c e6
      obtain ⟨r0, r1, r2, r3, r4, r5⟩ := blk6c e7
      have zr0 := (cell_at e7 0).2
      have zr1 := (cell_at e7 1).2
      have zr2 := (cell_at e7 2).2
      have zr3 := (cell_at e7 3).2
      have zr4 := (cell_at e7 4).2
      have zr5 := (cell_at e7 5).2
      have hret := ret_work (w := w) e7 e8 (by have := HA.out; omega) (by have := HA.out; omega) e9
      have HRet := hide hret
      rw [hw6, hg] at v0 v1 v2 v3 v4 v5 r0 r1 r2 r3 r4 r5 zr0 zr1 zr2 zr3 zr4 zr5
      have HW6 := hide hw6
      have HG := hide hg
      have HE6 := hide (⟨e6, e7, e8, e9, e10⟩ : _ ∧ _ ∧ _ ∧ _ ∧ _)
      clear hown5 hg5 hb5 hl5 e5 e6 e7 e8 e9 e10 hret hw6 hg hw2 hng1 hng0 hgt
      go_wp2_with fail
      rw [← HG.out, ← HW6.out]
      obtain ⟨f0, f1, f2, f3, f4, f5⟩ := blk6c HRet.out.1
      refine bodyPost_ret (v := .tuple #[.agg #[.slice a1 np c1, .slice a2 nl c2, .int .i64 (wrap64 (nx + 1)), .slice a3 0 c3, .slice a4 ng c4, .slice (some ⟨b5, 0, none⟩) (nf + 1) d5], .int .i64 (nx)]) (by simp [results, Try.results7, go_sem, f0, f1, f2, f3, f4, f5]) rfl ⟨_, by rw [HGv.out.2], by rw [HGv.out.1]; exact HRet.out.2.1, HRet.out.2.2⟩
    · have HGv := hide (give_none (k := k) hu (by rw [← HNx.out, ← HLn.out.1]; exact hn))
      have hret := ret_work (w := w) HRs.out (nw_own HNw.out) (by have := HA.out; omega) (by have := HA.out; omega) HB2.out
      have HRet := hide hret
      have HUs := hide hu
      have HW2 := hide hw2
      have HGg := hide hg
      clear hu hret hv2 hw2 hg hgt hng1 hng0
      go_wp2_with fail
      rw [← HW2.out]
      obtain ⟨f0, f1, f2, f3, f4, f5⟩ := blk6c HRet.out.1
      refine bodyPost_ret (v := .tuple #[.agg #[.slice a1 np c1, .slice a2 nl c2, .int .i64 nx, .slice a3 0 c3, .slice a4 ng c4, .slice a5 nf c5], .int .i64 0]) (by simp [results, Try.results7, go_sem, f0, f1, f2, f3, f4, f5]) rfl ⟨_, by rw [HGv.out.2], by rw [HGv.out.1]; exact HRet.out.2.1, HRet.out.2.2⟩
  · obtain ⟨x, t, hxt⟩ := List.exists_cons_of_ne_nil hu
    have HGv : Hid (giveK k = { k with next := nx, us := t, fs := k.fs ++ [x] } ∧ giveP k = x) := hide (by rw [HNx.out]; exact give_cons (k := k) hxt)
    have hu3 := (nw_rows HN1.out).2.2.1
    rw [← HLn.out.2.2.1] at hu3
    have hnt : nu = t.length + 1 := by rw [HLn.out.2.2.1, hxt]; rfl
    obtain ⟨gu, hgu, hgl, hcx, hnc⟩ : ∃ gu, a3 = some ⟨gu, 0, none⟩ ∧ gu < w1.heap.size ∧ w1.cell? ⟨gu, 0, none⟩ = some (.int .i64 x) ∧ nu ≤ c3 := by
      rcases hu3.2 with ⟨e, h0⟩ | ⟨gu, cap, cur, e, -, -, hnc, -⟩
      · omega
      · injection e with e1 e2 e3
        subst e1 e3
        refine ⟨gu, rfl, (hu3.lt gu rfl).2, ?_, hnc⟩
        have := hu3.cellAt 0 (by omega)
        rw [this, hxt]
        rfl
    subst hgu
    have hcx2 : (w1.alloc (Obj.cells #[.slice a1 np c1, .slice a2 nl c2, .int .i64 nx, .slice (some ⟨gu, 0, none⟩) nu c3, .slice a4 ng c4, .slice a5 nf c5] 33)).cell? ⟨gu, 0, none⟩ = some (.int .i64 x) := (((Below.refl _ _).alloc (Nat.le_refl _) _).cell (by exact hgl)).trans hcx
    have hUt : ∀ y, (c3 = 1 ∧ y = some (⟨gu, 0, none⟩ : Addr) ∨ ¬ c3 = 1 ∧ y = some (⟨gu, 1, none⟩ : Addr)) → IntOwn w1 w0.heap.size (.slice y (nu - 1) (c3 - 1)) t ∧ ∀ j, (Value.slice y (nu - 1) (c3 - 1)).ownBlock = some j → (Value.slice (some ⟨gu, 0, none⟩) nu c3).ownBlock = some j := fun y hy => by
      have h := intOwn_of_own (nw_rows HN1.out).2.2.1
      rw [hxt] at h
      rcases hy with ⟨hc1, rfl⟩ | ⟨hc1, rfl⟩
      · obtain rfl : t = [] := List.eq_nil_of_length_eq_zero (by omega)
        obtain ⟨cs, hcs⟩ := intOwn_typ h rfl
        refine ⟨⟨some ⟨gu, 0, none⟩, c3 - 1, by rw [hnt]; rfl, Nat.zero_le _, Or.inr ⟨gu, 0, cs, rfl, (intOwn_lt h gu rfl).1, hcs, fun i hi => absurd hi (by simp)⟩⟩, fun j e => e⟩
      · have h2 := intOwn_tail (c' := c3 - 1) (n' := nu - 1) hnt (by omega) (by omega) h
        rw [Nat.zero_add] at h2
        exact ⟨h2, fun j e => e⟩
    rw [HNx.out] at HN1
    have hn0 : (0 : Int) < (nu : Int) := by omega
    have hn1 : (1 : Int) ≤ (nu : Int) := by omega
    have hnc2 : (nu : Int) ≤ (c3 : Int) := by omega
    have HNt := hide hnt
    have HXt := hide hxt
    clear hu hu3 hcx hgl hxt hv2 r0 r1 r2 r3 r4 r5 zr0 zr1 zr2 zr3 zr4 zr5
    by_cases hc1 : c3 = 1
    · have HUt := hide (hUt _ (Or.inl ⟨hc1, rfl⟩))
      clear hUt
      subst hc1
      obtain rfl : nu = 1 := by omega
      clear hnt hn0 hn1 hnc2 hnc
      go_wp2_with (at_builtin; (refine wpList_append_lies _ rfl _ _ 31 rfl w0.heap.size 3 i0 (.int .i64 0) 1 8 Try.underlying31 hi hz0 hz1 hz2 rfl (by decide) _ nf (ints k.fs) rfl ((HF1.out.alloc _).alloc _) ⟨w1.heap.size + 1, 0, none⟩ 1 1 [.int .i64 (x)] rfl rfl ?c0 ?c1 (by decide) ?c3 ?c4 ?c5 _ rfl ?_))
      case c0 => exact one_newC _ _ (by simp) _ _
      case c1 => intro u hu; simp at hu; subst hu; rfl
      case c3 => unfold maxLen; omega
      case c4 => omega
      case c5 => have := HGt.out.1; simp; omega
      intro b5 d5 w5 hown5 hg5 hb5 hl5
      obtain ⟨e5, e6, e7, e8, e9, e10⟩ := give_app (us' := t) (n' := nx) HLn.out.2.2.2.2 HN1.out (HUt.out.1) (HUt.out.2) hg HR1.out (by have := HA.out; omega) HA.out.1 HGt.out.1 HB1.out hown5 hg5 (by rcases hb5 with hb5 | hb5; exact Or.inl hb5; right; (try simp at hb5); omega)
      have s5 : w5.cell? ⟨w1.heap.size, 5, none⟩ = some (.slice a5 nf c5) := by rw [← hg]; exact (cell_at e5 5).1
      have z5 : w5.frozen? ⟨w1.heap.size, 5, none⟩ = false := by rw [← hg]; exact (cell_at e5 5).2
      obtain ⟨w6, hw6⟩ : ∃ w6, w6 = w5.setCell ⟨g, 5, none⟩ (.slice (some ⟨b5, 0, none⟩) (nf + 1) d5) := ⟨_, rfl⟩
      rw [← hw6] at e6 e7 e8 e9 e10
      obtain ⟨v0, v1, v2, v3, v4, v5⟩ := blk6c e6
      obtain ⟨r0, r1, r2, r3, r4, r5⟩ := blk6c e7
      have zr0 := (cell_at e7 0).2
      have zr1 := (cell_at e7 1).2
      have zr2 := (cell_at e7 2).2
      have zr3 := (cell_at e7 3).2
      have zr4 := (cell_at e7 4).2
      have zr5 := (cell_at e7 5).2
      have hret := ret_work (w := w) e7 e8 (by have := HA.out; omega) (by have := HA.out; omega) e9
      have HRet := hide hret
      rw [hw6, hg] at v0 v1 v2 v3 v4 v5 r0 r1 r2 r3 r4 r5 zr0 zr1 zr2 zr3 zr4 zr5
      have HW6 := hide hw6
      have HG := hide hg
      have HE6 := hide (⟨e6, e7, e8, e9, e10⟩ : _ ∧ _ ∧ _ ∧ _ ∧ _)
      clear hown5 hg5 hb5 hl5 e5 e6 e7 e8 e9 e10 hret hw6 hg hw2 hng1 hng0 hgt
      go_wp2_with fail
      rw [← HG.out, ← HW6.out]
      obtain ⟨f0, f1, f2, f3, f4, f5⟩ := blk6c HRet.out.1
      refine bodyPost_ret (v := .tuple #[.agg #[.slice a1 np c1, .slice a2 nl c2, .int .i64 nx, .slice (some ⟨gu, 0, none⟩) 0 0, .slice a4 ng c4, .slice (some ⟨b5, 0, none⟩) (nf + 1) d5], .int .i64 (x)]) (by simp [results, Try.results7, go_sem, f0, f1, f2, f3, f4, f5]) rfl ⟨_, by rw [HGv.out.2], by rw [HGv.out.1]; exact HRet.out.2.1, HRet.out.2.2⟩
    · have HUt := hide (hUt _ (Or.inr ⟨hc1, rfl⟩))
      clear hUt hnt
      go_wp2_with (at_builtin; (refine wpList_append_lies _ rfl _ _ 31 rfl w0.heap.size 3 i0 (.int .i64 0) 1 8 Try.underlying31 hi hz0 hz1 hz2 rfl (by decide) _ nf (ints k.fs) rfl ((HF1.out.alloc _).alloc _) ⟨w1.heap.size + 1, 0, none⟩ 1 1 [.int .i64 (x)] rfl rfl ?c0 ?c1 (by decide) ?c3 ?c4 ?c5 _ rfl ?_))
      case c0 => exact one_newC _ _ (by simp) _ _
      case c1 => intro u hu; simp at hu; subst hu; rfl
      case c3 => unfold maxLen; omega
      case c4 => omega
      case c5 => have := HGt.out.1; simp; omega
      intro b5 d5 w5 hown5 hg5 hb5 hl5
      obtain ⟨e5, e6, e7, e8, e9, e10⟩ := give_app (us' := t) (n' := nx) HLn.out.2.2.2.2 HN1.out (HUt.out.1) (HUt.out.2) hg HR1.out (by have := HA.out; omega) HA.out.1 HGt.out.1 HB1.out hown5 hg5 (by rcases hb5 with hb5 | hb5; exact Or.inl hb5; right; (try simp at hb5); omega)
      have s5 : w5.cell? ⟨w1.heap.size, 5, none⟩ = some (.slice a5 nf c5) := by rw [← hg]; exact (cell_at e5 5).1
      have z5 : w5.frozen? ⟨w1.heap.size, 5, none⟩ = false := by rw [← hg]; exact (cell_at e5 5).2
      obtain ⟨w6, hw6⟩ : ∃ w6, w6 = w5.setCell ⟨g, 5, none⟩ (.slice (some ⟨b5, 0, none⟩) (nf + 1) d5) := ⟨_, rfl⟩
      rw [← hw6] at e6 e7 e8 e9 e10
      obtain ⟨v0, v1, v2, v3, v4, v5⟩ := blk6c e6
      obtain ⟨r0, r1, r2, r3, r4, r5⟩ := blk6c e7
      have zr0 := (cell_at e7 0).2
      have zr1 := (cell_at e7 1).2
      have zr2 := (cell_at e7 2).2
      have zr3 := (cell_at e7 3).2
      have zr4 := (cell_at e7 4).2
      have zr5 := (cell_at e7 5).2
      have hret := ret_work (w := w) e7 e8 (by have := HA.out; omega) (by have := HA.out; omega) e9
      have HRet := hide hret
      rw [hw6, hg] at v0 v1 v2 v3 v4 v5 r0 r1 r2 r3 r4 r5 zr0 zr1 zr2 zr3 zr4 zr5
      have HW6 := hide hw6
      have HG := hide hg
      have HE6 := hide (⟨e6, e7, e8, e9, e10⟩ : _ ∧ _ ∧ _ ∧ _ ∧ _)
      clear hown5 hg5 hb5 hl5 e5 e6 e7 e8 e9 e10 hret hw6 hg hw2 hng1 hng0 hgt
      go_wp2_with fail
      rw [← HG.out, ← HW6.out]
      obtain ⟨f0, f1, f2, f3, f4, f5⟩ := blk6c HRet.out.1
      refine bodyPost_ret (v := .tuple #[.agg #[.slice a1 np c1, .slice a2 nl c2, .int .i64 nx, .slice (some ⟨gu, 1, none⟩) (nu - 1) (c3 - 1), .slice a4 ng c4, .slice (some ⟨b5, 0, none⟩) (nf + 1) d5], .int .i64 (x)]) (by simp [results, Try.results7, go_sem, f0, f1, f2, f3, f4, f5]) rfl ⟨_, by rw [HGv.out.2], by rw [HGv.out.1]; exact HRet.out.2.1, HRet.out.2.2⟩
end Go.Proofs.Ytejfmjejdopglaa
