/-
  The program's metaIn by a contract: the meta that a text tells, and an error where there is none.
-/
import Derived.Test.YtplkioelbdemjaaGreatDoorImplMetaMeta
import Derived.Test.YtplkioelbdemjaaGreatDoorImplMeta
namespace Go.Proofs.YtplkioelbdemjaaGreatDoor
open Go.RowKit

def InPost (w : World) (t : ByteArray) (e : Ending) (w' : World) : Prop :=
  ∃ m v ev bad, e = .returned (.tuple #[v, ev]) ∧ BadV ev bad ∧ MetaOwn w' w.heap.size v m ∧ Below w.heap.size w w' ∧ (bad = false → ReadM t m true) ∧ (bad = true → ∀ m', ¬ IsM t m')

set_option maxHeartbeats 8000000 in
set_option maxRecDepth 100000 in
theorem metaIn_any (t : ByteArray) (ht : t.size ≤ 1048576) (w : World) (hT : SumTab w) :
    Calls Tryz.prog 60 #[.string t] w fun e w' => InPost w t e w' := by
  obtain ⟨wa, hwa⟩ : ∃ wa, wa = w.alloc (.cells #[.int .i64 0, .int .i64 0, .int .i64 0, .slice none 0 0] 32 (0, 0)) := ⟨_, rfl⟩
  have hba : Below w.heap.size w wa := by rw [hwa]; exact (Below.refl _ _).alloc (Nat.le_refl _) _
  have hra : wa.heap[w.heap.size]? = some (.cells #[.int .i64 0, .int .i64 0, .int .i64 0, .slice none 0 0] 32 (0, 0)) := by rw [hwa]; exact heap_alloc_new w _
  have HWa : Hid (wa.heap.size = w.heap.size + 1) := hide (by rw [hwa]; simp)
  have HBa := hide hba
  have HRa := hide hra
  have HTa := hide (sumTab_below hT hba)
  clear hba hra hT
  have HZ : Hid (∀ wx : World, wx.heap[w.heap.size]? = some (.cells #[.int .i64 0, .int .i64 0, .int .i64 0, .slice none 0 0] 32 (0, 0)) → wx.heap.size > w.heap.size) := hide (fun wx h => (Array.getElem?_eq_some_iff.1 h).1)
  by_cases hbig : 240 < t.size
  · have d1 : decide ((240 : Int) < (t.size : Int)) = true := decide_eq_true (by omega)
    have HNo : Hid (∀ m', ¬ IsM t m') := hide (fun m' hm => by have := isM_size hm; omega)
    have a0 := (cell_at HRa.out 0).1
    have a1 := (cell_at HRa.out 1).1
    have a2 := (cell_at HRa.out 2).1
    have a3 := (cell_at HRa.out 3).1
    go_enter Tryz.func60, Tryz.ntmps60
    go_wp2_with fail
    rw [← hwa]
    refine bodyPost_ret (v := .tuple #[.agg #[.int .i64 0, .int .i64 0, .int .i64 0, .slice none 0 0], .iface 110 (.agg #[.int .i64 1])]) (by simp [results, Tryz.results60, go_sem, a0, a1, a2, a3]) rfl ⟨Mt.none, _, _, true, rfl, Or.inr ⟨rfl, 1, by decide, rfl⟩, zero_own wa _, HBa.out, (fun h => by cases h), fun _ => HNo.out⟩
  · have d1 : decide ((240 : Int) < (t.size : Int)) = false := decide_eq_false (by omega)
    obtain ⟨s, ok, hun, hsz, hno, hfn, hsl⟩ := text_un t
    have HUn := hide (fun wx h => implUnsealed_any t ht wx h)
    rw [hun] at HUn
    have HFn := hide hfn
    have HNoS := hide hno
    have HSl := hide hsl
    have HSm : Hid (t.size ≤ 240) := hide (by omega)
    clear hun hno hfn hsl
    go_enter Tryz.func60, Tryz.ntmps60
    go_wp2_with fail
    rw [← hwa]
    clear hwa
    refine (HUn.out _ HTa.out).mono ?_
    rintro e w1 ⟨rfl, hb1⟩
    have HB1 : Hid (Below w.heap.size w w1) := hide (HBa.out.trans (hb1.mono HBa.out.size))
    have HR1 := hide ((hb1.block _ (Array.getElem?_eq_some_iff.1 HRa.out).1).trans HRa.out)
    clear hb1
    cases ok with
    | false =>
      have HNo : Hid (∀ m', ¬ IsM t m') := hide (fun m' hm => HNoS.out rfl m' (HFn.out m' hm).1 (HFn.out m' hm).2)
      have a0 := (cell_at HR1.out 0).1
      have a1 := (cell_at HR1.out 1).1
      have a2 := (cell_at HR1.out 2).1
      have a3 := (cell_at HR1.out 3).1
      have z0 := (cell_at HR1.out 0).2
      have z1 := (cell_at HR1.out 1).2
      have z2 := (cell_at HR1.out 2).2
      have z3 := (cell_at HR1.out 3).2
      go_wp2_with fail
      have hrt := ret_meta (m := ⟨0, 0, 0, []⟩) (vf := .slice none 0 0) HR1.out (zero_own w1 (w.heap.size + 1)) (by omega)
      have t0 := (cell_at hrt.1 0).1
      have t1 := (cell_at hrt.1 1).1
      have t2 := (cell_at hrt.1 2).1
      have t3 := (cell_at hrt.1 3).1
      dsimp only at t0 t1 t2 t3
      refine bodyPost_ret (v := .tuple #[.agg #[.int .i64 0, .int .i64 0, .int .i64 0, .slice none 0 0], .iface 110 (.agg #[.int .i64 1])]) (by simp [results, Tryz.results60, go_sem, t0, t1, t2, t3]) rfl ⟨Mt.none, _, _, true, rfl, Or.inr ⟨rfl, 1, by decide, rfl⟩, metaOwn_down hrt.2.1 (by omega), HB1.out.trans (hrt.2.2.mono (by have := HB1.out.size; omega)), (fun h => by cases h), fun _ => HNo.out⟩
    | true =>
      have HSe := hide (HSl.out rfl)
      obtain ⟨wb, hwb⟩ : ∃ wb, wb = w1.alloc (.cells #[.string s, .int .i64 0, .nilIface] 112 (0, 0)) := ⟨_, rfl⟩
      have hbb : Below w1.heap.size w1 wb := by rw [hwb]; exact (Below.refl _ _).alloc (Nat.le_refl _) _
      obtain ⟨g, hgd⟩ : ∃ g, g = w1.heap.size := ⟨_, rfl⟩
      have HCb : Hid (RdI wb g s 0 false) := hide ⟨.nilIface, by rw [hwb, hgd]; exact heap_alloc_new w1 _, Or.inl ⟨rfl, rfl⟩⟩
      have HBb : Hid (Below w.heap.size w wb) := hide (HB1.out.trans (hbb.mono HB1.out.size))
      have HRb := hide ((hbb.block _ (Array.getElem?_eq_some_iff.1 HR1.out).1).trans HR1.out)
      have HWb : Hid (w.heap.size < g ∧ g < wb.heap.size) := hide ⟨by rw [hgd]; exact (Array.getElem?_eq_some_iff.1 HR1.out).1, rdI_lt HCb.out⟩
      have HMe := hide (fun wx h => readerMeta_any g s (by omega) wx h)
      have HGd := hide hgd
      clear hbb HR1 HRa
      go_wp2_with fail
      rw [← HGd.out]
      try rw [← hwb]
      clear hwb hgd
      refine (HMe.out _ HCb.out).mono ?_
      rintro e w2 ⟨m, v, p, bad, rfl, hmo, hrd, hg2, hend, hl20, hl40⟩
      obtain ⟨vf, l, rfl, hof⟩ := hmo
      obtain ⟨tx, root, next, fs⟩ := m
      dsimp only at hof hl20 hl40 ⊢
      obtain ⟨aF, cF, rfl⟩ := own_slice hof.1
      have HEnd := hide hend
      have HOk := hide (fun u wx h => implMetaOk_any u ⟨tx, root, next, fs⟩ (by show fs.length ≤ _; omega) (fun f hf => by have := hl40 f hf; omega) wx h)
      have HMo : Hid (MetaOwn w2 wb.heap.size (.agg #[.int .i64 tx, .int .i64 root, .int .i64 next, .slice aF fs.length cF]) ⟨tx, root, next, fs⟩) := hide ⟨_, l, rfl, hof⟩
      obtain ⟨FL, hFL⟩ : ∃ FL, FL = fs.length := ⟨_, rfl⟩
      rw [← hFL] at HMo ⊢
      have HRd := hide hrd
      have HG2 := hide hg2
      obtain ⟨w3, hw3⟩ : ∃ w3, w3 = w2.alloc (.cells #[.int .i64 tx, .int .i64 root, .int .i64 next, .slice aF FL cF] 32 (0, 0)) := ⟨_, rfl⟩
      have hb3 : Below w2.heap.size w2 w3 := by rw [hw3]; exact (Below.refl _ _).alloc (Nat.le_refl _) _
      obtain ⟨gm, hgm⟩ : ∃ gm, gm = w2.heap.size := ⟨_, rfl⟩
      have HM3 : Hid (w3.heap[gm]? = some (.cells #[.int .i64 tx, .int .i64 root, .int .i64 next, .slice aF FL cF] 32 (0, 0))) := hide (by rw [hw3, hgm]; exact heap_alloc_new w2 _)
      have HR3 : Hid (RdI w3 g s p bad) := hide (rdI_block hrd (hb3.block g (rdI_lt hrd)))
      have HG3 : Hid (wb.grownBy w3 (some g)) := hide (grM_trans hg2 (grown_of_below hb3 _))
      have HMo3 := hide (metaOwn_below HMo.out hb3)
      have HLm : Hid (wb.heap.size ≤ gm) := hide (by rw [hgm]; exact hg2.size)
      have HGm := hide hgm
      -- what stays behind any further change of the reader
      have HStay : Hid (∀ wx, w3.grownBy wx (some g) → wx.heap[gm]? = some (.cells #[.int .i64 tx, .int .i64 root, .int .i64 next, .slice aF FL cF] 32 (0, 0)) ∧ wx.heap[w.heap.size]? = some (.cells #[.int .i64 0, .int .i64 0, .int .i64 0, .slice none 0 0] 32 (0, 0)) ∧ MetaOwn wx (w.heap.size + 1) (.agg #[.int .i64 tx, .int .i64 root, .int .i64 next, .slice aF FL cF]) ⟨tx, root, next, fs⟩ ∧ Below w.heap.size w wx) := hide (fun wx h => by
        have h1 := HWb.out
        have h2 := HLm.out
        have hgx := grM_trans HG3.out h
        refine ⟨(h.block gm (Array.getElem?_eq_some_iff.1 HM3.out).1 (fun e => by injection e with e; omega)).trans HM3.out, (hgx.block w.heap.size (by omega) (fun e => by injection e with e; omega)).trans HRb.out, ?_, HBb.out.grown hgx (by omega) (fun k e => by injection e with e; omega)⟩
        obtain ⟨uf, ll, e, ho⟩ := HMo3.out
        exact ⟨uf, ll, e, ownF_down (ownF_grown ho h (fun b hb e => by injection e with e; have := (ownF_lt ho b hb).1; omega)) (by omega)⟩)
      obtain ⟨ev0, hr0, hbv0⟩ := HR3.out
      have c1 : w3.cell? ⟨g, 1, none⟩ = some (.int .i64 (p : Int)) := (cell_at hr0 1).1
      have HBv0 := hide hbv0
      have HR0 := hide hr0
      clear hrd hg2 hend hl20 hl40 hof hb3 hFL HMo HRd HG2 hr0 hbv0
      rw [hw3] at c1
      by_cases hp : p = s.size
      · have e1 : ((p : Int) != (s.size : Int)) = false := by rw [hp]; simp
        have HP := hide hp
        clear hp
        obtain ⟨p3, -, p5, p6⟩ := HStay.out w3 (grM_refl w3 g)
        have HAt := hide (meta_of_own p5)
        clear p3 p5 p6
        go_wp2_with fail
        rw [← HGm.out]
        try rw [← hw3]
        clear hw3 hgm
        refine (HOk.out _ _ HAt.out).mono ?_
        rintro e w4 ⟨rfl, hb4⟩
        have HG4 : Hid (w3.grownBy w4 (some g)) := hide (grown_of_below hb4 _)
        have HR4 : Hid (RdT w4 g s p ev0) := hide ((hb4.block g (Array.getElem?_eq_some_iff.1 HR0.out).1).trans HR0.out)
        clear hb4 c1
        cases hok : Mt.ok ⟨tx, root, next, fs⟩ with
        | true =>
          have HMq := hide (HStay.out w4 HG4.out).1
          have HRq := hide (HStay.out w4 HG4.out).2.1
          have HMo2 := hide (HStay.out w4 HG4.out).2.2.1
          have HBq := hide (HStay.out w4 HG4.out).2.2.2
          obtain ⟨ev, hev⟩ : ∃ ev, ev = ev0 := ⟨_, rfl⟩
          have HRe : Hid (RdT w4 g s p ev) := hide (by rw [hev]; exact HR4.out)
          have HBv : Hid (BadV ev bad) := hide (by rw [hev]; exact HBv0.out)
          have HYN : Hid ((bad = false → ReadM t ⟨tx, root, next, fs⟩ true) ∧ (bad = true → ∀ m', ¬ IsM t m')) := hide ⟨fun h => by subst h; exact rdI_true HEnd.out HFn.out HSe.out.1 HSe.out.2 HSm.out HP.out hok, fun h => rdI_none HEnd.out HFn.out (Or.inl h)⟩
          clear hev hok
          have q0 : w4.cell? ⟨gm, 0, none⟩ = some (.int .i64 tx) := (cell_at HMq.out 0).1
          have q1 : w4.cell? ⟨gm, 1, none⟩ = some (.int .i64 root) := (cell_at HMq.out 1).1
          have q2 : w4.cell? ⟨gm, 2, none⟩ = some (.int .i64 next) := (cell_at HMq.out 2).1
          have q3 : w4.cell? ⟨gm, 3, none⟩ = some (.slice aF FL cF) := (cell_at HMq.out 3).1
          have qe : w4.cell? ⟨g, 2, none⟩ = some ev := (cell_at HRe.out 2).1
          have a0 : w4.cell? ⟨w.heap.size, 0, none⟩ = some (.int .i64 0) := (cell_at HRq.out 0).1
          have a1 : w4.cell? ⟨w.heap.size, 1, none⟩ = some (.int .i64 0) := (cell_at HRq.out 1).1
          have a2 : w4.cell? ⟨w.heap.size, 2, none⟩ = some (.int .i64 0) := (cell_at HRq.out 2).1
          have a3 : w4.cell? ⟨w.heap.size, 3, none⟩ = some (.slice none 0 0) := (cell_at HRq.out 3).1
          have z0 := (cell_at HRq.out 0).2
          have z1 := (cell_at HRq.out 1).2
          have z2 := (cell_at HRq.out 2).2
          have z3 := (cell_at HRq.out 3).2
          have n1 : g ≠ w.heap.size := by have := HWb.out; omega
          have n2 : w.heap.size ≠ g := by have := HWb.out; omega
          have n3 : gm ≠ w.heap.size := by have h1 := HWb.out; have h2 := HLm.out; omega
          have n4 : w.heap.size ≠ gm := by have h1 := HWb.out; have h2 := HLm.out; omega
          go_wp2_with fail
          go_region
          all_goals (try go_wp2_with fail)
          all_goals
            have hrt := ret_meta (w := w4) (m := ⟨tx, root, next, fs⟩) HRq.out HMo2.out (by omega)
            have t0 := (cell_at hrt.1 0).1
            have t1 := (cell_at hrt.1 1).1
            have t2 := (cell_at hrt.1 2).1
            have t3 := (cell_at hrt.1 3).1
            dsimp only at t0 t1 t2 t3
            refine bodyPost_ret (v := .tuple #[.agg #[.int .i64 tx, .int .i64 root, .int .i64 next, .slice aF FL cF], ev]) (by simp [results, Tryz.results60, go_sem, t0, t1, t2, t3]) rfl ⟨⟨tx, root, next, fs⟩, _, ev, bad, rfl, HBv.out, metaOwn_below (metaOwn_down hrt.2.1 (by omega)) (Below.refl _ _).drew, (HBq.out.trans (hrt.2.2.mono (by have := HBq.out.size; omega))).drew, HYN.out.1, HYN.out.2⟩
        | false =>
          have HNo : Hid (∀ m', ¬ IsM t m') := hide (rdI_none HEnd.out HFn.out (Or.inr (Or.inr hok)))
          have HFa := hide (fail_any g s p bad 5 (by decide) w4 ⟨ev0, HR4.out, HBv0.out⟩)
          clear hok
          go_wp2_with fail
          refine HFa.out.mono ?_
          rintro e w5 ⟨rfl, ⟨ev, hr5, hb5⟩, hg5⟩
          have HG5 : Hid (w3.grownBy w5 (some g)) := hide (grM_trans HG4.out hg5)
          have HMq := hide (HStay.out w5 HG5.out).1
          have HRq := hide (HStay.out w5 HG5.out).2.1
          have HMo2 := hide (HStay.out w5 HG5.out).2.2.1
          have HBq := hide (HStay.out w5 HG5.out).2.2.2
          have HRe := hide hr5
          have HBv := hide hb5
          clear hr5 hb5 hg5
          have q0 : w5.cell? ⟨gm, 0, none⟩ = some (.int .i64 tx) := (cell_at HMq.out 0).1
          have q1 : w5.cell? ⟨gm, 1, none⟩ = some (.int .i64 root) := (cell_at HMq.out 1).1
          have q2 : w5.cell? ⟨gm, 2, none⟩ = some (.int .i64 next) := (cell_at HMq.out 2).1
          have q3 : w5.cell? ⟨gm, 3, none⟩ = some (.slice aF FL cF) := (cell_at HMq.out 3).1
          have qe : w5.cell? ⟨g, 2, none⟩ = some ev := (cell_at HRe.out 2).1
          have a0 : w5.cell? ⟨w.heap.size, 0, none⟩ = some (.int .i64 0) := (cell_at HRq.out 0).1
          have a1 : w5.cell? ⟨w.heap.size, 1, none⟩ = some (.int .i64 0) := (cell_at HRq.out 1).1
          have a2 : w5.cell? ⟨w.heap.size, 2, none⟩ = some (.int .i64 0) := (cell_at HRq.out 2).1
          have a3 : w5.cell? ⟨w.heap.size, 3, none⟩ = some (.slice none 0 0) := (cell_at HRq.out 3).1
          have z0 := (cell_at HRq.out 0).2
          have z1 := (cell_at HRq.out 1).2
          have z2 := (cell_at HRq.out 2).2
          have z3 := (cell_at HRq.out 3).2
          have n1 : g ≠ w.heap.size := by have := HWb.out; omega
          have n2 : w.heap.size ≠ g := by have := HWb.out; omega
          have n3 : gm ≠ w.heap.size := by have h1 := HWb.out; have h2 := HLm.out; omega
          have n4 : w.heap.size ≠ gm := by have h1 := HWb.out; have h2 := HLm.out; omega
          go_wp2_with fail
          go_region
          all_goals (try go_wp2_with fail)
          all_goals
            have hrt := ret_meta (w := w5) (m := ⟨tx, root, next, fs⟩) HRq.out HMo2.out (by omega)
            have t0 := (cell_at hrt.1 0).1
            have t1 := (cell_at hrt.1 1).1
            have t2 := (cell_at hrt.1 2).1
            have t3 := (cell_at hrt.1 3).1
            dsimp only at t0 t1 t2 t3
            refine bodyPost_ret (v := .tuple #[.agg #[.int .i64 tx, .int .i64 root, .int .i64 next, .slice aF FL cF], ev]) (by simp [results, Tryz.results60, go_sem, t0, t1, t2, t3]) rfl ⟨⟨tx, root, next, fs⟩, _, ev, true, rfl, HBv.out, metaOwn_below (metaOwn_down hrt.2.1 (by omega)) (Below.refl _ _).drew, (HBq.out.trans (hrt.2.2.mono (by have := HBq.out.size; omega))).drew, (fun h => by cases h), fun _ => HNo.out⟩
      · have e1 : ((p : Int) != (s.size : Int)) = true := by rw [bne_iff_ne]; omega
        have HNo : Hid (∀ m', ¬ IsM t m') := hide (rdI_none HEnd.out HFn.out (Or.inr (Or.inl hp)))
        have HFa := hide (fail_any g s p bad 4 (by decide) w3 ⟨ev0, HR0.out, HBv0.out⟩)
        clear hp
        go_wp2_with fail
        rw [← HGm.out]
        try rw [← hw3]
        clear hw3 hgm
        refine HFa.out.mono ?_
        rintro e w4 ⟨rfl, ⟨ev1, hr4, hb4⟩, hg4⟩
        obtain ⟨p3, -, p5, p6⟩ := HStay.out w4 hg4
        have HAt := hide (meta_of_own p5)
        have q0 := (cell_at p3 0).1
        have q1 := (cell_at p3 1).1
        have q2 := (cell_at p3 2).1
        have q3 := (cell_at p3 3).1
        have HG4 := hide hg4
        have HR4 := hide hr4
        have HB4 := hide hb4
        clear p3 p5 p6 hr4 hb4 hg4 c1
        go_wp2_with fail
        refine (HOk.out _ _ HAt.out).mono ?_
        rintro e w5 ⟨rfl, hb5⟩
        have HG5 : Hid (w3.grownBy w5 (some g)) := hide (grM_trans HG4.out (grown_of_below hb5 _))
        have HR5 : Hid (RdT w5 g s p ev1) := hide ((hb5.block g (Array.getElem?_eq_some_iff.1 HR4.out).1).trans HR4.out)
        clear hb5 q0 q1 q2 q3
        cases hok : Mt.ok ⟨tx, root, next, fs⟩ with
        | true =>
          clear hok
          have HMq := hide (HStay.out w5 HG5.out).1
          have HRq := hide (HStay.out w5 HG5.out).2.1
          have HMo2 := hide (HStay.out w5 HG5.out).2.2.1
          have HBq := hide (HStay.out w5 HG5.out).2.2.2
          obtain ⟨ev, hev⟩ : ∃ ev, ev = ev1 := ⟨_, rfl⟩
          have HRe : Hid (RdT w5 g s p ev) := hide (by rw [hev]; exact HR5.out)
          have HBv : Hid (BadV ev true) := hide (by rw [hev]; exact HB4.out)
          clear hev
          have q0 : w5.cell? ⟨gm, 0, none⟩ = some (.int .i64 tx) := (cell_at HMq.out 0).1
          have q1 : w5.cell? ⟨gm, 1, none⟩ = some (.int .i64 root) := (cell_at HMq.out 1).1
          have q2 : w5.cell? ⟨gm, 2, none⟩ = some (.int .i64 next) := (cell_at HMq.out 2).1
          have q3 : w5.cell? ⟨gm, 3, none⟩ = some (.slice aF FL cF) := (cell_at HMq.out 3).1
          have qe : w5.cell? ⟨g, 2, none⟩ = some ev := (cell_at HRe.out 2).1
          have a0 : w5.cell? ⟨w.heap.size, 0, none⟩ = some (.int .i64 0) := (cell_at HRq.out 0).1
          have a1 : w5.cell? ⟨w.heap.size, 1, none⟩ = some (.int .i64 0) := (cell_at HRq.out 1).1
          have a2 : w5.cell? ⟨w.heap.size, 2, none⟩ = some (.int .i64 0) := (cell_at HRq.out 2).1
          have a3 : w5.cell? ⟨w.heap.size, 3, none⟩ = some (.slice none 0 0) := (cell_at HRq.out 3).1
          have z0 := (cell_at HRq.out 0).2
          have z1 := (cell_at HRq.out 1).2
          have z2 := (cell_at HRq.out 2).2
          have z3 := (cell_at HRq.out 3).2
          have n1 : g ≠ w.heap.size := by have := HWb.out; omega
          have n2 : w.heap.size ≠ g := by have := HWb.out; omega
          have n3 : gm ≠ w.heap.size := by have h1 := HWb.out; have h2 := HLm.out; omega
          have n4 : w.heap.size ≠ gm := by have h1 := HWb.out; have h2 := HLm.out; omega
          go_wp2_with fail
          go_region
          all_goals (try go_wp2_with fail)
          all_goals
            have hrt := ret_meta (w := w5) (m := ⟨tx, root, next, fs⟩) HRq.out HMo2.out (by omega)
            have t0 := (cell_at hrt.1 0).1
            have t1 := (cell_at hrt.1 1).1
            have t2 := (cell_at hrt.1 2).1
            have t3 := (cell_at hrt.1 3).1
            dsimp only at t0 t1 t2 t3
            refine bodyPost_ret (v := .tuple #[.agg #[.int .i64 tx, .int .i64 root, .int .i64 next, .slice aF FL cF], ev]) (by simp [results, Tryz.results60, go_sem, t0, t1, t2, t3]) rfl ⟨⟨tx, root, next, fs⟩, _, ev, true, rfl, HBv.out, metaOwn_below (metaOwn_down hrt.2.1 (by omega)) (Below.refl _ _).drew, (HBq.out.trans (hrt.2.2.mono (by have := HBq.out.size; omega))).drew, (fun h => by cases h), fun _ => HNo.out⟩
        | false =>
          have HFb := hide (fail_any g s p true 5 (by decide) w5 ⟨ev1, HR5.out, HB4.out⟩)
          clear hok
          go_wp2_with fail
          refine HFb.out.mono ?_
          rintro e w6 ⟨rfl, ⟨ev, hr6, hb6⟩, hg6⟩
          have HG6 : Hid (w3.grownBy w6 (some g)) := hide (grM_trans HG5.out hg6)
          have HMq := hide (HStay.out w6 HG6.out).1
          have HRq := hide (HStay.out w6 HG6.out).2.1
          have HMo2 := hide (HStay.out w6 HG6.out).2.2.1
          have HBq := hide (HStay.out w6 HG6.out).2.2.2
          have HRe := hide hr6
          have HBv := hide hb6
          clear hr6 hb6 hg6
          have q0 : w6.cell? ⟨gm, 0, none⟩ = some (.int .i64 tx) := (cell_at HMq.out 0).1
          have q1 : w6.cell? ⟨gm, 1, none⟩ = some (.int .i64 root) := (cell_at HMq.out 1).1
          have q2 : w6.cell? ⟨gm, 2, none⟩ = some (.int .i64 next) := (cell_at HMq.out 2).1
          have q3 : w6.cell? ⟨gm, 3, none⟩ = some (.slice aF FL cF) := (cell_at HMq.out 3).1
          have qe : w6.cell? ⟨g, 2, none⟩ = some ev := (cell_at HRe.out 2).1
          have a0 : w6.cell? ⟨w.heap.size, 0, none⟩ = some (.int .i64 0) := (cell_at HRq.out 0).1
          have a1 : w6.cell? ⟨w.heap.size, 1, none⟩ = some (.int .i64 0) := (cell_at HRq.out 1).1
          have a2 : w6.cell? ⟨w.heap.size, 2, none⟩ = some (.int .i64 0) := (cell_at HRq.out 2).1
          have a3 : w6.cell? ⟨w.heap.size, 3, none⟩ = some (.slice none 0 0) := (cell_at HRq.out 3).1
          have z0 := (cell_at HRq.out 0).2
          have z1 := (cell_at HRq.out 1).2
          have z2 := (cell_at HRq.out 2).2
          have z3 := (cell_at HRq.out 3).2
          have n1 : g ≠ w.heap.size := by have := HWb.out; omega
          have n2 : w.heap.size ≠ g := by have := HWb.out; omega
          have n3 : gm ≠ w.heap.size := by have h1 := HWb.out; have h2 := HLm.out; omega
          have n4 : w.heap.size ≠ gm := by have h1 := HWb.out; have h2 := HLm.out; omega
          go_wp2_with fail
          go_region
          all_goals (try go_wp2_with fail)
          all_goals
            have hrt := ret_meta (w := w6) (m := ⟨tx, root, next, fs⟩) HRq.out HMo2.out (by omega)
            have t0 := (cell_at hrt.1 0).1
            have t1 := (cell_at hrt.1 1).1
            have t2 := (cell_at hrt.1 2).1
            have t3 := (cell_at hrt.1 3).1
            dsimp only at t0 t1 t2 t3
            refine bodyPost_ret (v := .tuple #[.agg #[.int .i64 tx, .int .i64 root, .int .i64 next, .slice aF FL cF], ev]) (by simp [results, Tryz.results60, go_sem, t0, t1, t2, t3]) rfl ⟨⟨tx, root, next, fs⟩, _, ev, true, rfl, HBv.out, metaOwn_below (metaOwn_down hrt.2.1 (by omega)) (Below.refl _ _).drew, (HBq.out.trans (hrt.2.2.mono (by have := HBq.out.size; omega))).drew, (fun h => by cases h), fun _ => HNo.out⟩
end Go.Proofs.YtplkioelbdemjaaGreatDoor
