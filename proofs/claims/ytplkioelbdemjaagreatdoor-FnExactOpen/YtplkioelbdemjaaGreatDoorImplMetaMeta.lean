/-
  The program's reader of a meta: meta() by a contract.
-/
import Derived.Test.YtplkioelbdemjaaGreatDoorMetaStepI
namespace Go.Proofs.YtplkioelbdemjaaGreatDoor
open Go.RowKit

def MetaPost (w : World) (g : Nat) (s : ByteArray) (e : Ending) (w' : World) : Prop :=
  ∃ m v p bad, e = .returned v ∧ MetaOwn w' w.heap.size v m ∧ RdI w' g s p bad ∧ w.grownBy w' (some g) ∧ REndI s bad p m ∧ m.fs.length ≤ 20 ∧ ∀ f ∈ m.fs, f.2.length ≤ 40

set_option maxHeartbeats 16000000 in
set_option maxRecDepth 100000 in
theorem readerMeta_any (g : Nat) (s : ByteArray) (hs : s.size ≤ 1048576) (w : World) (hr : RdI w g s 0 false) :
    Calls Tryz.prog 74 #[.pointer (some ⟨g, 0, none⟩)] w fun e w' => MetaPost w g s e w' := by
  obtain ⟨i0, hi, hz0, hz1, hz2⟩ := info_parts Tryz.intInfo
  obtain ⟨i1, hi1, hy0, hy1, hy2⟩ := info_parts Tryz.freeInfo
  have HNum := hide (fun wx p bad h => number_any g s hs p bad wx h)
  have HCnt := hide (fun lim wx p bad h => count_any g s hs lim p bad wx h)
  have HGl : Hid (g < w.heap.size) := hide (rdI_lt hr)
  obtain ⟨wa, hwa⟩ : ∃ wa, wa = w.alloc (.cells #[.int .i64 0, .int .i64 0, .int .i64 0, .slice none 0 0] 32 (0, 0)) := ⟨_, rfl⟩
  have hba : Below w.heap.size w wa := by rw [hwa]; exact (Below.refl _ _).alloc (Nat.le_refl _) _
  have HRa : Hid (wa.heap[w.heap.size]? = some (.cells #[.int .i64 0, .int .i64 0, .int .i64 0, .slice none 0 0] 32 (0, 0))) := hide (by rw [hwa]; exact heap_alloc_new w _)
  have HWa : Hid (wa.heap.size = w.heap.size + 1) := hide (by rw [hwa]; simp)
  have HBa := hide hba
  have HC0 : Hid (RdI wa g s 0 false) := hide (rdI_block hr (hba.block g HGl.out))
  clear hba hr
  go_enter Tryz.func74, Tryz.ntmps74
  go_wp2_with fail
  rw [← hwa]
  clear hwa
  refine (HNum.out _ 0 false HC0.out).mono ?_
  rintro e w2 ⟨x2, q2, bad2, rfl, hc2, hg2, ho2⟩
  have HR2 : Hid (RhI s bad2 q2 [(x2 : Int)]) := hide (rhI_step (rhI_start s) (by simp) ho2)
  have HG2 : Hid (wa.grownBy w2 (some g)) := hide hg2
  have HC2 := hide hc2
  clear hc2 hg2 ho2 HC0
  go_wp2_with fail
  refine (HNum.out _ q2 bad2 HC2.out).mono ?_
  rintro e w3 ⟨x3, q3, bad3, rfl, hc3, hg3, ho3⟩
  have HR3 : Hid (RhI s bad3 q3 [(x2 : Int), (x3 : Int)]) := hide (rhI_step HR2.out (by simp) ho3)
  have HG3 : Hid (wa.grownBy w3 (some g)) := hide (grM_trans HG2.out hg3)
  have HC3 := hide hc3
  clear hc3 hg3 ho3 HC2 HG2 HR2
  go_wp2_with fail
  refine (HNum.out _ q3 bad3 HC3.out).mono ?_
  rintro e w4 ⟨x4, q4, bad4, rfl, hc4, hg4, ho4⟩
  have HR4 : Hid (RhI s bad4 q4 [(x2 : Int), (x3 : Int), (x4 : Int)]) := hide (rhI_step HR3.out (by simp) ho4)
  have HG4 : Hid (wa.grownBy w4 (some g)) := hide (grM_trans HG3.out hg4)
  obtain ⟨tx, htx⟩ : ∃ tx : Int, tx = (x2 : Int) := ⟨_, rfl⟩
  obtain ⟨root, hro⟩ : ∃ tx : Int, tx = (x3 : Int) := ⟨_, rfl⟩
  obtain ⟨next, hne⟩ : ∃ tx : Int, tx = (x4 : Int) := ⟨_, rfl⟩
  rw [← htx, ← hro, ← hne] at HR4 ⊢
  obtain ⟨gm, hgm⟩ : ∃ gm, gm = w4.heap.size := ⟨_, rfl⟩
  obtain ⟨w5, hw5⟩ : ∃ w5, w5 = w4.alloc (.cells #[.int .i64 tx, .int .i64 root, .int .i64 next, .slice none 0 0] 32 (0, 0)) := ⟨_, rfl⟩
  have hb5 : Below w4.heap.size w4 w5 := by rw [hw5]; exact (Below.refl _ _).alloc (Nat.le_refl _) _
  have HM5 : Hid (MGr w5 gm tx root next (.slice none 0 0) [] []) := hide (by rw [hw5, hgm]; exact mgr_new w4 tx root next)
  have HC5 : Hid (RdI w5 g s q4 bad4) := hide (rdI_block hc4 (hb5.block g (rdI_lt hc4)))
  have HG5 : Hid (wa.grownBy w5 (some g)) := hide (grM_trans HG4.out (grown_of_below hb5 _))
  have HLg : Hid (wa.heap.size ≤ gm) := hide (by rw [hgm]; exact HG4.out.size)
  have HLt : Hid (g < gm) := hide (by have h1 := HGl.out; have h2 := HLg.out; have h3 := HWa.out; omega)
  have HGm := hide hgm
  clear hc4 hg4 ho4 hb5 htx hro hne HC3 HG3 HR3 HG4
  go_wp2_with fail
  rw [← HGm.out]
  try rw [← hw5]
  clear hw5 hgm
  refine (HCnt.out 20 _ q4 bad4 HC5.out).mono ?_
  rintro e w6 ⟨cnt, q6, bad6, rfl, hc6, hg6, ho6⟩
  obtain ⟨hcnt, hRo⟩ := cntI_ro HR4.out ho6
  have HRo0 := hide hRo
  have HM6 := hide (mgr_grown HM5.out hg6 HLt.out)
  have HC6 := hide hc6
  have HG6 : Hid (wa.grownBy w6 (some g)) := hide (grM_trans HG5.out hg6)
  clear hc6 hg6 ho6 HM5 HC5 HG5 HR4 hRo
  go_wp2_with fail
  go_loopg [14] cnt (fun q iv wr => ∃ (i p : Nat) (bad : Bool) (vf : Value) (l : List (Int × Value)) (fs : List (Int × List Int)), i ≤ cnt ∧ iv = .int .i64 (i : Int) ∧ q + i = cnt ∧ Hid (fs.length = i) ∧ Hid (∀ f ∈ fs, f.2.length ≤ 40) ∧ Hid (RoI s bad p tx root next cnt fs) ∧ Hid (RdI wr g s p bad) ∧ Hid (MGr wr gm tx root next vf l fs) ∧ Hid (wa.grownBy wr (some g)))
  case atStart => exact ⟨0, _, _, _, [], [], Nat.zero_le _, rfl, by omega, hide rfl, hide (fun f hf => by cases hf), HRo0, HC6, HM6, HG6⟩
  case round =>
    clear HRo0 HC6 HM6 HG6
    obtain ⟨i, p, bad, vf, l, fs, hil, rfl, hg, HFl, HPl, HRo, HCu, HMg, HGr⟩ := hrel
    have HG := hide hg
    clear hg
    obtain ⟨gq, hgq⟩ : ∃ gq, gq = gk := ⟨_, rfl⟩
    have HGQ := hide hgq
    clear hgq
    by_cases e1 : i < cnt
    · have d1 : decide ((i : Int) < (cnt : Int)) = true := decide_eq_true (by omega)
      go_wp2_with fail
      refine (HNum.out _ p bad HCu.out).mono ?_
      rintro e w5 ⟨x5, q5, bad5, rfl, hc5, hg5, ho5⟩
      have HRf : Hid (RfI s bad5 q5 tx root next cnt fs (x5 : Int)) := hide (rfI_step HRo.out (by have := HFl.out; omega) ho5)
      have HM5 := hide (mgr_grown HMg.out hg5 HLt.out)
      have HG5 : Hid (wa.grownBy w5 (some g)) := hide (grM_trans HGr.out hg5)
      obtain ⟨ftx, hftx⟩ : ∃ ftx : Int, ftx = (x5 : Int) := ⟨_, rfl⟩
      rw [← hftx] at HRf ⊢
      obtain ⟨w6, hw6⟩ : ∃ w6, w6 = w5.alloc (.cells #[.int .i64 ftx, .slice none 0 0] 92 (0, 0)) := ⟨_, rfl⟩
      have hb6 : Below w5.heap.size w5 w6 := by rw [hw6]; exact (Below.refl _ _).alloc (Nat.le_refl _) _
      have HF6 : Hid (FGr w6 gm w5.heap.size ftx (.slice none 0 0) [] vf l) := hide (by rw [hw6]; exact fgr_new HM5.out ftx)
      have HM6 := hide (mgr_below HM5.out hb6)
      have HC6 : Hid (RdI w6 g s q5 bad5) := hide (rdI_block hc5 (hb6.block g (rdI_lt hc5)))
      have HG6 : Hid (wa.grownBy w6 (some g)) := hide (grM_trans HG5.out (grown_of_below hb6 _))
      obtain ⟨gf, hgf⟩ : ∃ gf, gf = w5.heap.size := ⟨_, rfl⟩
      rw [← hgf] at HF6
      have HGf := hide hgf
      clear hc5 hg5 ho5 hb6 hftx d1
      go_wp2_with fail
      rw [← HGf.out]
      try rw [← hw6]
      clear hw6 hgf
      refine (HCnt.out 40 _ q5 bad5 HC6.out).mono ?_
      rintro e w7 ⟨k, q7, bad7, rfl, hc7, hg7, ho7⟩
      obtain ⟨hk40, hRi0⟩ := cntI_ri HRf.out ho7
      have HRi0 := hide hRi0
      have HM7 := hide (mgr_grown HM6.out hg7 HLt.out)
      have HF7 := hide (fgr_grown HF6.out hg7 HLt.out)
      have HCu7 := hide hc7
      have HGr7 : Hid (wa.grownBy w7 (some g)) := hide (grM_trans HG6.out hg7)
      clear hc7 hg7 ho7 HM6 HF6 HC6 HG6 HM5 HG5 HRf HGf hRi0
      go_wp2_with fail
      clear HCu HMg HGr HRo
      go_loopg [21] k (fun q jv wi => ∃ (j p : Nat) (bad : Bool) (vp : Value) (ps : List Int), j ≤ k ∧ jv = .int .i64 (j : Int) ∧ q + j = k ∧ Hid (ps.length = j) ∧ Hid (RiI s bad p tx root next cnt fs ftx k ps) ∧ Hid (RdI wi g s p bad) ∧ Hid (MGr wi gm tx root next vf l fs) ∧ Hid (FGr wi gm gf ftx vp ps vf l) ∧ Hid (wa.grownBy wi (some g)))
      case atStart => exact ⟨0, _, _, _, [], Nat.zero_le _, rfl, by omega, hide rfl, HRi0, HCu7, HM7, HF7, HGr7⟩
      case round =>
        obtain ⟨j, p, bad, vp, ps, hj, rfl, hg3, HPs, HRi, HCu, HMg, HFg, HGr⟩ := hrel
        have HG3 := hide hg3
        clear hg3
        by_cases e1 : j < k
        · have d1 : decide ((j : Int) < (k : Int)) = true := decide_eq_true (by omega)
          have f1 := (cell_at HFg.out.1 1).1
          obtain ⟨aP, cP, hvp⟩ := own_slice HFg.out.2.1
          subst hvp
          have hjl : j ≤ 40 := by omega
          go_wp2_with fail
          go_region_law (first | (refine step_call1 _ ?_ 82 Tryz.f82 Tryz.func82 ?_ ?_ (.tmp 25) #[123] ?_ (.pointer (some ⟨g, 0, none⟩)) ?_ _ (HNum.out _ p bad ?_) ?_; exact rfl; decide; exact Option.some_ne_none _; exact rfl; exact rfl; exact rdI_block HCu.out rfl; rintro e w2 ⟨x2, q2, bad2, rfl, hc2, hg2, ho2⟩; refine ⟨_, rfl, ?_⟩; have HM2 := hide (mgr_grown (show MGr wr.drew gm _ _ _ _ _ _ from HMg.out) hg2 HLt.out); have HF2 := hide (fgr_grown (show FGr wr.drew gm gf _ _ _ _ _ from HFg.out) hg2 HLt.out); have HC2 := hide hc2; have HG2 : Hid (wa.grownBy w2 (some g)) := hide (grM_trans (grM_dr HGr.out) hg2); have HO2 := hide ho2; have cl2 : w2.cell? ⟨gf, 1, none⟩ = some (.slice aP ps.length cP) := (cell_at HF2.out.1 1).1; have cm2 := fun o => (cell_at (fgr_below HF2.out ((Below.refl _ _).alloc (Nat.le_refl _) o)).1 1).1; clear hc2 hg2 ho2) | (refine step_append_lies _ ?_ (.tmp 24) (.tmp 27) 34 ?_ (gm + 1) 3 i0 (.int .i64 0) 1 8 Tryz.underlying34 hi hz0 hz1 hz2 ?_ ?_ (.slice aP ps.length cP) ps.length (ints ps) ?_ ((HF2.out.2.1).alloc _) ⟨w2.heap.size, 0, none⟩ 1 1 [.int .i64 (x2 : Int)] ?_ ?_ (one_newM w2 _ rfl _ _) ?_ ?_ ?_ ?_ ?_ _ rfl ?_; exact rfl; exact rfl; exact rfl; decide; exact rfl; exact rfl; exact rfl; (intro u hu; simp at hu; subst hu; rfl); decide; (have := HPs.out; unfold maxLen; omega); (have := HPs.out; omega); (have := mgr_lt HM2.out; simp; omega); intro b4 d4 w4 hown4 hg4 hb4 hl4; have HS4 := hide (page_step HM2.out HF2.out hown4 hg4 hb4); have cc4 := HS4.out.2.2.2.1; have cf4 := HS4.out.2.2.2.2; clear hown4 hg4 hb4 hl4))
          all_goals
            have HG4 : Hid (wa.grownBy (w4.setCell ⟨gf, 1, none⟩ (.slice (some ⟨b4, 0, none⟩) (ps.length + 1) d4)) (some g)) := hide (grM_low HG2.out HS4.out.2.2.1 (by have := HLg.out; omega))
            have HC4 : Hid (RdI (w4.setCell ⟨gf, 1, none⟩ (.slice (some ⟨b4, 0, none⟩) (ps.length + 1) d4)) g s q2 bad2) := hide (rdI_block HC2.out (HS4.out.2.2.1.block g (by have := HLt.out; omega)))
            have HR4 : Hid (RiI s bad2 q2 tx root next cnt fs ftx k (ps ++ [(x2 : Int)])) := hide (riI_step HRi.out (by have := HPs.out; omega) HO2.out)
            have HM4 := hide HS4.out.1
            have HF4 := hide HS4.out.2.1
            clear cc4 cf4 cl2 cm2 f1
            go_wp2_with fail
            go_roundg (gk - 1)
            case measure => have := HG3.out; omega
            case rel => exact ⟨j + 1, q2, bad2, _, ps ++ [(x2 : Int)], by omega, by go_num, by have := HG3.out; omega, hide (by rw [List.length_append, HPs.out]; rfl), HR4, HC4, HM4, HF4, HG4⟩
        · have d1 : decide ((j : Int) < (k : Int)) = false := decide_eq_false (by omega)
          have HExit : Hid (k ≤ j) := hide (by omega)
          have HRo2 : Hid (RoI s bad p tx root next cnt (fs ++ [(ftx, ps)])) := hide (riI_end HRi.out (by have h1 := HPs.out; have h2 := HExit.out; omega))
          have f0 := (cell_at HFg.out.1 0).1
          have f1 := (cell_at HFg.out.1 1).1
          have m3 := (cell_at HMg.out.1 3).1
          have hsz := mgr_lt HMg.out
          have hownF := HMg.out.2.1
          have hfl : fs.length ≤ 20 := by have := HFl.out; omega
          obtain ⟨aP, cP, hvp⟩ := own_slice HFg.out.2.1
          subst hvp
          obtain ⟨aF, cF, hvf⟩ := own_slice hownF
          subst hvf
          go_wp2_with (at_builtin; (refine wpList_append_own _ rfl _ _ 30 rfl (gm + 1) 92 i1 (.agg #[.int .i64 0, .slice none 0 0]) 2 32 Tryz.underlying30 hi1 hy0 hy1 hy2 rfl (by decide) _ _ _ rfl (hownF.alloc _) ⟨wr.heap.size, 0, none⟩ 1 1 [.int .i64 ftx, .slice aP ps.length cP] rfl rfl (free_cells _ _ rfl _ _) ?c2 ?c3 ?c4 ?c5 ?_))
          case c2 => first | exact ⟨rfl, rfl⟩ | (intro u hu; simp at hu; rcases hu with rfl | rfl <;> rfl)
          case c3 => unfold maxLen; omega
          case c4 => omega
          case c5 => first | omega | (simp; omega)
          intro v6 w6 hown6 hgrow6 _
          obtain ⟨a6, c6, hv6⟩ := own_slice hown6
          subst hv6
          have hst := free_step HMg.out HFg.out hown6 hgrow6
          have cc := hst.2.2.1
          have cf := hst.2.2.2
          have HM6 := hide hst.1
          have HG6 : Hid (wa.grownBy (w6.setCell ⟨gm, 3, none⟩ (.slice a6 (fs.length + 1) c6)) (some g)) := hide (grM_low HGr.out hst.2.1 (by have := HLg.out; omega))
          have HC6 : Hid (RdI (w6.setCell ⟨gm, 3, none⟩ (.slice a6 (fs.length + 1) c6)) g s p bad) := hide (rdI_block HCu.out (hst.2.1.block g (by have := HLt.out; omega)))
          have HPl2 : Hid (∀ f ∈ fs ++ [(ftx, ps)], f.2.length ≤ 40) := hide (fun f hf => by
            rcases List.mem_append.1 hf with hf | hf
            · exact HPl.out f hf
            · rw [List.mem_singleton] at hf
              subst hf
              have := HPs.out
              show ps.length ≤ 40
              omega)
          clear hst hown6 hgrow6 hownF hsz f0 f1 m3
          go_wp2_with fail
          go_roundg (gq - 1)
          case measure => have h1 := HGQ.out; have h2 := HG.out; omega
          case rel => exact ⟨i + 1, p, bad, _, _, fs ++ [(ftx, ps)], by omega, by go_num, by have h1 := HGQ.out; have h2 := HG.out; omega, hide (by rw [List.length_append, HFl.out]; rfl), HPl2, HRo2, HC6, HM6, HG6⟩
    · have d1 : decide ((i : Int) < (cnt : Int)) = false := decide_eq_false (by omega)
      have HE : Hid (REndI s bad p ⟨tx, root, next, fs⟩) := hide (roI_end HRo.out (by have h1 := HFl.out; omega))
      obtain ⟨aF, cF, hvf⟩ := own_slice HMg.out.2.1
      subst hvf
      have HMo := hide (mgr_own (m := ⟨tx, root, next, fs⟩) HMg.out)
      obtain ⟨FL, hFL⟩ : ∃ FL, FL = fs.length := ⟨_, rfl⟩
      rw [← hFL] at HMg HMo
      have HFL := hide hFL
      have m0 := (cell_at HMg.out.1 0).1
      have m1 := (cell_at HMg.out.1 1).1
      have m2 := (cell_at HMg.out.1 2).1
      have m3 := (cell_at HMg.out.1 3).1
      have ra : wr.heap[w.heap.size]? = some (.cells #[.int .i64 0, .int .i64 0, .int .i64 0, .slice none 0 0] 32 (0, 0)) := (HGr.out.block _ (by have := HWa.out; omega) (fun e => by injection e with e; have := HGl.out; omega)).trans HRa.out
      have a0 := (cell_at ra 0).1
      have a1 := (cell_at ra 1).1
      have a2 := (cell_at ra 2).1
      have a3 := (cell_at ra 3).1
      have z0 := (cell_at ra 0).2
      have z1 := (cell_at ra 1).2
      have z2 := (cell_at ra 2).2
      have z3 := (cell_at ra 3).2
      have HRA := hide ra
      clear hFL ra
      go_wp2_with fail
      have hrt := ret_meta (m := ⟨tx, root, next, fs⟩) HRA.out (metaOwn_down HMo.out (show w.heap.size + 1 ≤ gm + 1 by have := HWa.out; have := HLg.out; omega)) (by omega)
      have t0 := (cell_at hrt.1 0).1
      have t1 := (cell_at hrt.1 1).1
      have t2 := (cell_at hrt.1 2).1
      have t3 := (cell_at hrt.1 3).1
      dsimp only at t0 t1 t2 t3
      refine bodyPost_ret (v := .agg #[.int .i64 tx, .int .i64 root, .int .i64 next, .slice aF FL cF]) (by simp [results, Tryz.results74, go_sem, t0, t1, t2, t3]) rfl ⟨⟨tx, root, next, fs⟩, _, p, bad, rfl, metaOwn_down hrt.2.1 (by omega), rdI_block HCu.out (hrt.2.2.block g HGl.out), ?_, HE.out, by have := HFl.out; show fs.length ≤ 20; omega, HPl.out⟩
      exact grM_low (grM_trans (grown_of_below HBa.out _) HGr.out) hrt.2.2 (Nat.le_refl _)
end Go.Proofs.YtplkioelbdemjaaGreatDoor
