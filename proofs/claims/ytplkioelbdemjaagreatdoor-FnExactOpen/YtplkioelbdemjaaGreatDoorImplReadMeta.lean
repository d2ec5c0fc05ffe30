/-
  The program's ReadMeta by a contract: what reading ends with is asked for with errors.As.
-/
import Derived.Test.YtplkioelbdemjaaGreatDoorImplMetaIn
import Derived.Test.YtplkioelbdemjaaGreatDoorErrAs
namespace Go.Proofs.YtplkioelbdemjaaGreatDoor
open Go.RowKit

set_option maxHeartbeats 2000000 in
theorem faultOf_any (ev : Value) (bad : Bool) (hb : BadV ev bad) (w : World) (hE : ErrTab w) :
    Calls Tryz.prog 61 #[ev] w fun e w' => ∃ c : Int, e = .returned (.int .i64 c) ∧ (bad = false → c = 0) ∧ (bad = true → c ≠ 0) ∧ Below w.heap.size w w' := by
  obtain ⟨w0, hw0⟩ : ∃ w0, w0 = w.alloc (.cells #[.int .i64 0] 110 (0, 0)) := ⟨_, rfl⟩
  have hb0 : Below w.heap.size w w0 := by rw [hw0]; exact (Below.refl _ _).alloc (Nat.le_refl _) _
  have hq0 : w0.heap[w.heap.size]? = some (.cells #[.int .i64 0] 110 (0, 0)) := by rw [hw0]; exact heap_alloc_new w _
  have HB0 := hide hb0
  rcases hb with ⟨rfl, rfl⟩ | ⟨rfl, c, hc, rfl⟩
  · clear hb0 hq0 hE
    go_enter Tryz.func61, Tryz.ntmps61
    go_wp2_with fail
    rw [← hw0]
    clear hw0
    refine (as_nil _ _).mono ?_
    rintro e w1 ⟨rfl, rfl⟩
    go_wp2_with fail
    go_ret
    exact ⟨0, rfl, fun _ => rfl, (fun h => by cases h), HB0.out⟩
  · have HC := hide hc
    have HAs := hide (as_hit c ⟨w.heap.size, 0, none⟩ (.int .i64 0) w0 (errTab_below hE hb0) (cell_at hq0 0).1 (cell_at hq0 0).2)
    have hl0 : w.heap.size < w0.heap.size := (Array.getElem?_eq_some_iff.1 hq0).1
    have HQ := hide (⟨hq0, hl0⟩ : _ ∧ _)
    clear hb0 hq0 hE hc hl0
    go_enter Tryz.func61, Tryz.ntmps61
    go_wp2_with fail
    rw [← hw0]
    clear hw0
    refine HAs.out.mono ?_
    rintro e w1 ⟨rfl, hw1⟩
    have h4 : ∀ (a b d f : Obj), Below w0.heap.size w0 ((((w0.alloc a).alloc b).alloc d).alloc f) := fun a b d f => ((((Below.refl w0.heap.size w0).alloc (Nat.le_refl _) a).alloc (by simp) b).alloc (by simp; omega) d).alloc (by simp; omega) f
    have hB1 : Below w.heap.size w w1 := by
      rw [hw1]
      exact (HB0.out.trans ((h4 _ _ _ _).mono HB0.out.size)).setCell (Nat.le_refl _) _
    have c1 : w1.cell? ⟨w.heap.size, 0, none⟩ = some (.int .i64 c) := by
      rw [hw1]
      exact (cell_at (heap_setCell_same _ w.heap.size 0 _ _ _ (((h4 _ _ _ _).block _ HQ.out.2).trans HQ.out.1)) 0).1
    have HB1 := hide hB1
    clear hw1 hB1 h4
    go_wp2_with fail
    go_ret
    exact ⟨c, rfl, fun h => (by cases h), fun _ => HC.out, HB1.out⟩

set_option maxHeartbeats 4000000 in
set_option maxRecDepth 100000 in
theorem implReadMeta_any (t : ByteArray) (ht : t.size ≤ 1048576) (w : World) (hT : SumTab w) (hE : ErrTab w) :
    Calls Tryz.prog 42 #[.string t] w fun e w' => RmPost w t e w' := by
  obtain ⟨wa, hwa⟩ : ∃ wa, wa = w.alloc (.cells #[.int .i64 0, .int .i64 0, .int .i64 0, .slice none 0 0] 32 (0, 0)) := ⟨_, rfl⟩
  have hba : Below w.heap.size w wa := by rw [hwa]; exact (Below.refl _ _).alloc (Nat.le_refl _) _
  have HRa : Hid (wa.heap[w.heap.size]? = some (.cells #[.int .i64 0, .int .i64 0, .int .i64 0, .slice none 0 0] 32 (0, 0))) := hide (by rw [hwa]; exact heap_alloc_new w _)
  have HWa : Hid (wa.heap.size = w.heap.size + 1) := hide (by rw [hwa]; simp)
  have HIn := hide (metaIn_any t ht wa (sumTab_below hT hba))
  have HEa := hide (errTab_below hE hba)
  have HBa := hide hba
  clear hba hT hE
  go_enter Tryz.func42, Tryz.ntmps42
  go_wp2_with fail
  rw [← hwa]
  clear hwa
  refine HIn.out.mono ?_
  rintro e w1 ⟨m, v, ev, bad, rfl, hbv, hmo, hb1, hyes, hno⟩
  obtain ⟨vf, l, rfl, hof⟩ := hmo
  obtain ⟨tx, root, next, fs⟩ := m
  dsimp only at hof ⊢
  obtain ⟨aF, cF, rfl⟩ := own_slice hof.1
  have HMo : Hid (MetaOwn w1 wa.heap.size (.agg #[.int .i64 tx, .int .i64 root, .int .i64 next, .slice aF fs.length cF]) ⟨tx, root, next, fs⟩) := hide ⟨_, l, rfl, hof⟩
  obtain ⟨FL, hFL⟩ : ∃ FL, FL = fs.length := ⟨_, rfl⟩
  rw [← hFL] at HMo ⊢
  obtain ⟨w2, hw2⟩ : ∃ w2, w2 = w1.alloc (.cells #[.int .i64 tx, .int .i64 root, .int .i64 next, .slice aF FL cF] 32 (0, 0)) := ⟨_, rfl⟩
  have hb2 : Below w1.heap.size w1 w2 := by rw [hw2]; exact (Below.refl _ _).alloc (Nat.le_refl _) _
  obtain ⟨gm, hgm⟩ : ∃ gm, gm = w1.heap.size := ⟨_, rfl⟩
  have HM2 : Hid (w2.heap[gm]? = some (.cells #[.int .i64 tx, .int .i64 root, .int .i64 next, .slice aF FL cF] 32 (0, 0))) := hide (by rw [hw2, hgm]; exact heap_alloc_new w1 _)
  have hB2 : Below wa.heap.size wa w2 := hb1.trans (hb2.mono hb1.size)
  have HB2 := hide hB2
  have HMo2 := hide (metaOwn_below HMo.out hb2)
  have HFo := hide (faultOf_any ev bad hbv w2 (errTab_below HEa.out hB2))
  have HYN := hide (⟨hyes, hno⟩ : _ ∧ _)
  have HGm := hide hgm
  clear hb1 hbv hyes hno hof hb2 hB2 hFL HMo
  go_wp2_with fail
  rw [← HGm.out]
  try rw [← hw2]
  clear hw2 hgm
  refine HFo.out.mono ?_
  rintro e w3 ⟨c, rfl, hc0, hc1, hb3⟩
  have HM3 := (hb3.block gm (Array.getElem?_eq_some_iff.1 HM2.out).1).trans HM2.out
  have q0 := (cell_at HM3 0).1
  have q1 := (cell_at HM3 1).1
  have q2 := (cell_at HM3 2).1
  have q3 := (cell_at HM3 3).1
  have HB3 : Hid (Below wa.heap.size wa w3) := hide (HB2.out.trans (hb3.mono HB2.out.size))
  have HMo3 := hide (metaOwn_below HMo2.out hb3)
  have ra := (HB3.out.block w.heap.size (by have := HWa.out; omega)).trans HRa.out
  have a0 := (cell_at ra 0).1
  have a1 := (cell_at ra 1).1
  have a2 := (cell_at ra 2).1
  have a3 := (cell_at ra 3).1
  have z0 := (cell_at ra 0).2
  have z1 := (cell_at ra 1).2
  have z2 := (cell_at ra 2).2
  have z3 := (cell_at ra 3).2
  have HRA := hide ra
  have HBw : Hid (Below w.heap.size w w3) := hide (HBa.out.trans (HB3.out.mono HBa.out.size))
  clear hb3 HM3 ra
  cases bad with
  | true =>
    have d1 : (c != 0) = true := by rw [bne_iff_ne]; exact hc1 rfl
    have HRd : Hid (ReadM t Mt.none false) := hide (Or.inr ⟨rfl, rfl, HYN.out.2 rfl⟩)
    clear hc0 hc1
    go_wp2_with fail
    have hrt := ret_meta (m := ⟨0, 0, 0, []⟩) (vf := .slice none 0 0) HRA.out (zero_own w3 (w.heap.size + 1)) (by omega)
    have t0 := (cell_at hrt.1 0).1
    have t1 := (cell_at hrt.1 1).1
    have t2 := (cell_at hrt.1 2).1
    have t3 := (cell_at hrt.1 3).1
    dsimp only at t0 t1 t2 t3
    refine bodyPost_ret (v := .tuple #[.agg #[.int .i64 0, .int .i64 0, .int .i64 0, .slice none 0 0], .bool false]) (by simp [results, Tryz.results42, go_sem, t0, t1, t2, t3]) rfl ⟨Mt.none, _, false, rfl, HRd.out, metaOwn_down hrt.2.1 (by omega), HBw.out.trans (hrt.2.2.mono (by have := HBw.out.size; omega))⟩
  | false =>
    have hc : c = 0 := hc0 rfl
    subst hc
    have HRd : Hid (ReadM t ⟨tx, root, next, fs⟩ true) := hide (HYN.out.1 rfl)
    clear hc0 hc1
    go_wp2_with fail
    have hrt := ret_meta (m := ⟨tx, root, next, fs⟩) HRA.out (metaOwn_down HMo3.out (show w.heap.size + 1 ≤ wa.heap.size by have := HWa.out; omega)) (by omega)
    have t0 := (cell_at hrt.1 0).1
    have t1 := (cell_at hrt.1 1).1
    have t2 := (cell_at hrt.1 2).1
    have t3 := (cell_at hrt.1 3).1
    dsimp only at t0 t1 t2 t3
    refine bodyPost_ret (v := .tuple #[.agg #[.int .i64 tx, .int .i64 root, .int .i64 next, .slice aF FL cF], .bool true]) (by simp [results, Tryz.results42, go_sem, t0, t1, t2, t3]) rfl ⟨⟨tx, root, next, fs⟩, _, true, rfl, HRd.out, metaOwn_down hrt.2.1 (by omega), HBw.out.trans (hrt.2.2.mono (by have := HBw.out.size; omega))⟩
end Go.Proofs.YtplkioelbdemjaaGreatDoor
