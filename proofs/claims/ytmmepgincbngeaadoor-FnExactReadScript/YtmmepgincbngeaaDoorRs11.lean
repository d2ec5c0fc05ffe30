/-
  Facts and contracts that the law's own text rests on, by their texts' names: SpecFormat.
-/
import Derived.BigQuiet
import Derived.Deep.RegionHeld
import Derived.WalkKit
import Derived.Test.YtmmepgincbngeaaDoorRs2
import Derived.Test.YtmmepgincbngeaaDoorRs3
import Derived.Test.YtmmepgincbngeaaDoorRs8
import Derived.Test.YtmmepgincbngeaaDoorRs1
import Derived.Test.YtmmepgincbngeaaDoorRs10
import Derived.Test.YtmmepgincbngeaaDoorRs4
import Derived.Test.YtmmepgincbngeaaDoorRs6
namespace Go.Proofs.YtmmepgincbngeaaDoor
open Go.RowKit
def meta0 : Mt := ⟨0, 0, 2, []⟩
def formatP (n : Int) : List ByteArray := if 4 ≤ n ∧ n ≤ 40 then syncD (newP n) (writeL (newP n) [] 0 meta0.textO) else []
theorem newP_len (n : Int) : (newP n).length ≤ 40 := by
  unfold newP
  split
  · next h => rw [List.length_replicate]; omega
  · simp
theorem newP_small (n : Int) : ∀ s ∈ newP n, s.size ≤ 1048576 := fun s hs => by
  unfold newP at hs
  split at hs
  · rw [List.mem_replicate] at hs
    rw [hs.2]
    exact Nat.zero_le _
  · cases hs
theorem textO_smallF (m : Mt) : m.textO.size ≤ 1048576 := by
  cases h : m.good with
  | true =>
    have h2 := h
    rw [Mt.good, Bool.and_eq_true, decide_eq_true_eq, ← text_size] at h2
    rw [Mt.textO, if_pos h]
    omega
  | false =>
    rw [Mt.textO, if_neg (by rw [h]; decide)]
    exact Nat.zero_le _
theorem frees_none (w : World) : FreesAt w (.slice none 0 0) [] := ⟨[], rfl, ⟨rfl, none, 0, rfl, Or.inl rfl⟩, fun k tx ps p h => by simp at h⟩
theorem disk_down0 {w : World} {B B' : Nat} {v : Value} {ps : List ByteArray} {ls : List (Int × ByteArray)} (h : DiskOwn w B v ps ls) (hB : B' ≤ B) : DiskOwn w B' v ps ls := by
  obtain ⟨vp, vl, e, h1, h2⟩ := h
  exact ⟨vp, vl, e, own_down h1 hB, own_down h2 hB⟩
theorem Tryd.sizeDisk : (Tryd.prog.info? 60).map (·.size) = some 2 := by kernel_rfl
set_option maxHeartbeats 4000000 in
set_option maxRecDepth 100000 in
theorem specFormat_any (n : Int) (w : World) :
    Calls Tryd.prog 24 #[.int .i64 n] w fun e w' => ∃ v', e = .returned (.tuple #[v', .bool (decide (4 ≤ n ∧ n ≤ 40))]) ∧ DiskOwn w' w.heap.size v' (formatP n) [] ∧ Below w.heap.size w w' := by
  have HC1 := hide (fun wx => specDiskNew_any n wx)
  have HC2 := hide (fun wx => specMetaText_any (.agg #[.int .i64 0, .int .i64 0, .int .i64 2, .slice none 0 0]) meta0 (Nat.zero_le _) (fun f hf => (by cases hf)) wx ⟨_, rfl, frees_none wx⟩)
  have HC3 := hide (fun u wx h => specWritePage_any u (newP n) [] 0 meta0.textO (textO_smallF _) (by have := newP_len n; omega) (Nat.zero_le _) (newP_small n) (fun p hp => (by cases hp)) wx h)
  have HC4 := hide (fun u wx h => specSyncDisk_any u (newP n) (writeL (newP n) [] 0 meta0.textO) (by have := newP_len n; omega) (writeL_le (Nat.zero_le _)) wx h)
  have HF : Hid ((decide (4 ≤ n ∧ n ≤ 40) = true → formatP n = syncD (newP n) (writeL (newP n) [] 0 meta0.textO)) ∧ (decide (4 ≤ n ∧ n ≤ 40) = false → formatP n = [])) := hide ⟨fun h => if_pos (of_decide_eq_true h), fun h => if_neg (of_decide_eq_false h)⟩
  obtain ⟨ok, hok⟩ : ∃ b, b = decide (4 ≤ n ∧ n ≤ 40) := ⟨_, rfl⟩
  obtain ⟨ps, hps⟩ : ∃ l, l = newP n := ⟨_, rfl⟩
  obtain ⟨tx, htx⟩ : ∃ t, t = meta0.textO := ⟨_, rfl⟩
  obtain ⟨gd, hgd⟩ : ∃ b, b = meta0.good := ⟨_, rfl⟩
  rw [← htx] at HC3 HC4 HF
  rw [← htx, ← hgd] at HC2
  rw [← hps] at HC1 HC3 HC4 HF
  rw [← hok] at HC1 HF ⊢
  obtain ⟨ls, hls⟩ : ∃ l, l = writeL ps [] 0 tx := ⟨_, rfl⟩
  obtain ⟨wk, hwk⟩ : ∃ l, l = writeOk ps [] 0 tx := ⟨_, rfl⟩
  obtain ⟨fs, hfs⟩ : ∃ l, l = formatP n := ⟨_, rfl⟩
  rw [← hls] at HC3 HC4 HF
  rw [← hwk] at HC3
  rw [← hfs] at HF ⊢
  obtain ⟨pL, hpL⟩ : ∃ l, l = ps.length := ⟨_, rfl⟩
  obtain ⟨lL, hlL⟩ : ∃ l, l = ls.length := ⟨_, rfl⟩
  have HL := hide (⟨hpL, hlL⟩ : _ ∧ _)
  have hS0 := sep_new (sep_nil w.heap.size w) (Obj.cells #[.slice none 0 0, .slice none 0 0] 60) (Nat.le_refl _)
  obtain ⟨w0, hw0⟩ : ∃ w0, w0 = w.alloc (Obj.cells #[.slice none 0 0, .slice none 0 0] 60) := ⟨_, rfl⟩
  obtain ⟨a0, ha0⟩ : ∃ a, a = w.heap.size := ⟨_, rfl⟩
  rw [← hw0, ← ha0] at hS0
  have HS0 := hide hS0
  have HB0 : Hid (Below w.heap.size w w0) := hide (by rw [hw0]; exact (Below.refl w.heap.size w).alloc (Nat.le_refl _) _)
  have HZ0 : Hid (a0 ≤ w0.heap.size) := hide (by rw [hw0, ha0]; simp)
  have HA := hide ha0
  clear hok hps htx hgd hls hwk hfs hpL hlL hS0 ha0
  go_enter Tryd.func24, Tryd.ntmps24
  go_wp2_with fail
  rw [← hw0, ← HA.out]
  clear hw0
  refine (HC1.out w0).mono ?_
  rintro e w1 ⟨v1, rfl, ho, hb⟩
  obtain ⟨x1, c1, y1, d1, rfl⟩ := disk_form ho
  have hs1 := sep_add HS0.out hb (diskA a0 _ ps []) (disk_down0 ho HZ0.out) (fun j hj => diskOwn_lt ho j hj) HZ0.out
  rw [← HL.out.1] at hs1 ⊢
  have HS1 := hide hs1
  have HB1 : Hid (Below w.heap.size w w1) := hide (HB0.out.trans (hb.mono HB0.out.size))
  have HZ1 : Hid (a0 ≤ w1.heap.size) := hide (Nat.le_trans HZ0.out hb.size)
  obtain ⟨g2, hg2⟩ : ∃ g, g = w1.heap.size := ⟨_, rfl⟩
  obtain ⟨w2, hw2⟩ : ∃ wx, wx = w1.alloc (Obj.cells #[.slice x1 pL c1, .slice y1 0 d1] 60) := ⟨_, rfl⟩
  have hs2 := sep_new HS1.out (Obj.cells #[.slice x1 pL c1, .slice y1 0 d1] 60) HZ1.out
  rw [← hw2, ← hg2] at hs2
  have HS2 := hide hs2
  have HB2 : Hid (Below w.heap.size w w2) := hide (by rw [hw2]; exact HB1.out.alloc HB1.out.size _)
  have HZ2 : Hid (a0 ≤ w2.heap.size) := hide (by rw [hw2]; have := HZ1.out; simp; omega)
  have hgt : w.heap.size ≤ g2 := by rw [hg2]; exact HB1.out.size
  have haw : w.heap.size ≤ a0 := by rw [HA.out]; exact Nat.le_refl _
  have hne : a0 ≠ g2 := by have h := (sep_lt hs1 1 rfl a0 rfl).2; omega
  clear ho hb hs1 hs2
  cases ok with
  | false =>
    have r0 : w2.cell? ⟨a0, 0, none⟩ = some (.slice none 0 0) := (cell_at (sep_get HS2.out 2 rfl : w2.heap[a0]? = some (Obj.cells #[.slice none 0 0, .slice none 0 0] 60)) 0).1
    have r1 : w2.cell? ⟨a0, 1, none⟩ = some (.slice none 0 0) := (cell_at (sep_get HS2.out 2 rfl : w2.heap[a0]? = some (Obj.cells #[.slice none 0 0, .slice none 0 0] 60)) 1).1
    have z0 : w2.frozen? ⟨a0, 0, none⟩ = false := (cell_at (sep_get HS2.out 2 rfl : w2.heap[a0]? = some (Obj.cells #[.slice none 0 0, .slice none 0 0] 60)) 0).2
    have z1 : w2.frozen? ⟨a0, 1, none⟩ = false := (cell_at (sep_get HS2.out 2 rfl : w2.heap[a0]? = some (Obj.cells #[.slice none 0 0, .slice none 0 0] 60)) 1).2
    rw [hw2] at r0 r1 z0 z1
    have hfe : fs = [] := HF.out.2 rfl
    subst hfe
    go_wp2_with fail
    rw [← hw2]
    rw [← hw2] at r0 r1 z0 z1
    have HSf := hide (sep_store (sep_store HS2.out 2 rfl 0 (.slice none 0 0)) 2 rfl 1 (.slice none 0 0))
    have HBf := (HB2.out.setCell (p := ⟨a0, 0, none⟩) haw (.slice none 0 0)).setCell (p := ⟨a0, 1, none⟩) haw (.slice none 0 0)
    obtain ⟨wf, hwf⟩ : ∃ wf, wf = (w2.setCell ⟨a0, 0, none⟩ (.slice none 0 0)).setCell ⟨a0, 1, none⟩ (.slice none 0 0) := ⟨_, rfl⟩
    rw [← hwf] at HSf HBf ⊢
    have HRf : Hid (wf.rangeAt a0 0 (#[.slice none 0 0, .slice none 0 0] : Array Value).toList) := hide (range_all (sep_get HSf.out 2 rfl))
    refine bodyPost_ret (v := .tuple #[.agg #[.slice none 0 0, .slice none 0 0], .bool false]) (results_ct Tryd.results24 rfl rfl (run_agg HRf.out Tryd.underlying60 rfl Tryd.sizeDisk)) rfl ⟨_, rfl, ?_, HBf⟩
    exact ⟨_, _, rfl, ⟨rfl, Or.inl ⟨rfl, rfl⟩⟩, ⟨rfl, Or.inl ⟨rfl, rfl⟩⟩⟩
  | true =>
    have hfe : fs = syncD ps ls := HF.out.1 rfl
    have HFe := hide hfe
    clear hfe
    go_wp2_with fail
    rw [← hw2, ← hg2]
    clear hw2 hg2
    refine (HC2.out w2).mono ?_
    rintro e w3 ⟨rfl, hb⟩
    have HS3 := hide (sep_below HS2.out hb)
    have HB3 : Hid (Below w.heap.size w w3) := hide (HB2.out.trans (hb.mono HB2.out.size))
    have HZ3 : Hid (a0 ≤ w3.heap.size) := hide (Nat.le_trans HZ2.out hb.size)
    clear hb
    have q0 : w3.cell? ⟨g2, 0, none⟩ = some (.slice x1 pL c1) := (cell_at (sep_get HS3.out 0 rfl : w3.heap[g2]? = some (Obj.cells #[.slice x1 pL c1, .slice y1 0 d1] 60)) 0).1
    have q1 : w3.cell? ⟨g2, 1, none⟩ = some (.slice y1 0 d1) := (cell_at (sep_get HS3.out 0 rfl : w3.heap[g2]? = some (Obj.cells #[.slice x1 pL c1, .slice y1 0 d1] 60)) 1).1
    go_wp2_with fail
    refine (HC3.out _ w3 (disk_of_own (sep_get HS3.out 1 rfl))).mono ?_
    rintro e w4 ⟨v4, rfl, ho, hb⟩
    obtain ⟨x2, c2, y2, d2, rfl⟩ := disk_form ho
    have hs4 := sep_add HS3.out hb (diskA a0 _ ps ls) (disk_down0 ho HZ3.out) (fun j hj => diskOwn_lt ho j hj) HZ3.out
    rw [← HL.out.1, ← HL.out.2] at hs4 ⊢
    have HS4 := hide hs4
    have HB4 : Hid (Below w.heap.size w w4) := hide (HB3.out.trans (hb.mono HB3.out.size))
    have HZ4 : Hid (a0 ≤ w4.heap.size) := hide (Nat.le_trans HZ3.out hb.size)
    clear ho hb hs4 q0 q1
    have q0 : w4.cell? ⟨g2, 0, none⟩ = some (.slice x1 pL c1) := (cell_at (sep_get HS4.out 1 rfl : w4.heap[g2]? = some (Obj.cells #[.slice x1 pL c1, .slice y1 0 d1] 60)) 0).1
    have q1 : w4.cell? ⟨g2, 1, none⟩ = some (.slice y1 0 d1) := (cell_at (sep_get HS4.out 1 rfl : w4.heap[g2]? = some (Obj.cells #[.slice x1 pL c1, .slice y1 0 d1] 60)) 1).1
    have z0 : w4.frozen? ⟨g2, 0, none⟩ = false := (cell_at (sep_get HS4.out 1 rfl : w4.heap[g2]? = some (Obj.cells #[.slice x1 pL c1, .slice y1 0 d1] 60)) 0).2
    have z1 : w4.frozen? ⟨g2, 1, none⟩ = false := (cell_at (sep_get HS4.out 1 rfl : w4.heap[g2]? = some (Obj.cells #[.slice x1 pL c1, .slice y1 0 d1] 60)) 1).2
    have hs5 := sep_store (sep_store HS4.out 1 rfl 0 (.slice x2 pL c2)) 1 rfl 1 (.slice y2 lL d2)
    have hb5 := (HB4.out.setCell (p := ⟨g2, 0, none⟩) hgt (.slice x2 pL c2)).setCell (p := ⟨g2, 1, none⟩) hgt (.slice y2 lL d2)
    obtain ⟨w5, hw5⟩ : ∃ wf, wf = (w4.setCell ⟨g2, 0, none⟩ (.slice x2 pL c2)).setCell ⟨g2, 1, none⟩ (.slice y2 lL d2) := ⟨_, rfl⟩
    rw [← hw5] at hs5 hb5
    have HS5 := hide hs5
    have HB5 := hide hb5
    have HZ5 : Hid (a0 ≤ w5.heap.size) := hide (by rw [hw5]; have := HZ4.out; simp; omega)
    have HD5 : Hid (DiskAt w5 (.agg #[.slice x2 pL c2, .slice y2 lL d2]) ps ls) := hide (disk_of_own (sep_get hs5 0 rfl))
    clear hs5 hb5
    go_wp2_with fail
    rw [← hw5]
    clear hw5 q0 q1 z0 z1
    refine (HC4.out _ w5 HD5.out).mono ?_
    rintro e w6 ⟨v6, rfl, ho, hb⟩
    obtain ⟨x3, c3, y3, d3, rfl⟩ := disk_form ho
    have HS6 := hide (sep_below HS5.out hb)
    have HB6 : Hid (Below w.heap.size w w6) := hide (HB5.out.trans (hb.mono HB5.out.size))
    have HO6 : Hid (DiskOwn w6 w.heap.size _ (syncD ps ls) []) := hide (disk_down0 ho (Nat.le_trans (by rw [HA.out]; exact Nat.le_refl _) HZ5.out))
    have hap : ∀ k, diskBlocks (.agg #[.slice x3 (syncD ps ls).length c3, .slice y3 ([] : List (Int × ByteArray)).length d3]) k → ¬ k = a0 := fun k hk e => by
      have h1 := (diskOwn_lt ho k hk).1
      have h2 := (sep_lt HS5.out 3 rfl a0 rfl).2
      omega
    have HP := hide hap
    clear ho hb hap
    obtain ⟨sL, hsL⟩ : ∃ l, l = (syncD ps ls).length := ⟨_, rfl⟩
    rw [List.length_nil, ← hsL] at HO6 HP ⊢
    clear hsL
    have r0 : w6.cell? ⟨a0, 0, none⟩ = some (.slice none 0 0) := (cell_at (sep_get HS6.out 3 rfl : w6.heap[a0]? = some (Obj.cells #[.slice none 0 0, .slice none 0 0] 60)) 0).1
    have r1 : w6.cell? ⟨a0, 1, none⟩ = some (.slice none 0 0) := (cell_at (sep_get HS6.out 3 rfl : w6.heap[a0]? = some (Obj.cells #[.slice none 0 0, .slice none 0 0] 60)) 1).1
    have z0 : w6.frozen? ⟨a0, 0, none⟩ = false := (cell_at (sep_get HS6.out 3 rfl : w6.heap[a0]? = some (Obj.cells #[.slice none 0 0, .slice none 0 0] 60)) 0).2
    have z1 : w6.frozen? ⟨a0, 1, none⟩ = false := (cell_at (sep_get HS6.out 3 rfl : w6.heap[a0]? = some (Obj.cells #[.slice none 0 0, .slice none 0 0] 60)) 1).2
    have HSf := hide (sep_store (sep_store HS6.out 3 rfl 0 (.slice x3 sL c3)) 3 rfl 1 (.slice y3 0 d3))
    have HBf := hide ((HB6.out.setCell (p := ⟨a0, 0, none⟩) haw (.slice x3 sL c3)).setCell (p := ⟨a0, 1, none⟩) haw (.slice y3 0 d3))
    have HKf := hide (kept_trans (kept_setCell w6 a0 0 (.slice x3 sL c3)) (kept_setCell _ a0 1 (.slice y3 0 d3)) (fun _ _ h => h))
    go_wp2_with fail
    obtain ⟨wf, hwf⟩ : ∃ wf, wf = (w6.setCell ⟨a0, 0, none⟩ (.slice x3 sL c3)).setCell ⟨a0, 1, none⟩ (.slice y3 0 d3) := ⟨_, rfl⟩
    rw [← hwf] at HSf HBf HKf ⊢
    have HRf : Hid (wf.rangeAt a0 0 (#[.slice x3 sL c3, .slice y3 0 d3] : Array Value).toList) := hide (range_all (sep_get HSf.out 3 rfl))
    refine bodyPost_ret (v := .tuple #[.agg #[.slice x3 sL c3, .slice y3 0 d3], .bool true]) (results_ct Tryd.results24 rfl rfl (run_agg HRf.out Tryd.underlying60 rfl Tryd.sizeDisk)) rfl ⟨_, rfl, ?_, HBf.out⟩
    rw [HFe.out]
    exact diskOwn_kept HO6.out HKf.out HP.out
end Go.Proofs.YtmmepgincbngeaaDoor
