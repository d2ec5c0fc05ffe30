/-
  l03Disk by a contract.
-/
import Derived.Test.YtjjjnloimpehbaaDrawDisk
import Derived.Deep.RegionWith
namespace Go.Proofs.Ytjjjnloimpehbaa
open Go.RowKit

theorem var_cells {w : World} {g : Nat} {u0 u1 : Value} {t : TypeId} (h : w.heap[g]? = some (Obj.cells #[u0, u1] t)) : w.cell? ⟨g, 0, none⟩ = some u0 ∧ w.cell? ⟨g, 1, none⟩ = some u1 ∧ w.frozen? ⟨g, 0, none⟩ = false ∧ w.frozen? ⟨g, 1, none⟩ = false :=
  ⟨(cell_at h 0).1, (cell_at h 1).1, (cell_at h 0).2, (cell_at h 1).2⟩

/-- the same behind draws of the order -/
theorem drawIn_next {w wr wq wr' : World} {g B : Nat} {a : Option Addr} {len cap a1 a2 : Nat} {ps : List ByteArray} {ls : List (Int × ByteArray)} {u0 u1 : Value} (h : DrawIn w wr g B a len cap a1 a2 ps ls u0 u1) (hd : Drawn wq wr' g B a len cap) (e0 : wq.heap = wr.heap) (e1 : wq.os = wr.os) (e2 : wq.tape = wr.tape) (e3 : wq.output = wr.output) : DrawIn w wr' g B a len cap a1 a2 ps ls u0 u1 := by
  refine drawIn_drawn h ⟨hd.1, ⟨hd.2.1.os.trans e1, hd.2.1.tape.trans e2, hd.2.1.output.trans e3, by rw [← e0]; exact hd.2.1.size, fun k hk hn => ?_⟩, hd.2.2⟩
  rw [← e0]
  exact hd.2.1.block k (by rw [e0]; exact hk) hn

/-- the disk is laid into the variable of the answer -/
theorem drawIn_ret {w wr : World} {g B : Nat} {a : Option Addr} {len cap a1 a2 : Nat} {ps : List ByteArray} {ls : List (Int × ByteArray)} {u0 u1 : Value} (h : DrawIn w wr g B a len cap a1 a2 ps ls u0 u1) (hB : B ≤ g) :
    ((wr.setCell ⟨a1, 0, none⟩ u0).setCell ⟨a1, 1, none⟩ u1).cell? ⟨a1, 0, none⟩ = some u0 ∧ ((wr.setCell ⟨a1, 0, none⟩ u0).setCell ⟨a1, 1, none⟩ u1).cell? ⟨a1, 1, none⟩ = some u1 ∧
    DiskOwn ((wr.setCell ⟨a1, 0, none⟩ u0).setCell ⟨a1, 1, none⟩ u1) w.heap.size (.agg #[u0, u1]) ps ls ∧ Drawn w ((wr.setCell ⟨a1, 0, none⟩ u0).setCell ⟨a1, 1, none⟩ u1) g B a len cap := by
  have e1 := h.at1
  have e3 := h.cur
  have l1 : a1 < wr.heap.size := (Array.getElem?_eq_some_iff.1 h.res).1
  have y1 : (wr.setCell ⟨a1, 0, none⟩ u0).heap[a1]? = some (Obj.cells #[u0, .slice none 0 0] 27) := heap_setCell_same _ a1 0 _ _ _ h.res
  have y2 : ((wr.setCell ⟨a1, 0, none⟩ u0).setCell ⟨a1, 1, none⟩ u1).heap[a1]? = some (Obj.cells #[u0, u1] 27) := heap_setCell_same _ a1 1 _ _ _ y1
  have k2 : Kept wr ((wr.setCell ⟨a1, 0, none⟩ u0).setCell ⟨a1, 1, none⟩ u1) (fun k => k = a1) := kept_trans (kept_setCell _ _ _ _) (kept_setCell _ _ _ _) (fun j _ h => h)
  obtain ⟨o1, o2⟩ := disk_rows h.disk
  refine ⟨(cell_at y2 0).1, (cell_at y2 1).1, ⟨_, _, rfl, ?_, ?_⟩, ?_, ?_, ?_⟩
  · exact own_down (own_kept o1 k2 (fun k hk => by have := (o1.lt k hk).1; omega)) (by omega)
  · exact own_down (own_kept o2 k2 (fun k hk => by have := (o2.lt k hk).1; omega)) (by omega)
  · obtain ⟨i, x, hi, hblk⟩ := h.drawn.1
    exact ⟨i, x, hi, (k2.2.2.2.2 g (by omega) (by omega)).trans hblk⟩
  · exact ⟨k2.1.trans h.drawn.2.1.os, k2.2.1.trans h.drawn.2.1.tape, k2.2.2.1.trans h.drawn.2.1.output, Nat.le_trans h.drawn.2.1.size k2.2.2.2.1, fun k hk hn => (k2.2.2.2.2 k (by omega) (by omega)).trans (h.drawn.2.1.block k hk hn)⟩
  · refine ⟨h.drawn.2.2.1, h.drawn.2.2.2.imp id (fun ⟨b, off, e, hlt, hz⟩ => ⟨b, off, e, hlt, fun j hj => ?_⟩)⟩
    obtain ⟨z, h1, h2⟩ := hz j hj
    exact ⟨z, h1, by rw [World.cell?_of_block (k2.2.2.2.2 b (by omega) (by omega))]; exact h2⟩

theorem text_small {t : ByteArray} {n : Nat} (h : t.size = n) (hn : n ≤ 5000) : t.size ≤ 1048576 := by omega

theorem six_small {n : Nat} (h : n < 6) : n ≤ 5000 := by omega

set_option maxHeartbeats 2000000 in
set_option maxRecDepth 100000 in
theorem l03Disk_any (g B : Nat) (a : Option Addr) (len cap : Nat) (w : World) (hc : CurAt w g a len cap) (hd : CodeIn w B a len) (hB : B ≤ g) :
    Calls Try.prog 40 #[.pointer (some ⟨g, 0, none⟩)] w fun e w' => ∃ (v : Value) (ps : List ByteArray) (ls : List (Int × ByteArray)), e = .returned v ∧ diskOkB ps ls = true ∧ ps.length ≤ 7 ∧ ls.length ≤ 8 ∧ DiskOwn w' w.heap.size v ps ls ∧ Drawn w w' g B a len cap := by
  have hgl := cur_lt hc
  obtain ⟨w0, hw0⟩ : ∃ w0, w0 = w.alloc (Obj.cells #[.slice none 0 0, .slice none 0 0] 27) := ⟨_, rfl⟩
  have hb0 : Below w.heap.size w w0 := by rw [hw0]; exact (Below.refl w.heap.size w).alloc (Nat.le_refl _) _
  have q0 : w0.heap[w.heap.size]? = some (Obj.cells #[.slice none 0 0, .slice none 0 0] 27) := by rw [hw0]; exact heap_alloc_new w _
  have hs0 : w0.heap.size = w.heap.size + 1 := by rw [hw0]; simp
  have HD0 := hide (drawn_below hc hd hB hb0)
  obtain ⟨a1, ha1⟩ : ∃ a, a = w.heap.size := ⟨_, rfl⟩
  rw [← ha1] at q0
  have HQ := hide q0
  have HA := hide (⟨ha1, hs0⟩ : a1 = w.heap.size ∧ w0.heap.size = w.heap.size + 1)
  clear hc hd q0 hs0 hb0
  go_enter Try.func40, Try.ntmps40
  go_wp2_with fail
  rw [← hw0, ← ha1]
  clear hw0 ha1
  refine (l01Below_any g B a len cap 4 (by omega) (by omega) _ HD0.out.1 HD0.out.2.2 hB).mono ?_
  rintro e w1 ⟨x, hx, rfl, h1⟩
  have H1 := hide h1
  clear h1
  go_wp2_with fail
  refine (specDiskNew_any _ _).mono ?_
  rintro e w2 ⟨v2, rfl, hown2, hb2⟩
  have hx4 : (4 : Int) + (x : Int) = ((4 + x : Nat) : Int) := by omega
  rw [hx4] at hown2 ⊢
  have hdec : decide ((4 : Int) ≤ ((4 + x : Nat) : Int) ∧ ((4 + x : Nat) : Int) ≤ 40) = true := by simp; omega
  rw [hdec]
  obtain ⟨x3, c3, y3, d3, rfl⟩ := disk_form hown2
  have hpl : (newP ((4 + x : Nat) : Int)).length = 4 + x := by rw [newP, if_pos (by omega), List.length_replicate]; omega
  have HOk := hide (newP_ok x hx)
  have HPL := hide hpl
  obtain ⟨ps, hps⟩ : ∃ ps, ps = newP ((4 + x : Nat) : Int) := ⟨_, rfl⟩
  rw [← hps] at hown2 HOk HPL ⊢
  have HO2 := hide hown2
  have HB2 := hide hb2
  have HW2 : Hid (w1.heap.size ≤ w2.heap.size) := hide hb2.size
  obtain ⟨a2, ha2⟩ : ∃ a, a = w2.heap.size := ⟨_, rfl⟩
  obtain ⟨w3, hw3⟩ : ∃ w3, w3 = w2.alloc (Obj.cells #[.slice x3 ps.length c3, .slice y3 0 d3] 27) := ⟨_, rfl⟩
  have HI0 : Hid (DrawIn w w3 g B a len cap a1 a2 ps [] (.slice x3 ps.length c3) (.slice y3 0 d3)) := hide (by
    have hA := HA.out
    have h01 := drawn_trans HD0.out H1.out
    have hs1 := H1.out.2.1.size
    have hs2 := hb2.size
    have hb3 : Below w1.heap.size w1 w3 := by rw [hw3]; exact hb2.alloc hb2.size _
    refine ⟨drawn_trans h01 (drawn_below h01.1 h01.2.2 hB hb3), ?_, by rw [hw3, ha2]; exact heap_alloc_new w2 _, ?_, HOk.out, hA.1, by omega, hgl⟩
    · refine (hb3.block a1 (by omega)).trans ((H1.out.2.1.block a1 (by omega) (fun e => by injection e with e; omega)).trans HQ.out)
    · obtain ⟨o1, o2⟩ := disk_rows hown2
      rw [hw3]
      exact ⟨_, _, rfl, own_down (o1.alloc _) (by omega), own_down (o2.alloc _) (by omega)⟩)
  clear hown2 hb2 hps hpl hx4 hdec HO2 HB2 HQ HD0 H1
  go_wp2_with fail
  rw [← hw3, ← ha2]
  clear hw3 ha2
  go_loopg [5] 8 (fun q iv wr => ∃ k : Nat, k ≤ 8 ∧ iv = .int .i64 (k : Int) ∧ q + k = 8 ∧ ∃ (qs : List ByteArray) (ls : List (Int × ByteArray)) (x c y d : _), Hid (qs.length ≤ 7 ∧ ls.length ≤ k) ∧ Hid (DrawIn w wr g B a len cap a1 a2 qs ls (.slice x qs.length c) (.slice y ls.length d)))
  case atStart => exact ⟨0, by omega, rfl, rfl, ps, [], _, _, _, _, hide ⟨by have := HPL.out; omega, by simp⟩, HI0⟩
  case round =>
    clear HI0 HPL HOk
    obtain ⟨k, hk, rfl, hg, qs, ls, y1, d1, y2, d2, HL, HI⟩ := hrel
    have HG := hide hg
    clear hg
    go_wp2_with fail
    refine (l01Below_any g B a len cap 9 (by omega) (by omega) _ HI.out.drawn.1 HI.out.drawn.2.2 hB).mono ?_
    rintro e w4 ⟨z, hz, rfl, h4⟩
    have HI4 := hide (drawIn_drawn HI.out h4)
    clear h4 HI
    by_cases hlt : k < z
    · go_wp2_with fail
      refine (l01Once_any g B a len cap 4 (by omega) (by omega) _ HI4.out.drawn.1 HI4.out.drawn.2.2 hB).mono ?_
      rintro e w5 ⟨b, rfl, h5⟩
      have HI5 := hide (drawIn_drawn HI4.out h5)
      clear h5 HI4
      have c0 : w5.cell? ⟨a2, 0, none⟩ = some (.slice y1 qs.length d1) := (cell_at HI5.out.var 0).1
      have c1 : w5.cell? ⟨a2, 1, none⟩ = some (.slice y2 ls.length d2) := (cell_at HI5.out.var 1).1
      have f0 := (cell_at HI5.out.var 0).2
      have f1 := (cell_at HI5.out.var 1).2
      have HOk := hide (diskOk_yes HI5.out.ok)
      cases b
      · have HN : Hid (qs.length ≤ 1048576 ∧ ls.length ≤ 1048576 ∧ (∀ s ∈ qs, s.size ≤ 1048576) ∧ ∀ p ∈ ls, p.2.size ≤ 1048576) := hide ⟨by have := HL.out; omega, by have := HL.out; omega, fun s hs => by have := HOk.out.1 s hs; omega, fun p hp => by have := (HOk.out.2.1 p hp).2.2; omega⟩
        have HBel : Hid (∀ wx, CurAt wx g a len cap → CodeIn wx B a len → Calls Try.prog 43 #[.pointer (some ⟨g, 0, none⟩), .int .i64 6] wx fun e w' => ∃ x : Nat, x < 6 ∧ e = .returned (.int .i64 (x : Int)) ∧ Drawn wx w' g B a len cap) := hide (fun wx h1 h2 => l01Below_any g B a len cap 6 (by omega) (by omega) wx h1 h2 hB)
        have HTxt : Hid (∀ (n : Nat) (wx : World), n ≤ 5000 → CurAt wx g a len cap → CodeIn wx B a len → Calls Try.prog 64 #[.pointer (some ⟨g, 0, none⟩), .int .i64 (n : Int)] wx fun e w' => ∃ t : ByteArray, t.size = n ∧ e = .returned (.string t) ∧ Drawn wx w' g B a len cap) := hide (fun n wx hn h1 h2 => l01Text_any g B a len cap n hn wx h1 h2 hB)
        have HWr := hide (fun (page : Int) (t : ByteArray) (wx : World) (ht : t.size ≤ 1048576) (hdk : DiskAt wx (.agg #[.slice y1 qs.length d1, .slice y2 ls.length d2]) qs ls) => specWritePage_any (.agg #[.slice y1 qs.length d1, .slice y2 ls.length d2]) qs ls page t ht HN.out.1 HN.out.2.1 HN.out.2.2.1 HN.out.2.2.2 wx hdk)
        go_wp2_with fail
        go_region_with (first | (go_at_call 35; refine (HWr.out (z6 : Int) t8 _ HT8.out ?_).mono ?_; exact disk_of_own HI8.out.disk; rintro e w9 ⟨v9, rfl, hown9, hb9⟩; obtain ⟨b90, b91, b92, b93⟩ := var_cells ((hb9.block a2 (Array.getElem?_eq_some_iff.1 HI8.out.var).1).trans HI8.out.var); obtain ⟨x6, e6, x7, e7, rfl⟩ := disk_form hown9) | (go_at_call 64; refine (HTxt.out z7 _ HZ7.out ?_ ?_).mono ?_; exact HI7.out.drawn.1; exact HI7.out.drawn.2.2; rintro e w8 ⟨t8, ht8, rfl, h8⟩; have HI8 := hide (drawIn_next HI7.out h8 rfl rfl rfl rfl); have HT8 := hide (text_small ht8 HZ7.out); obtain ⟨b80, b81, b82, b83⟩ := var_cells HI8.out.var) | (go_at_call 43; refine (HBel.out _ ?_ ?_).mono ?_; exact HI6.out.drawn.1; exact HI6.out.drawn.2.2; rintro e w7 ⟨z7, hz7, rfl, h7⟩; have HI7 := hide (drawIn_next HI6.out h7 rfl rfl rfl rfl); have HZ7 := hide (six_small hz7); obtain ⟨b70, b71, b72, b73⟩ := var_cells HI7.out.var) | (go_at_call 43; refine (HBel.out _ ?_ ?_).mono ?_; exact HI5.out.drawn.1; exact HI5.out.drawn.2.2; rintro e w6 ⟨z6, hz6, rfl, h6⟩; have HI6 := hide (drawIn_next HI5.out h6 rfl rfl rfl rfl); obtain ⟨b60, b61, b62, b63⟩ := var_cells HI6.out.var))
        all_goals
          have HI9 := hide (drawIn_set HI8.out hB hb9 hown9 (writeL_ok HI8.out.ok))
          clear hown9 hb9
          go_wp2_with fail
          go_roundg (gk - 1)
          case measure => have := HG.out; omega
          case rel => exact ⟨k + 1, by omega, by go_num, by have := HG.out; omega, _, _, _, _, _, _, hide ⟨HL.out.1, Nat.le_trans writeL_grow (Nat.succ_le_succ HL.out.2)⟩, HI9⟩
      · go_wp2_with fail
        refine (specSyncDisk_any _ qs ls (by have := HL.out; omega) (by have := HL.out; omega) _ (disk_of_own HI5.out.disk)).mono ?_
        rintro e w6 ⟨v6, rfl, hown6, hb6⟩
        obtain ⟨x6, e6, x7, e7, rfl⟩ := disk_form hown6
        have HI6 := hide (drawIn_set HI5.out hB hb6 hown6 (syncD_ok HI5.out.ok))
        have l2 : a2 < w5.heap.size := (Array.getElem?_eq_some_iff.1 HI5.out.var).1
        have v6 := (hb6.block a2 l2).trans HI5.out.var
        have g0 : w6.cell? ⟨a2, 0, none⟩ = some (.slice y1 qs.length d1) := (cell_at v6 0).1
        have g1 : w6.cell? ⟨a2, 1, none⟩ = some (.slice y2 ls.length d2) := (cell_at v6 1).1
        have r0 := (cell_at v6 0).2
        have r1 := (cell_at v6 1).2
        clear hown6 hb6 v6 l2 c0 c1 f0 f1
        go_wp2_with fail
        go_roundg (gk - 1)
        case measure => have := HG.out; omega
        case rel => exact ⟨k + 1, by omega, by go_num, by have := HG.out; omega, _, [], _, _, _, _, hide ⟨by rw [syncD_length]; exact HL.out.1, by simp⟩, HI6⟩
    · have hnl : decide ((k : Int) < (z : Int)) = false := by simp; omega
      have c0 : w4.cell? ⟨a2, 0, none⟩ = some (.slice y1 qs.length d1) := (cell_at HI4.out.var 0).1
      have c1 : w4.cell? ⟨a2, 1, none⟩ = some (.slice y2 ls.length d2) := (cell_at HI4.out.var 1).1
      have p0 : w4.cell? ⟨a1, 0, none⟩ = some (.slice none 0 0) := (cell_at HI4.out.res 0).1
      have p1 : w4.cell? ⟨a1, 1, none⟩ = some (.slice none 0 0) := (cell_at HI4.out.res 1).1
      have f0 := (cell_at HI4.out.res 0).2
      have f1 := (cell_at HI4.out.res 1).2
      go_wp2_with fail
      have hfin := drawIn_ret HI4.out hB
      refine bodyPost_ret (v := .agg #[.slice y1 qs.length d1, .slice y2 ls.length d2]) (by simp [results, Try.results40, go_sem, hfin.1, hfin.2.1]) rfl ⟨_, qs, ls, rfl, HI4.out.ok, HL.out.1, Nat.le_trans HL.out.2 hk, hfin.2.2.1, hfin.2.2.2⟩
end Go.Proofs.Ytjjjnloimpehbaa
