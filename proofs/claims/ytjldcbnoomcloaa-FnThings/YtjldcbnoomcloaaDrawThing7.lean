/-
  DrawKeyText by a contract; sameFields and sameValues of the laws at two rows of the same.
-/
import Derived.Test.YtjldcbnoomcloaaDrawThing6
namespace Go.Proofs.Ytjldcbnoomcloaa
open Go.RowKit

set_option maxHeartbeats 2000000 in
set_option maxRecDepth 100000 in
theorem sameFields_same (l : List (ByteArray × Int)) (hl : l.length ≤ 1048576) (v u : Value) (w : World) (hr : RowAt w 2 v l.length (flds l)) (hq : RowAt w 2 u l.length (flds l)) :
    Calls Try.prog 28 #[v, u] w fun e w' => e = .returned (.bool true) ∧ Below w.heap.size w w' := by
  obtain ⟨-, a, cap, rfl, h2⟩ := hr
  obtain ⟨-, a', cap', rfl, h3⟩ := hq
  have HR := hide h2
  have HQ := hide h3
  clear h2 h3
  have d1 : ((l.length : Int) != (l.length : Int)) = false := by simp
  go_enter Try.func28, Try.ntmps28
  go_wp2_with fail
  clear d1
  go_loopg [5] l.length (fun g iv wr => ∃ k : Nat, k ≤ l.length ∧ iv = .int .i64 (k : Int) ∧ g + k = l.length ∧ Hid (Below w.heap.size w wr))
  case atStart => exact ⟨0, Nat.zero_le _, rfl, rfl, hide (Below.refl _ _)⟩
  case round =>
    obtain ⟨k, hk, rfl, hg, HB⟩ := hrel
    have HG := hide hg
    clear hg
    by_cases hlt : k < l.length
    · rcases HR.out with h0 | ⟨b, off, rfl, hbl, hc⟩
      · omega
      · rcases HQ.out with h0 | ⟨b', off', rfl, hbl', hc'⟩
        · omega
        · obtain ⟨x, hx⟩ : ∃ x, x = l[k].1 := ⟨_, rfl⟩
          obtain ⟨p, hp⟩ : ∃ p, p = l[k].2 := ⟨_, rfl⟩
          have hc0 : wr.cell? ⟨b, off + k * 2, none⟩ = some (.string x) := by rw [HB.out.cell (by exact hbl), hc (k * 2) (by omega), (flds_at l k hlt).1, hx]
          have hc1 : wr.cell? ⟨b, off + k * 2 + 1, none⟩ = some (.int .i64 p) := by rw [HB.out.cell (by exact hbl), Nat.add_assoc, hc (k * 2 + 1) (by omega), (flds_at l k hlt).2, hp]
          have hd0 : wr.cell? ⟨b', off' + k * 2, none⟩ = some (.string x) := by rw [HB.out.cell (by exact hbl'), hc' (k * 2) (by omega), (flds_at l k hlt).1, hx]
          have hd1 : wr.cell? ⟨b', off' + k * 2 + 1, none⟩ = some (.int .i64 p) := by rw [HB.out.cell (by exact hbl'), Nat.add_assoc, hc' (k * 2 + 1) (by omega), (flds_at l k hlt).2, hp]
          have hk0 : (0 : Int) ≤ (k : Int) := by omega
          have hk1 : (k : Int) < (l.length : Int) := by omega
          clear hc hc' hx hp
          go_wp2_with fail
          go_quiet (fail)
          go_wp2_with fail
          go_roundg (gk - 1)
          case measure => have := HG.out; omega
          case rel => exact ⟨k + 1, by omega, by go_num, by have := HG.out; omega, hide (below_drewN HB.out _)⟩
    · go_wp2_with fail
      go_ret
      exact ⟨rfl, HB.out⟩

set_option maxHeartbeats 2000000 in
set_option maxRecDepth 100000 in
theorem sameValues_same (l : List (Int × ByteArray)) (hl : l.length ≤ 1048576) (v u : Value) (w : World) (hr : RowAt w 2 v l.length (puts l)) (hq : RowAt w 2 u l.length (puts l)) :
    Calls Try.prog 38 #[v, u] w fun e w' => e = .returned (.bool true) ∧ Below w.heap.size w w' := by
  obtain ⟨-, a, cap, rfl, h2⟩ := hr
  obtain ⟨-, a', cap', rfl, h3⟩ := hq
  have HR := hide h2
  have HQ := hide h3
  clear h2 h3
  have d1 : ((l.length : Int) != (l.length : Int)) = false := by simp
  go_enter Try.func38, Try.ntmps38
  go_wp2_with fail
  clear d1
  go_loopg [5] l.length (fun g iv wr => ∃ k : Nat, k ≤ l.length ∧ iv = .int .i64 (k : Int) ∧ g + k = l.length ∧ Hid (Below w.heap.size w wr))
  case atStart => exact ⟨0, Nat.zero_le _, rfl, rfl, hide (Below.refl _ _)⟩
  case round =>
    obtain ⟨k, hk, rfl, hg, HB⟩ := hrel
    have HG := hide hg
    clear hg
    by_cases hlt : k < l.length
    · rcases HR.out with h0 | ⟨b, off, rfl, hbl, hc⟩
      · omega
      · rcases HQ.out with h0 | ⟨b', off', rfl, hbl', hc'⟩
        · omega
        · obtain ⟨x, hx⟩ : ∃ x, x = l[k].1 := ⟨_, rfl⟩
          obtain ⟨p, hp⟩ : ∃ p, p = l[k].2 := ⟨_, rfl⟩
          have hc0 : wr.cell? ⟨b, off + k * 2, none⟩ = some (.int .i64 x) := by rw [HB.out.cell (by exact hbl), hc (k * 2) (by omega), (puts_at l k hlt).1, hx]
          have hc1 : wr.cell? ⟨b, off + k * 2 + 1, none⟩ = some (.string p) := by rw [HB.out.cell (by exact hbl), Nat.add_assoc, hc (k * 2 + 1) (by omega), (puts_at l k hlt).2, hp]
          have hd0 : wr.cell? ⟨b', off' + k * 2, none⟩ = some (.int .i64 x) := by rw [HB.out.cell (by exact hbl'), hc' (k * 2) (by omega), (puts_at l k hlt).1, hx]
          have hd1 : wr.cell? ⟨b', off' + k * 2 + 1, none⟩ = some (.string p) := by rw [HB.out.cell (by exact hbl'), Nat.add_assoc, hc' (k * 2 + 1) (by omega), (puts_at l k hlt).2, hp]
          have hk0 : (0 : Int) ≤ (k : Int) := by omega
          have hk1 : (k : Int) < (l.length : Int) := by omega
          clear hc hc' hx hp
          go_wp2_with fail
          go_quiet (fail)
          go_wp2_with fail
          go_roundg (gk - 1)
          case measure => have := HG.out; omega
          case rel => exact ⟨k + 1, by omega, by go_num, by have := HG.out; omega, hide (below_drewN HB.out _)⟩
    · go_wp2_with fail
      go_ret
      exact ⟨rfl, HB.out⟩

def texts2 : List ByteArray := [⟨#[97, 98, 99, 100, 101, 102, 103]⟩, ⟨#[0]⟩]

theorem texts2_in {z : ByteArray} (h : z ∈ texts2) : z.size ≤ 7 := by
  simp only [texts2, List.mem_cons, List.not_mem_nil, or_false] at h
  rcases h with rfl | rfl <;> decide

set_option maxHeartbeats 2000000 in
set_option maxRecDepth 100000 in
theorem drawKeyText_any (a : Option Addr) (len cap : Nat) (w : World) (hd : CodeIn w w.heap.size a len) :
    Calls Try.prog 41 #[.slice a len cap] w fun e w' => ∃ (kind num : Int) (t : ByteArray), t.size ≤ 7 ∧ e = .returned (.tuple #[.int .i64 kind, .agg #[.int .i64 num, .string t]]) ∧ Below w.heap.size w w' := by
  obtain ⟨w0, hw0⟩ : ∃ w0, w0 = w.alloc (Obj.cells #[.int .i64 0, .string ⟨#[]⟩] 50) := ⟨_, rfl⟩
  have hb0 : Below w.heap.size w w0 := by rw [hw0]; exact (Below.refl w.heap.size w).alloc (Nat.le_refl _) _
  have HR0 : Hid (w0.heap[w.heap.size]? = some (Obj.cells #[.int .i64 0, .string ⟨#[]⟩] 50)) := hide (by rw [hw0]; exact heap_alloc_new w _)
  have HD0 := hide (code_below hd hb0)
  have HB0 := hide hb0
  clear hd hb0
  obtain ⟨g, hg⟩ : ∃ g, g = w0.heap.size := ⟨_, rfl⟩
  have HGw : Hid (w.heap.size ≠ g ∧ w.heap.size < g) := hide (by have := (Array.getElem?_eq_some_iff.1 HR0.out).1; omega)
  have HNew := hide (l01New_any a len cap w0 HD0.out)
  rw [← hg] at HNew
  clear hg
  go_enter Try.func41, Try.ntmps41
  go_wp2_with fail
  rw [← hw0]
  clear hw0
  refine HNew.out.mono ?_
  rintro e w1 ⟨rfl, hc, hd1, hb⟩
  have HC := hide hc
  have HD1 := hide hd1
  have HB1 : Hid (Below w.heap.size w w1) := hide (HB0.out.trans (hb.mono (by have := HGw.out.2; omega)))
  have HR1 : Hid (w1.heap[w.heap.size]? = some (Obj.cells #[.int .i64 0, .string ⟨#[]⟩] 50)) := hide ((hb.block _ HGw.out.2).trans HR0.out)
  clear hc hd1 hb
  go_wp2_with fail
  refine (l01Below_any g g a len cap 2 (by omega) (by omega) _ HC.out HD1.out (Nat.le_refl _)).mono ?_
  rintro e w2 ⟨x, hx, rfl, h2⟩
  have H2 := hide h2
  clear h2
  have HVl := hide (fun wx h h' => l04ValueOf_any g g a len cap (1 + (x : Int)) wx h h' (Nat.le_refl _))
  go_wp2_with fail
  refine (HVl.out _ H2.out.1 H2.out.2.2).mono ?_
  rintro e w3 ⟨num, tx, hdv, rfl, h3⟩
  have H3 := hide (drawn_trans H2.out h3)
  have HTx : Hid (tx.size ≤ 7) := hide (Nat.le_succ_of_le hdv.1)
  clear h3 hdv
  obtain ⟨bv, hbv⟩ : ∃ bv, bv = w3.heap.size := ⟨_, rfl⟩
  obtain ⟨w4, hw4⟩ : ∃ w4, w4 = w3.alloc (Obj.cells #[.int .i64 num, .string tx] 50) := ⟨_, rfl⟩
  have HBv : Hid (w.heap.size < bv ∧ bv ≠ g) := hide (by have h1 := cur_lt H3.out.1; have h2 := HGw.out.2; omega)
  have HV4 : Hid (w4.heap[bv]? = some (Obj.cells #[.int .i64 num, .string tx] 50)) := hide (by rw [hw4, hbv]; exact heap_alloc_new w3 _)
  have H4 : Hid (Drawn w1 w4 g g a len cap) := hide (drawn_below H3.out (by rw [hw4]; exact (Below.refl _ _).alloc (Nat.le_refl _) _) (Nat.le_refl _))
  have hbv' := hbv
  clear hbv
  go_wp2_with fail
  rw [← hw4, ← hbv']
  clear hw4 hbv'
  refine (l01Below_any g g a len cap 8 (by omega) (by omega) _ H4.out.1 H4.out.2.2 (Nat.le_refl _)).mono ?_
  rintro e w5 ⟨z, hz, rfl, h5⟩
  have H5 := hide (drawn_trans H4.out h5)
  have HV_w5 : Hid (w5.heap[bv]? = some (Obj.cells #[.int .i64 num, .string tx] 50)) := hide ((h5.2.1.block _ (Array.getElem?_eq_some_iff.1 HV4.out).1 (by simpa using HBv.out.2)).trans HV4.out)
  have HR_w5 : Hid (w5.heap[w.heap.size]? = some (Obj.cells #[.int .i64 0, .string ⟨#[]⟩] 50)) := hide ((H5.out.2.1.block _ (Array.getElem?_eq_some_iff.1 HR1.out).1 (by simpa using HGw.out.1)).trans HR1.out)
  have HB_w5 : Hid (Below w.heap.size w w5) := hide (HB1.out.grown H5.out.2.1 HB1.out.size (fun k hk => by injection hk with hk; have := HGw.out.2; omega))
  clear h5
  by_cases h0 : z = 0
  · subst h0
    go_wp2_with fail
    refine (l01Below_any g g a len cap 4 (by omega) (by omega) _ H5.out.1 H5.out.2.2 (Nat.le_refl _)).mono ?_
    rintro e w6 ⟨y, hy, rfl, h6⟩
    have HV_w6 := hide ((h6.2.1.block _ (Array.getElem?_eq_some_iff.1 HV_w5.out).1 (by simpa using HBv.out.2)).trans HV_w5.out)
    have HR_w6 : Hid (w6.heap[w.heap.size]? = some (Obj.cells #[.int .i64 0, .string ⟨#[]⟩] 50)) := hide ((h6.2.1.block _ (Array.getElem?_eq_some_iff.1 HR_w5.out).1 (by simpa using HGw.out.1)).trans HR_w5.out)
    have HB_w6 : Hid (Below w.heap.size w w6) := hide (HB_w5.out.grown h6.2.1 HB_w5.out.size (fun k hk => by injection hk with hk; have := HGw.out.2; omega))
    clear h6
    have hR := HR_w6.out
    have hfin := two_new (u0 := .int .i64 num) (u1 := .string tx) hR
    have HZ := hide (⟨(cell_at hfin 0).1, (cell_at hfin 1).1⟩ : _ ∧ _)
    have r0 : w6.cell? ⟨w.heap.size, 0, none⟩ = some (.int .i64 0) := (cell_at hR 0).1
    have r1 : w6.cell? ⟨w.heap.size, 1, none⟩ = some (.string ⟨#[]⟩) := (cell_at hR 1).1
    have q0 := (cell_at hR 0).2
    have q1 := (cell_at hR 1).2
    have hV := HV_w6.out
    have v0 : w6.cell? ⟨bv, 0, none⟩ = some (.int .i64 num) := (cell_at hV 0).1
    have v1 : w6.cell? ⟨bv, 1, none⟩ = some (.string tx) := (cell_at hV 1).1
    clear hfin hR hV
    go_wp2_with fail
    go_region
    go_wp2_with fail
    have z0 := HZ.out.1
    have z1 := HZ.out.2
    refine bodyPost_ret (v := .tuple #[.int .i64 (y : Int), .agg #[.int .i64 num, .string tx]]) (by simp [results, Try.results41, go_sem, z0, z1]) rfl ⟨_, _, _, ?_, rfl, ((HB_w6.out.setCell (Nat.le_refl _) _).setCell (Nat.le_refl _) _).drew⟩
    exact HTx.out
  · have n0 : ((0 : Int) == (z : Int)) = false := by rw [beq_eq_false_iff_ne]; omega
    by_cases h1 : z = 1
    · subst h1
      go_wp2_with fail
      refine (pick_ints g g a len cap [-1, 1000000] 2 rfl (by omega) (by omega) w5 w5.heap.size rfl H5.out.1 H5.out.2.2 (Nat.le_refl _) _ rfl).mono ?_
      rintro e w6 ⟨y, hy, rfl, h6⟩
      clear hy
      have hV6 := (h6.2.1.block _ (Array.getElem?_eq_some_iff.1 HV_w5.out).1 (by simpa using HBv.out.2)).trans HV_w5.out
      have HR_w6 : Hid (w6.heap[w.heap.size]? = some (Obj.cells #[.int .i64 0, .string ⟨#[]⟩] 50)) := hide ((h6.2.1.block _ (Array.getElem?_eq_some_iff.1 HR_w5.out).1 (by simpa using HGw.out.1)).trans HR_w5.out)
      have hst : (w6.setCell ⟨bv, 0, none⟩ (.int .i64 y)).heap[bv]? = some (Obj.cells #[.int .i64 y, .string tx] 50) := heap_setCell_same w6 bv 0 _ _ _ hV6
      have hgst := grown_setCell w6 bv 0 (.int .i64 y)
      have k0 : w6.cell? ⟨bv, 0, none⟩ = some (.int .i64 num) := (cell_at hV6 0).1
      have k1 : w6.cell? ⟨bv, 1, none⟩ = some (.string tx) := (cell_at hV6 1).1
      have kf := (cell_at hV6 0).2
      have HB_w6 : Hid (Below w.heap.size w w6) := hide (HB_w5.out.grown h6.2.1 HB_w5.out.size (fun k hk => by injection hk with hk; have := HGw.out.2; omega))
      obtain ⟨w7, hw7⟩ : ∃ w7, w7 = w6.setCell ⟨bv, 0, none⟩ (.int .i64 y) := ⟨_, rfl⟩
      rw [← hw7] at hst hgst
      have HV_w7 := hide hst
      have HR_w7 : Hid (w7.heap[w.heap.size]? = some (Obj.cells #[.int .i64 0, .string ⟨#[]⟩] 50)) := hide ((hgst.block _ (Array.getElem?_eq_some_iff.1 HR_w6.out).1 (by simpa using Nat.ne_of_lt HBv.out.1)).trans HR_w6.out)
      have HB_w7 : Hid (Below w.heap.size w w7) := hide (HB_w6.out.grown hgst HB_w6.out.size (fun k hk => by injection hk with hk; have := HBv.out.1; omega))
      clear h6 hV6 hst hgst
      have hR := HR_w7.out
      have hfin := two_new (u0 := .int .i64 y) (u1 := .string tx) hR
      have HZ := hide (⟨(cell_at hfin 0).1, (cell_at hfin 1).1⟩ : _ ∧ _)
      have r0 : w7.cell? ⟨w.heap.size, 0, none⟩ = some (.int .i64 0) := (cell_at hR 0).1
      have r1 : w7.cell? ⟨w.heap.size, 1, none⟩ = some (.string ⟨#[]⟩) := (cell_at hR 1).1
      have q0 := (cell_at hR 0).2
      have q1 := (cell_at hR 1).2
      have hV := HV_w7.out
      have v0 : w7.cell? ⟨bv, 0, none⟩ = some (.int .i64 y) := (cell_at hV 0).1
      have v1 : w7.cell? ⟨bv, 1, none⟩ = some (.string tx) := (cell_at hV 1).1
      clear hfin hR hV
      go_wp2_with fail
      rw [← hw7]
      clear hw7 k0 k1 kf
      go_region
      go_wp2_with fail
      have z0 := HZ.out.1
      have z1 := HZ.out.2
      refine bodyPost_ret (v := .tuple #[.int .i64 (1 + (x : Int)), .agg #[.int .i64 y, .string tx]]) (by simp [results, Try.results41, go_sem, z0, z1]) rfl ⟨_, _, _, ?_, rfl, ((HB_w7.out.setCell (Nat.le_refl _) _).setCell (Nat.le_refl _) _).drew⟩
      exact HTx.out
    · have n1 : ((1 : Int) == (z : Int)) = false := by rw [beq_eq_false_iff_ne]; omega
      by_cases h2 : z = 2
      · subst h2
        go_wp2_with fail
        refine (pick_strs g g a len cap texts2 2 rfl (by omega) (by omega) w5 w5.heap.size rfl H5.out.1 H5.out.2.2 (Nat.le_refl _) _ rfl).mono ?_
        rintro e w6 ⟨y, hy, rfl, h6⟩
        have HYs := hide (texts2_in hy)
        clear hy
        have hV6 := (h6.2.1.block _ (Array.getElem?_eq_some_iff.1 HV_w5.out).1 (by simpa using HBv.out.2)).trans HV_w5.out
        have HR_w6 : Hid (w6.heap[w.heap.size]? = some (Obj.cells #[.int .i64 0, .string ⟨#[]⟩] 50)) := hide ((h6.2.1.block _ (Array.getElem?_eq_some_iff.1 HR_w5.out).1 (by simpa using HGw.out.1)).trans HR_w5.out)
        have hst : (w6.setCell ⟨bv, 1, none⟩ (.string y)).heap[bv]? = some (Obj.cells #[.int .i64 num, .string y] 50) := heap_setCell_same w6 bv 1 _ _ _ hV6
        have hgst := grown_setCell w6 bv 1 (.string y)
        have k0 : w6.cell? ⟨bv, 0, none⟩ = some (.int .i64 num) := (cell_at hV6 0).1
        have k1 : w6.cell? ⟨bv, 1, none⟩ = some (.string tx) := (cell_at hV6 1).1
        have kf := (cell_at hV6 1).2
        have HB_w6 : Hid (Below w.heap.size w w6) := hide (HB_w5.out.grown h6.2.1 HB_w5.out.size (fun k hk => by injection hk with hk; have := HGw.out.2; omega))
        obtain ⟨w7, hw7⟩ : ∃ w7, w7 = w6.setCell ⟨bv, 1, none⟩ (.string y) := ⟨_, rfl⟩
        rw [← hw7] at hst hgst
        have HV_w7 := hide hst
        have HR_w7 : Hid (w7.heap[w.heap.size]? = some (Obj.cells #[.int .i64 0, .string ⟨#[]⟩] 50)) := hide ((hgst.block _ (Array.getElem?_eq_some_iff.1 HR_w6.out).1 (by simpa using Nat.ne_of_lt HBv.out.1)).trans HR_w6.out)
        have HB_w7 : Hid (Below w.heap.size w w7) := hide (HB_w6.out.grown hgst HB_w6.out.size (fun k hk => by injection hk with hk; have := HBv.out.1; omega))
        clear h6 hV6 hst hgst
        have hR := HR_w7.out
        have hfin := two_new (u0 := .int .i64 num) (u1 := .string y) hR
        have HZ := hide (⟨(cell_at hfin 0).1, (cell_at hfin 1).1⟩ : _ ∧ _)
        have r0 : w7.cell? ⟨w.heap.size, 0, none⟩ = some (.int .i64 0) := (cell_at hR 0).1
        have r1 : w7.cell? ⟨w.heap.size, 1, none⟩ = some (.string ⟨#[]⟩) := (cell_at hR 1).1
        have q0 := (cell_at hR 0).2
        have q1 := (cell_at hR 1).2
        have hV := HV_w7.out
        have v0 : w7.cell? ⟨bv, 0, none⟩ = some (.int .i64 num) := (cell_at hV 0).1
        have v1 : w7.cell? ⟨bv, 1, none⟩ = some (.string y) := (cell_at hV 1).1
        clear hfin hR hV
        go_wp2_with fail
        rw [← hw7]
        clear hw7 k0 k1 kf
        go_region
        go_wp2_with fail
        have z0 := HZ.out.1
        have z1 := HZ.out.2
        refine bodyPost_ret (v := .tuple #[.int .i64 (1 + (x : Int)), .agg #[.int .i64 num, .string y]]) (by simp [results, Try.results41, go_sem, z0, z1]) rfl ⟨_, _, _, ?_, rfl, ((HB_w7.out.setCell (Nat.le_refl _) _).setCell (Nat.le_refl _) _).drew⟩
        exact HYs.out
      · have n2 : ((2 : Int) == (z : Int)) = false := by rw [beq_eq_false_iff_ne]; omega
        have hR := HR_w5.out
        have hfin := two_new (u0 := .int .i64 num) (u1 := .string tx) hR
        have HZ := hide (⟨(cell_at hfin 0).1, (cell_at hfin 1).1⟩ : _ ∧ _)
        have r0 : w5.cell? ⟨w.heap.size, 0, none⟩ = some (.int .i64 0) := (cell_at hR 0).1
        have r1 : w5.cell? ⟨w.heap.size, 1, none⟩ = some (.string ⟨#[]⟩) := (cell_at hR 1).1
        have q0 := (cell_at hR 0).2
        have q1 := (cell_at hR 1).2
        have hV := HV_w5.out
        have v0 : w5.cell? ⟨bv, 0, none⟩ = some (.int .i64 num) := (cell_at hV 0).1
        have v1 : w5.cell? ⟨bv, 1, none⟩ = some (.string tx) := (cell_at hV 1).1
        clear hfin hR hV
        go_wp2_with fail
        go_region
        go_wp2_with fail
        have z0 := HZ.out.1
        have z1 := HZ.out.2
        refine bodyPost_ret (v := .tuple #[.int .i64 (1 + (x : Int)), .agg #[.int .i64 num, .string tx]]) (by simp [results, Try.results41, go_sem, z0, z1]) rfl ⟨_, _, _, ?_, rfl, ((HB_w5.out.setCell (Nat.le_refl _) _).setCell (Nat.le_refl _) _).drew⟩
        exact HTx.out
end Go.Proofs.Ytjldcbnoomcloaa
