/-
  l05Any, DrawPlaceOf by contracts: a node that may be wrong, of few and short parts.
-/
import Derived.Test.YtnkjakagkdimeaaDrawNode2
import Derived.Test.YtnkjakagkdimeaaNodeVar
import Derived.Deep.RegionWith
namespace Go.Proofs.Ytnkjakagkdimeaa
open Go.RowKit

/-- small enough for every function of the chapter -/
def SmallN (n : Nd) : Prop := n.ks.length ≤ 5 ∧ n.vs.length ≤ 5 ∧ n.cs.length ≤ 5 ∧ (∀ s ∈ n.ks, s.size ≤ 25) ∧ ∀ s ∈ n.vs, s.size ≤ 25

theorem small_drawn {n : Nd} (h : DrawnN n) : SmallN n ∧ n.ks.length ≤ 4 := by
  obtain ⟨h1, h2, h3, h4, h5⟩ := h
  refine ⟨⟨by omega, ?_, ?_, fun s hs => ?_, fun s hs => by have := h5 s hs; omega⟩, h2⟩
  · cases e : n.lf with
    | true => rw [(h3.1 e).1]; omega
    | false => rw [(h3.2 e).2]; simp
  · cases e : n.lf with
    | true => rw [(h3.1 e).2]; simp
    | false => rw [(h3.2 e).1]; omega
  · obtain ⟨i, hi, rfl⟩ := List.getElem_of_mem hs
    have := keyAt_size (h4.1 i hi)
    rw [List.getD_eq_getElem?_getD, List.getElem?_eq_getElem hi, Option.getD_some] at this
    omega

theorem nvar_key0_cell {w : World} {gn B b c : Nat} {n : Nd} {v2 v3 : Value} (h : NVar w gn B n (.slice (some ⟨b, 0, none⟩) n.ks.length c) v2 v3) (hp : 0 < n.ks.length) : (∃ s, w.cell? ⟨b, 0, none⟩ = some (.string s)) ∧ w.frozen? ⟨b, 0, none⟩ = false := by
  have h1 := (nvar_rows h).1
  exact ⟨⟨n.ks[0], by rw [h1.cellAt 0 (by omega), strs_at _ 0 hp]⟩, h1.frozenAt 0⟩

theorem nvar_val0_cell {w : World} {gn B b c : Nat} {n : Nd} {v1 v3 : Value} (h : NVar w gn B n v1 (.slice (some ⟨b, 0, none⟩) n.vs.length c) v3) (hp : 0 < n.vs.length) : (∃ s, w.cell? ⟨b, 0, none⟩ = some (.string s)) ∧ w.frozen? ⟨b, 0, none⟩ = false := by
  have h1 := (nvar_rows h).2.1
  exact ⟨⟨n.vs[0], by rw [h1.cellAt 0 (by omega), strs_at _ 0 hp]⟩, h1.frozenAt 0⟩

theorem nvar_kid0_cell {w : World} {gn B b c : Nat} {n : Nd} {v1 v2 : Value} (h : NVar w gn B n v1 v2 (.slice (some ⟨b, 0, none⟩) n.cs.length c)) (hp : 0 < n.cs.length) : (∃ z, w.cell? ⟨b, 0, none⟩ = some (.int .i64 z)) ∧ w.frozen? ⟨b, 0, none⟩ = false := by
  have h1 := (nvar_rows h).2.2.1
  exact ⟨⟨n.cs[0], by rw [h1.cellAt 0 (by omega), ints_at _ 0 hp]⟩, h1.frozenAt 0⟩

theorem nvar_key0_small {n : Nd} (h : SmallN n) (t : ByteArray) (ht : t.size ≤ 25) : SmallN ⟨n.lf, n.ks.set 0 t, n.vs, n.cs⟩ :=
  ⟨by rw [List.length_set]; exact h.1, h.2.1, h.2.2.1, fun s hs => by rcases List.mem_or_eq_of_mem_set hs with hs | rfl; exact h.2.2.2.1 s hs; exact ht, h.2.2.2.2⟩

theorem nvar_val0_small {n : Nd} (h : SmallN n) (t : ByteArray) (ht : t.size ≤ 25) : SmallN ⟨n.lf, n.ks, n.vs.set 0 t, n.cs⟩ :=
  ⟨h.1, by show (n.vs.set 0 t).length ≤ 5; rw [List.length_set]; exact h.2.1, h.2.2.1, h.2.2.2.1, fun s hs => by rcases List.mem_or_eq_of_mem_set hs with hs | rfl; exact h.2.2.2.2 s hs; exact ht⟩

theorem below_cell {w : World} {b B j : Nat} {u : Value} (h : B ≤ b) (_hB : B ≤ w.heap.size) : Below B w (w.setCell ⟨b, j, none⟩ u) := (Below.refl B w).setCell h _

theorem drawn_belowN {w w' : World} {g B : Nat} {a : Option Addr} {len cap : Nat} (hc : CurAt w g a len cap) (hd : CodeIn w B a len) (hB : B ≤ g) (hb : Below w.heap.size w w') : Drawn w w' g B a len cap := by
  have hg := cur_lt hc
  have hgr : w.grownBy w' (some g) := ⟨hb.os, hb.tape, hb.output, hb.size, fun k hk _ => hb.block k hk⟩
  refine ⟨?_, hgr, code_grown hd hgr hB hg⟩
  obtain ⟨i, x, hi, hblk⟩ := hc
  exact ⟨i, x, hi, (hb.block g hg).trans hblk⟩

theorem drawn_drewN {w w' : World} {g B : Nat} {a : Option Addr} {len cap : Nat} (h : Drawn w.drew w' g B a len cap) : Drawn w w' g B a len cap := ⟨h.1, ⟨h.2.1.os, h.2.1.tape, h.2.1.output, h.2.1.size, h.2.1.block⟩, h.2.2⟩

def AnPost (w : World) (g B : Nat) (a : Option Addr) (len cap : Nat) (e : Ending) (w' : World) : Prop := ∃ n v, e = .returned v ∧ SmallN n ∧ NodeOwn w' w.heap.size v n.lf n.ks n.vs n.cs ∧ Drawn w w' g B a len cap

set_option maxHeartbeats 16000000 in
set_option maxRecDepth 100000 in
theorem l05Any_any (g B : Nat) (a : Option Addr) (len cap : Nat) (w : World) (hc : CurAt w g a len cap) (hd : CodeIn w B a len) (hB : B ≤ g) :
    Calls Try.prog 19 #[.pointer (some ⟨g, 0, none⟩)] w fun e w' => AnPost w g B a len cap e w' := by
  obtain ⟨i0, HI1, HI2, HI3, HI4⟩ := info_parts Try.infoStrR
  have HGl : Hid (g < w.heap.size) := hide (cur_lt hc)
  obtain ⟨wa, hwa⟩ : ∃ wa, wa = w.alloc (Obj.cells #[.bool false, .slice none 0 0, .slice none 0 0, .slice none 0 0] 27) := ⟨_, rfl⟩
  have hba : Below w.heap.size w wa := by rw [hwa]; exact (Below.refl _ _).alloc (Nat.le_refl _) _
  have HDa := hide (drawn_belowN hc hd hB hba)
  have HVa : Hid (wa.heap[w.heap.size]? = some (.cells #[.bool false, .slice none 0 0, .slice none 0 0, .slice none 0 0] 27 (0, 0))) := hide (by rw [hwa]; exact heap_alloc_new w _)
  have HSa : Hid (wa.heap.size = w.heap.size + 1) := hide (by rw [hwa]; simp)
  have HGa : Hid (g < wa.heap.size) := hide (by have h1 := HGl.out; have h2 := HSa.out; omega)
  have HNo := hide (l05Node_any g B a len cap wa HDa.out.1 HDa.out.2.2 hB)
  have HB12 := hide (fun wx h h' => l01Below_any g B a len cap 12 (by omega) (by omega) wx h h' hB)
  have HBe2 := hide (fun wx h h' => l01Below_any g B a len cap 2 (by omega) (by omega) wx h h' hB)
  have HLo : Hid (∀ (k : Nat) (wx : World), k < 2 → Calls Try.prog 33 #[.int .i64 (24 + (k : Int)), .int .u8 66] wx fun e w' => ∃ t : ByteArray, t.size = 24 + k ∧ e = .returned (.string t) ∧ Below wx.heap.size wx w') := hide (fun k wx hk => by
    have h := l01Long_any (24 + k) 66 (by omega) (by omega) wx
    rw [show ((24 + k : Nat) : Int) = 24 + (k : Int) from by omega] at h
    exact h)
  clear hc hd hba
  go_enter Try.func19, Try.ntmps19
  go_wp2_with fail
  rw [← hwa]
  clear hwa
  refine HNo.out.mono ?_
  rintro e w1 ⟨n, v, rfl, hn, hown, hd1⟩
  obtain ⟨v1, v2, v3, rfl, h1, h2, h3, h4⟩ := hown
  obtain ⟨a1, c1, rfl⟩ := own_slice h1
  obtain ⟨a2, c2, rfl⟩ := own_slice h2
  obtain ⟨a3, c3, rfl⟩ := own_slice h3
  obtain ⟨wn, hwn⟩ : ∃ wn, wn = w1.alloc (.cells #[.bool n.lf, .slice a1 n.ks.length c1, .slice a2 n.vs.length c2, .slice a3 n.cs.length c3] 27 (0, 0)) := ⟨_, rfl⟩
  have hbn : Below w1.heap.size w1 wn := by rw [hwn]; exact (Below.refl _ _).alloc (Nat.le_refl _) _
  obtain ⟨gn, hgn⟩ : ∃ gn, gn = w1.heap.size := ⟨_, rfl⟩
  have HNn : Hid (NVar wn gn wa.heap.size n (.slice a1 n.ks.length c1) (.slice a2 n.vs.length c2) (.slice a3 n.cs.length c3)) := hide (nvar_mk (by rw [hwn, hgn]; exact heap_alloc_new w1 _) (own_stays h1 hbn) (own_stays h2 hbn) (own_stays h3 hbn) h4)
  have HDn : Hid (Drawn wa wn g B a len cap) := hide (drawn_low hd1 hbn (by have := hd1.2.1.size; omega) (cur_lt hd1.1) hB)
  have HLw : Hid (wa.heap.size ≤ gn) := hide (by rw [hgn]; exact hd1.2.1.size)
  have HGn : Hid (gn ≠ g) := hide (by rw [hgn]; have := cur_lt hd1.1; omega)
  have HSm0 := hide (small_drawn hn).1
  have HK4 := hide (small_drawn hn).2
  have HK1 : Hid (1 ≤ n.ks.length) := hide hn.1
  have HGm := hide hgn
  clear h1 h2 h3 h4 hbn hd1 hn
  go_wp2_with fail
  rw [← HGm.out]
  try rw [← hwn]
  clear hwn hgn
  refine (HB12.out _ HDn.out.1 HDn.out.2.2).mono ?_
  rintro e w2 ⟨x, hx, rfl, hd2⟩
  have HN2 := hide (nvar_grown HNn.out hd2.2.1 HGn.out HGa.out)
  have HD2 := hide (drawn_trans HDn.out hd2)
  have c1' := (cell_at HN2.out.1 1).1
  have c2' := (cell_at HN2.out.1 2).1
  have c3' := (cell_at HN2.out.1 3).1
  have c0' := (cell_at HN2.out.1 0).1
  have f0' := (cell_at HN2.out.1 0).2
  clear hd2 HNn HDn
  by_cases x0 : x = 0
  · subst x0
    have HSm : Hid (SmallN ⟨!n.lf, n.ks, n.vs, n.cs⟩) := hide ⟨HSm0.out.1, HSm0.out.2.1, HSm0.out.2.2.1, HSm0.out.2.2.2.1, HSm0.out.2.2.2.2⟩
    have HN := hide (nvar_flag HN2.out (!n.lf))
    have HDr := hide (drawn_low HD2.out (below_cell (w := w2) (b := gn) (j := 0) (u := .bool (!n.lf)) (B := wa.heap.size) HLw.out (by have := HD2.out.2.1.size; omega)) (Nat.le_refl _) HGa.out hB)
    obtain ⟨nf, hnf⟩ : ∃ nf, nf = !n.lf := ⟨_, rfl⟩
    rw [← hnf] at HN HDr HSm
    have HNf := hide hnf
    obtain ⟨w7, hw7⟩ : ∃ w7, w7 = w2.setCell ⟨gn, 0, none⟩ (.bool nf) := ⟨_, rfl⟩
    rw [← hw7] at HN HDr
    have HW7 := hide hw7
    have hv6 : w7.heap[w.heap.size]? = _ := (HDr.out.2.1.block w.heap.size (by rw [HSa.out]; omega) (fun e => by injection e with e; have := HGl.out; omega)).trans HVa.out
    have q0 : w7.cell? ⟨gn, 0, none⟩ = some (.bool nf) := (cell_at HN.out.1 0).1
    have q1 : w7.cell? ⟨gn, 1, none⟩ = some (.slice a1 n.ks.length c1) := (cell_at HN.out.1 1).1
    have q2 : w7.cell? ⟨gn, 2, none⟩ = some (.slice a2 n.vs.length c2) := (cell_at HN.out.1 2).1
    have q3 : w7.cell? ⟨gn, 3, none⟩ = some (.slice a3 n.cs.length c3) := (cell_at HN.out.1 3).1
    have o0 : w7.cell? ⟨w.heap.size, 0, none⟩ = some (.bool false) := (cell_at hv6 0).1
    have o1 : w7.cell? ⟨w.heap.size, 1, none⟩ = some (.slice none 0 0) := (cell_at hv6 1).1
    have o2 : w7.cell? ⟨w.heap.size, 2, none⟩ = some (.slice none 0 0) := (cell_at hv6 2).1
    have o3 : w7.cell? ⟨w.heap.size, 3, none⟩ = some (.slice none 0 0) := (cell_at hv6 3).1
    have z0 := (cell_at hv6 0).2
    have z1 := (cell_at hv6 1).2
    have z2 := (cell_at hv6 2).2
    have z3 := (cell_at hv6 3).2
    have HRt := hide (ret_node hv6 HN.out.2 (by rw [HSa.out]; omega))
    clear hv6
    rw [hw7] at q0 q1 q2 q3 o0 o1 o2 o3 z0 z1 z2 z3
    rw [hnf] at q0 q1 q2 q3 o0 o1 o2 o3 z0 z1 z2 z3
    clear hw7 hnf
    go_wp2_with fail
    rw [← HNf.out]
    rw [← HW7.out]
    have hrt := HRt.out
    have t0 := (cell_at hrt.1 0).1
    have t1 := (cell_at hrt.1 1).1
    have t2 := (cell_at hrt.1 2).1
    have t3 := (cell_at hrt.1 3).1
    refine bodyPost_ret (v := .agg #[.bool nf, .slice a1 n.ks.length c1, .slice a2 n.vs.length c2, .slice a3 n.cs.length c3]) (by simp [results, Try.results19, go_sem, t0, t1, t2, t3]) rfl ⟨⟨nf, n.ks, n.vs, n.cs⟩, _, rfl, HSm.out, nodeOwn_down hrt.2.1 (by rw [HSa.out]; omega), drawn_low (drawn_trans HDa.out HDr.out) hrt.2.2 (Nat.le_refl _) HGl.out hB⟩
  by_cases x1 : x = 1
  · subst x1
    obtain ⟨b0, hb0⟩ : ∃ b0, a1 = some ⟨b0, 0, none⟩ := by
      rcases (nvar_rows HN2.out).1.2 with ⟨e, h0⟩ | ⟨b, c, cur, e, _⟩
      · have := HK1.out; omega
      · injection e with e1; exact ⟨b, e1⟩
    subst hb0
    have HPos : Hid (0 < n.ks.length) := hide (by have := HK1.out; omega)
    have HRb : Hid (wa.heap.size ≤ b0) := hide ((nvar_rows HN2.out).1.lt b0 rfl).1
    have hi1 : (0 : Int) < (n.ks.length : Int) := by have := HK1.out; omega
    go_wp2_with fail
    go_region_with (first | (go_at_call 33; refine (HLo.out k _ hk).mono ?_; rintro e w6 ⟨t, ht, rfl, hb6⟩; have HN6 := hide (nvar_below HN5.out hb6); have HD6 := hide (drawn_low HD5.out hb6 (by have := HD5.out.2.1.size; omega) (by have := cur_lt HD5.out.1; omega) hB); have b6 : w6.cell? ⟨gn, 1, none⟩ = some (.slice (some ⟨b0, 0, none⟩) n.ks.length c1) := (cell_at HN6.out.1 1).1; obtain ⟨⟨ts, tc⟩, tf⟩ := nvar_key0_cell HN6.out HPos.out) | (go_at_call 31; refine (HBe2.out _ ?_ ?_).mono ?_; exact HD2.out.1; exact HD2.out.2.2; rintro e w5 ⟨k, hk, rfl, h5⟩; have HD5 := hide (drawn_trans (drawn_dr HD2.out) h5); have HN5 := hide (nvar_grown (show NVar w2.drew gn _ _ _ _ _ from HN2.out) h5.2.1 HGn.out HGa.out); have b5 : w5.cell? ⟨gn, 1, none⟩ = some (.slice (some ⟨b0, 0, none⟩) n.ks.length c1) := (cell_at HN5.out.1 1).1; have hw : IntKind.i64.wrap (24 + (k : Int)) = 24 + (k : Int) := IntWalk.i64_in _ ⟨by omega, by omega⟩))
    all_goals
      have HSm : Hid (SmallN ⟨n.lf, n.ks.set 0 t, n.vs, n.cs⟩) := hide (nvar_key0_small HSm0.out t (by omega))
      have HN := hide (nvar_key0 HN6.out t)
      have HDr := hide (drawn_low HD6.out (below_cell (w := w6) (b := b0) (j := 0) (u := .string t) (B := wa.heap.size) HRb.out (by have := HD6.out.2.1.size; omega)) (Nat.le_refl _) HGa.out hB)
      obtain ⟨w7, hw7⟩ : ∃ w7, w7 = w6.setCell ⟨b0, 0, none⟩ (.string t) := ⟨_, rfl⟩
      rw [← hw7] at HN HDr
      try rw [← hw7]
      clear hw7
      have hv6 : w7.heap[w.heap.size]? = _ := (HDr.out.2.1.block w.heap.size (by rw [HSa.out]; omega) (fun e => by injection e with e; have := HGl.out; omega)).trans HVa.out
      have q0 : w7.cell? ⟨gn, 0, none⟩ = some (.bool n.lf) := (cell_at HN.out.1 0).1
      have q1 : w7.cell? ⟨gn, 1, none⟩ = some (.slice (some ⟨b0, 0, none⟩) n.ks.length c1) := (cell_at HN.out.1 1).1
      have q2 : w7.cell? ⟨gn, 2, none⟩ = some (.slice a2 n.vs.length c2) := (cell_at HN.out.1 2).1
      have q3 : w7.cell? ⟨gn, 3, none⟩ = some (.slice a3 n.cs.length c3) := (cell_at HN.out.1 3).1
      have o0 : w7.cell? ⟨w.heap.size, 0, none⟩ = some (.bool false) := (cell_at hv6 0).1
      have o1 : w7.cell? ⟨w.heap.size, 1, none⟩ = some (.slice none 0 0) := (cell_at hv6 1).1
      have o2 : w7.cell? ⟨w.heap.size, 2, none⟩ = some (.slice none 0 0) := (cell_at hv6 2).1
      have o3 : w7.cell? ⟨w.heap.size, 3, none⟩ = some (.slice none 0 0) := (cell_at hv6 3).1
      have z0 := (cell_at hv6 0).2
      have z1 := (cell_at hv6 1).2
      have z2 := (cell_at hv6 2).2
      have z3 := (cell_at hv6 3).2
      have HRt := hide (ret_node hv6 HN.out.2 (by rw [HSa.out]; omega))
      clear hv6
      go_wp2_with fail
      have hrt := HRt.out
      have t0 := (cell_at hrt.1 0).1
      have t1 := (cell_at hrt.1 1).1
      have t2 := (cell_at hrt.1 2).1
      have t3 := (cell_at hrt.1 3).1
      refine bodyPost_ret (v := .agg #[.bool n.lf, .slice (some ⟨b0, 0, none⟩) n.ks.length c1, .slice a2 n.vs.length c2, .slice a3 n.cs.length c3]) (by simp [results, Try.results19, go_sem, t0, t1, t2, t3]) rfl ⟨⟨n.lf, n.ks.set 0 t, n.vs, n.cs⟩, _, rfl, HSm.out, nodeOwn_down hrt.2.1 (by rw [HSa.out]; omega), drawn_low (drawn_trans HDa.out HDr.out) hrt.2.2 (Nat.le_refl _) HGl.out hB⟩
  by_cases x2 : x = 2
  · subst x2
    by_cases hk0 : n.cs.length = 0
    · rw [hk0] at HN2
      clear hk0
      have HN := HN2
      have HDr := HD2
      have HSm := HSm0
      clear c0' c1' c2' c3' f0'
      have hv6 : w2.heap[w.heap.size]? = _ := (HDr.out.2.1.block w.heap.size (by rw [HSa.out]; omega) (fun e => by injection e with e; have := HGl.out; omega)).trans HVa.out
      have q0 : w2.cell? ⟨gn, 0, none⟩ = some (.bool n.lf) := (cell_at HN.out.1 0).1
      have q1 : w2.cell? ⟨gn, 1, none⟩ = some (.slice a1 n.ks.length c1) := (cell_at HN.out.1 1).1
      have q2 : w2.cell? ⟨gn, 2, none⟩ = some (.slice a2 n.vs.length c2) := (cell_at HN.out.1 2).1
      have q3 : w2.cell? ⟨gn, 3, none⟩ = some (.slice a3 0 c3) := (cell_at HN.out.1 3).1
      have o0 : w2.cell? ⟨w.heap.size, 0, none⟩ = some (.bool false) := (cell_at hv6 0).1
      have o1 : w2.cell? ⟨w.heap.size, 1, none⟩ = some (.slice none 0 0) := (cell_at hv6 1).1
      have o2 : w2.cell? ⟨w.heap.size, 2, none⟩ = some (.slice none 0 0) := (cell_at hv6 2).1
      have o3 : w2.cell? ⟨w.heap.size, 3, none⟩ = some (.slice none 0 0) := (cell_at hv6 3).1
      have z0 := (cell_at hv6 0).2
      have z1 := (cell_at hv6 1).2
      have z2 := (cell_at hv6 2).2
      have z3 := (cell_at hv6 3).2
      have HRt := hide (ret_node hv6 HN.out.2 (by rw [HSa.out]; omega))
      clear hv6
      go_wp2_with fail
      have hrt := HRt.out
      have t0 := (cell_at hrt.1 0).1
      have t1 := (cell_at hrt.1 1).1
      have t2 := (cell_at hrt.1 2).1
      have t3 := (cell_at hrt.1 3).1
      refine bodyPost_ret (v := .agg #[.bool n.lf, .slice a1 n.ks.length c1, .slice a2 n.vs.length c2, .slice a3 0 c3]) (by simp [results, Try.results19, go_sem, t0, t1, t2, t3]) rfl ⟨n, _, rfl, HSm.out, nodeOwn_down hrt.2.1 (by rw [HSa.out]; omega), drawn_low (drawn_trans HDa.out HDr.out) hrt.2.2 (Nat.le_refl _) HGl.out hB⟩
    · obtain ⟨b0, hb0⟩ : ∃ b0, a3 = some ⟨b0, 0, none⟩ := by
        rcases (nvar_rows HN2.out).2.2.1.2 with ⟨e, h0⟩ | ⟨b, c, cur, e, _⟩
        · omega
        · injection e with e1; exact ⟨b, e1⟩
      subst hb0
      have hPos : 0 < n.cs.length := by omega
      have HPos := hide hPos
      have HRb : Hid (wa.heap.size ≤ b0) := hide ((nvar_rows HN2.out).2.2.1.lt b0 rfl).1
      have hi1 : (0 : Int) < (n.cs.length : Int) := by omega
      have d1 : decide ((0 : Int) < (n.cs.length : Int)) = true := decide_eq_true hi1
      have HPi : Hid (Calls Try.prog 34 #[.pointer (some ⟨g, 0, none⟩), .slice (some ⟨w2.heap.size, 0, none⟩) 5 5] (w2.alloc (Obj.cells #[.int .i64 0, .int .i64 1, .int .i64 2, .int .i64 39, .int .i64 40] 3)).drew fun e w' => ∃ z : Int, z ∈ ([0, 1, 2, 39, 40] : List Int) ∧ e = .returned (.int .i64 z) ∧ Drawn w2.drew w' g B a len cap) := hide (pick_ints g B a len cap [0, 1, 2, 39, 40] 5 rfl (by omega) (by omega) w2.drew w2.heap.size rfl HD2.out.1 HD2.out.2.2 hB _ rfl)
      have cm := fun o => (cell_at (nvar_below HN2.out ((Below.refl _ _).alloc (Nat.le_refl _) o)).1 3).1
      clear hk0 hPos
      go_wp2_with fail
      go_region_with (go_at_call 34; refine HPi.out.mono ?_; rintro e w6 ⟨z, hz, rfl, h6⟩; have HD6 := hide (drawn_trans HD2.out (drawn_drewN h6)); have HN6 := hide (nvar_grown HN2.out (drawn_drewN h6).2.1 HGn.out HGa.out); have b6 : w6.cell? ⟨gn, 3, none⟩ = some (.slice (some ⟨b0, 0, none⟩) n.cs.length c3) := (cell_at HN6.out.1 3).1; obtain ⟨⟨ts, tc⟩, tf⟩ := nvar_kid0_cell HN6.out HPos.out)
      all_goals
        have HSm : Hid (SmallN ⟨n.lf, n.ks, n.vs, n.cs.set 0 z⟩) := hide ⟨HSm0.out.1, HSm0.out.2.1, by show (n.cs.set 0 z).length ≤ 5; rw [List.length_set]; exact HSm0.out.2.2.1, HSm0.out.2.2.2.1, HSm0.out.2.2.2.2⟩
        have HN := hide (nvar_kid0 HN6.out z)
        have HDr := hide (drawn_low HD6.out (below_cell (w := w6) (b := b0) (j := 0) (u := .int .i64 z) (B := wa.heap.size) HRb.out (by have := HD6.out.2.1.size; omega)) (Nat.le_refl _) HGa.out hB)
        obtain ⟨w7, hw7⟩ : ∃ w7, w7 = w6.setCell ⟨b0, 0, none⟩ (.int .i64 z) := ⟨_, rfl⟩
        rw [← hw7] at HN HDr
        try rw [← hw7]
        clear hw7
        have hv6 : w7.heap[w.heap.size]? = _ := (HDr.out.2.1.block w.heap.size (by rw [HSa.out]; omega) (fun e => by injection e with e; have := HGl.out; omega)).trans HVa.out
        have q0 : w7.cell? ⟨gn, 0, none⟩ = some (.bool n.lf) := (cell_at HN.out.1 0).1
        have q1 : w7.cell? ⟨gn, 1, none⟩ = some (.slice a1 n.ks.length c1) := (cell_at HN.out.1 1).1
        have q2 : w7.cell? ⟨gn, 2, none⟩ = some (.slice a2 n.vs.length c2) := (cell_at HN.out.1 2).1
        have q3 : w7.cell? ⟨gn, 3, none⟩ = some (.slice (some ⟨b0, 0, none⟩) n.cs.length c3) := (cell_at HN.out.1 3).1
        have o0 : w7.cell? ⟨w.heap.size, 0, none⟩ = some (.bool false) := (cell_at hv6 0).1
        have o1 : w7.cell? ⟨w.heap.size, 1, none⟩ = some (.slice none 0 0) := (cell_at hv6 1).1
        have o2 : w7.cell? ⟨w.heap.size, 2, none⟩ = some (.slice none 0 0) := (cell_at hv6 2).1
        have o3 : w7.cell? ⟨w.heap.size, 3, none⟩ = some (.slice none 0 0) := (cell_at hv6 3).1
        have z0 := (cell_at hv6 0).2
        have z1 := (cell_at hv6 1).2
        have z2 := (cell_at hv6 2).2
        have z3 := (cell_at hv6 3).2
        have HRt := hide (ret_node hv6 HN.out.2 (by rw [HSa.out]; omega))
        clear hv6
        go_wp2_with fail
        have hrt := HRt.out
        have t0 := (cell_at hrt.1 0).1
        have t1 := (cell_at hrt.1 1).1
        have t2 := (cell_at hrt.1 2).1
        have t3 := (cell_at hrt.1 3).1
        refine bodyPost_ret (v := .agg #[.bool n.lf, .slice a1 n.ks.length c1, .slice a2 n.vs.length c2, .slice (some ⟨b0, 0, none⟩) n.cs.length c3]) (by simp [results, Try.results19, go_sem, t0, t1, t2, t3]) rfl ⟨⟨n.lf, n.ks, n.vs, n.cs.set 0 z⟩, _, rfl, HSm.out, nodeOwn_down hrt.2.1 (by rw [HSa.out]; omega), drawn_low (drawn_trans HDa.out HDr.out) hrt.2.2 (Nat.le_refl _) HGl.out hB⟩
  by_cases x3 : x = 3
  · subst x3
    have hrow := (nvar_rows HN2.out).1
    have hsz : n.ks.length ≤ 4 := HK4.out
    have hB2 : wa.heap.size ≤ w2.heap.size := HD2.out.2.1.size
    go_wp2_with (at_builtin; refine wpList_append_lies _ rfl _ _ 24 rfl wa.heap.size 9 i0 (.string ⟨#[]⟩) 1 16 Try.underlying24 HI1 HI2 HI3 HI4 rfl (by decide) (.slice a1 n.ks.length c1) n.ks.length (strs n.ks) rfl (hrow.alloc _) ⟨w2.heap.size, 0, none⟩ 1 1 [.string ⟨#[122, 122]⟩] rfl rfl (one_new w2 _ rfl _ _) ?c2 (by decide) ?c3 ?c4 ?c5 _ rfl ?_)
    case c2 => intro u hu; simp at hu; subst hu; rfl
    case c3 => unfold maxLen; omega
    case c4 => omega
    case c5 => simp; omega
    intro b4 d4 w4 hown4 hg4 hb4 hl4
    have hst := nvar_key HN2.out hown4 hg4 (hb4.imp id (fun e => by rw [e]; simp))
    have cc4 := hst.2.1
    have cf4 := hst.2.2
    have HSm : Hid (SmallN ⟨n.lf, n.ks ++ [⟨#[122, 122]⟩], n.vs, n.cs⟩) := hide ⟨by show (n.ks ++ [_]).length ≤ 5; simp; omega, HSm0.out.2.1, HSm0.out.2.2.1, fun s hs => by rcases List.mem_append.1 hs with hs | hs; exact HSm0.out.2.2.2.1 s hs; rw [List.mem_singleton] at hs; subst hs; decide, HSm0.out.2.2.2.2⟩
    have HN := hide hst.1
    have hbl : Below wa.heap.size w2 w4 := ((Below.refl wa.heap.size w2).alloc hB2 _).grown hg4 (by simp; omega) (fun k hk => (hrow.lt k hk).1)
    have HDr := hide (drawn_low HD2.out (hbl.trans (below_cell (w := w4) (b := gn) (j := 1) (u := .slice (some ⟨b4, 0, none⟩) (n.ks.length + 1) d4) (B := wa.heap.size) HLw.out (by have := hbl.size; omega))) (Nat.le_refl _) HGa.out hB)
    obtain ⟨w7, hw7⟩ : ∃ w7, w7 = w4.setCell ⟨gn, 1, none⟩ (.slice (some ⟨b4, 0, none⟩) (n.ks.length + 1) d4) := ⟨_, rfl⟩
    rw [← hw7] at HN HDr
    have HW7 := hide hw7
    clear hst hown4 hg4 hb4 hl4 hrow hbl
    have hv6 : w7.heap[w.heap.size]? = _ := (HDr.out.2.1.block w.heap.size (by rw [HSa.out]; omega) (fun e => by injection e with e; have := HGl.out; omega)).trans HVa.out
    have q0 : w7.cell? ⟨gn, 0, none⟩ = some (.bool n.lf) := (cell_at HN.out.1 0).1
    have q1 : w7.cell? ⟨gn, 1, none⟩ = some (.slice (some ⟨b4, 0, none⟩) (n.ks.length + 1) d4) := (cell_at HN.out.1 1).1
    have q2 : w7.cell? ⟨gn, 2, none⟩ = some (.slice a2 n.vs.length c2) := (cell_at HN.out.1 2).1
    have q3 : w7.cell? ⟨gn, 3, none⟩ = some (.slice a3 n.cs.length c3) := (cell_at HN.out.1 3).1
    have o0 : w7.cell? ⟨w.heap.size, 0, none⟩ = some (.bool false) := (cell_at hv6 0).1
    have o1 : w7.cell? ⟨w.heap.size, 1, none⟩ = some (.slice none 0 0) := (cell_at hv6 1).1
    have o2 : w7.cell? ⟨w.heap.size, 2, none⟩ = some (.slice none 0 0) := (cell_at hv6 2).1
    have o3 : w7.cell? ⟨w.heap.size, 3, none⟩ = some (.slice none 0 0) := (cell_at hv6 3).1
    have z0 := (cell_at hv6 0).2
    have z1 := (cell_at hv6 1).2
    have z2 := (cell_at hv6 2).2
    have z3 := (cell_at hv6 3).2
    have HRt := hide (ret_node hv6 HN.out.2 (by rw [HSa.out]; omega))
    clear hv6
    rw [hw7] at q0 q1 q2 q3 o0 o1 o2 o3 z0 z1 z2 z3
    clear hw7
    go_wp2_with fail
    rw [← HW7.out]
    have hrt := HRt.out
    have t0 := (cell_at hrt.1 0).1
    have t1 := (cell_at hrt.1 1).1
    have t2 := (cell_at hrt.1 2).1
    have t3 := (cell_at hrt.1 3).1
    refine bodyPost_ret (v := .agg #[.bool n.lf, .slice (some ⟨b4, 0, none⟩) (n.ks.length + 1) d4, .slice a2 n.vs.length c2, .slice a3 n.cs.length c3]) (by simp [results, Try.results19, go_sem, t0, t1, t2, t3]) rfl ⟨⟨n.lf, n.ks ++ [⟨#[122, 122]⟩], n.vs, n.cs⟩, _, rfl, HSm.out, nodeOwn_down hrt.2.1 (by rw [HSa.out]; omega), drawn_low (drawn_trans HDa.out HDr.out) hrt.2.2 (Nat.le_refl _) HGl.out hB⟩
  by_cases x4 : x = 4
  · subst x4
    by_cases hk0 : n.vs.length = 0
    · rw [hk0] at HN2
      clear hk0
      have HN := HN2
      have HDr := HD2
      have HSm := HSm0
      clear c0' c1' c2' c3' f0'
      have hv6 : w2.heap[w.heap.size]? = _ := (HDr.out.2.1.block w.heap.size (by rw [HSa.out]; omega) (fun e => by injection e with e; have := HGl.out; omega)).trans HVa.out
      have q0 : w2.cell? ⟨gn, 0, none⟩ = some (.bool n.lf) := (cell_at HN.out.1 0).1
      have q1 : w2.cell? ⟨gn, 1, none⟩ = some (.slice a1 n.ks.length c1) := (cell_at HN.out.1 1).1
      have q2 : w2.cell? ⟨gn, 2, none⟩ = some (.slice a2 0 c2) := (cell_at HN.out.1 2).1
      have q3 : w2.cell? ⟨gn, 3, none⟩ = some (.slice a3 n.cs.length c3) := (cell_at HN.out.1 3).1
      have o0 : w2.cell? ⟨w.heap.size, 0, none⟩ = some (.bool false) := (cell_at hv6 0).1
      have o1 : w2.cell? ⟨w.heap.size, 1, none⟩ = some (.slice none 0 0) := (cell_at hv6 1).1
      have o2 : w2.cell? ⟨w.heap.size, 2, none⟩ = some (.slice none 0 0) := (cell_at hv6 2).1
      have o3 : w2.cell? ⟨w.heap.size, 3, none⟩ = some (.slice none 0 0) := (cell_at hv6 3).1
      have z0 := (cell_at hv6 0).2
      have z1 := (cell_at hv6 1).2
      have z2 := (cell_at hv6 2).2
      have z3 := (cell_at hv6 3).2
      have HRt := hide (ret_node hv6 HN.out.2 (by rw [HSa.out]; omega))
      clear hv6
      go_wp2_with fail
      have hrt := HRt.out
      have t0 := (cell_at hrt.1 0).1
      have t1 := (cell_at hrt.1 1).1
      have t2 := (cell_at hrt.1 2).1
      have t3 := (cell_at hrt.1 3).1
      refine bodyPost_ret (v := .agg #[.bool n.lf, .slice a1 n.ks.length c1, .slice a2 0 c2, .slice a3 n.cs.length c3]) (by simp [results, Try.results19, go_sem, t0, t1, t2, t3]) rfl ⟨n, _, rfl, HSm.out, nodeOwn_down hrt.2.1 (by rw [HSa.out]; omega), drawn_low (drawn_trans HDa.out HDr.out) hrt.2.2 (Nat.le_refl _) HGl.out hB⟩
    · obtain ⟨b0, hb0⟩ : ∃ b0, a2 = some ⟨b0, 0, none⟩ := by
        rcases (nvar_rows HN2.out).2.1.2 with ⟨e, h0⟩ | ⟨b, c, cur, e, _⟩
        · omega
        · injection e with e1; exact ⟨b, e1⟩
      subst hb0
      have HPos : Hid (0 < n.vs.length) := hide (by omega)
      have HRb : Hid (wa.heap.size ≤ b0) := hide ((nvar_rows HN2.out).2.1.lt b0 rfl).1
      have hi1 : (0 : Int) < (n.vs.length : Int) := by omega
      have d1 : decide ((0 : Int) < (n.vs.length : Int)) = true := decide_eq_true hi1
      clear hk0
      go_wp2_with fail
      go_region_with (first | (go_at_call 33; refine (HLo.out k _ hk).mono ?_; rintro e w6 ⟨t, ht, rfl, hb6⟩; have HN6 := hide (nvar_below HN5.out hb6); have HD6 := hide (drawn_low HD5.out hb6 (by have := HD5.out.2.1.size; omega) (by have := cur_lt HD5.out.1; omega) hB); have b6 : w6.cell? ⟨gn, 2, none⟩ = some (.slice (some ⟨b0, 0, none⟩) n.vs.length c2) := (cell_at HN6.out.1 2).1; obtain ⟨⟨ts, tc⟩, tf⟩ := nvar_val0_cell HN6.out HPos.out) | (go_at_call 31; refine (HBe2.out _ ?_ ?_).mono ?_; exact HD2.out.1; exact HD2.out.2.2; rintro e w5 ⟨k, hk, rfl, h5⟩; have HD5 := hide (drawn_trans (drawn_dr HD2.out) h5); have HN5 := hide (nvar_grown (show NVar w2.drew gn _ _ _ _ _ from HN2.out) h5.2.1 HGn.out HGa.out); have b5 : w5.cell? ⟨gn, 2, none⟩ = some (.slice (some ⟨b0, 0, none⟩) n.vs.length c2) := (cell_at HN5.out.1 2).1; have hw : IntKind.i64.wrap (24 + (k : Int)) = 24 + (k : Int) := IntWalk.i64_in _ ⟨by omega, by omega⟩))
      all_goals
        have HSm : Hid (SmallN ⟨n.lf, n.ks, n.vs.set 0 t, n.cs⟩) := hide (nvar_val0_small HSm0.out t (by omega))
        have HN := hide (nvar_val0 HN6.out t)
        have HDr := hide (drawn_low HD6.out (below_cell (w := w6) (b := b0) (j := 0) (u := .string t) (B := wa.heap.size) HRb.out (by have := HD6.out.2.1.size; omega)) (Nat.le_refl _) HGa.out hB)
        obtain ⟨w7, hw7⟩ : ∃ w7, w7 = w6.setCell ⟨b0, 0, none⟩ (.string t) := ⟨_, rfl⟩
        rw [← hw7] at HN HDr
        try rw [← hw7]
        clear hw7
        have hv6 : w7.heap[w.heap.size]? = _ := (HDr.out.2.1.block w.heap.size (by rw [HSa.out]; omega) (fun e => by injection e with e; have := HGl.out; omega)).trans HVa.out
        have q0 : w7.cell? ⟨gn, 0, none⟩ = some (.bool n.lf) := (cell_at HN.out.1 0).1
        have q1 : w7.cell? ⟨gn, 1, none⟩ = some (.slice a1 n.ks.length c1) := (cell_at HN.out.1 1).1
        have q2 : w7.cell? ⟨gn, 2, none⟩ = some (.slice (some ⟨b0, 0, none⟩) n.vs.length c2) := (cell_at HN.out.1 2).1
        have q3 : w7.cell? ⟨gn, 3, none⟩ = some (.slice a3 n.cs.length c3) := (cell_at HN.out.1 3).1
        have o0 : w7.cell? ⟨w.heap.size, 0, none⟩ = some (.bool false) := (cell_at hv6 0).1
        have o1 : w7.cell? ⟨w.heap.size, 1, none⟩ = some (.slice none 0 0) := (cell_at hv6 1).1
        have o2 : w7.cell? ⟨w.heap.size, 2, none⟩ = some (.slice none 0 0) := (cell_at hv6 2).1
        have o3 : w7.cell? ⟨w.heap.size, 3, none⟩ = some (.slice none 0 0) := (cell_at hv6 3).1
        have z0 := (cell_at hv6 0).2
        have z1 := (cell_at hv6 1).2
        have z2 := (cell_at hv6 2).2
        have z3 := (cell_at hv6 3).2
        have HRt := hide (ret_node hv6 HN.out.2 (by rw [HSa.out]; omega))
        clear hv6
        go_wp2_with fail
        have hrt := HRt.out
        have t0 := (cell_at hrt.1 0).1
        have t1 := (cell_at hrt.1 1).1
        have t2 := (cell_at hrt.1 2).1
        have t3 := (cell_at hrt.1 3).1
        refine bodyPost_ret (v := .agg #[.bool n.lf, .slice a1 n.ks.length c1, .slice (some ⟨b0, 0, none⟩) n.vs.length c2, .slice a3 n.cs.length c3]) (by simp [results, Try.results19, go_sem, t0, t1, t2, t3]) rfl ⟨⟨n.lf, n.ks, n.vs.set 0 t, n.cs⟩, _, rfl, HSm.out, nodeOwn_down hrt.2.1 (by rw [HSa.out]; omega), drawn_low (drawn_trans HDa.out HDr.out) hrt.2.2 (Nat.le_refl _) HGl.out hB⟩
  have y0 : ((x : Int) == 0) = false := by rw [beq_eq_false_iff_ne]; omega
  have y1 : ((x : Int) == 1) = false := by rw [beq_eq_false_iff_ne]; omega
  have y2 : ((x : Int) == 2) = false := by rw [beq_eq_false_iff_ne]; omega
  have y3 : ((x : Int) == 3) = false := by rw [beq_eq_false_iff_ne]; omega
  have y4 : ((x : Int) == 4) = false := by rw [beq_eq_false_iff_ne]; omega
  have HN := HN2
  have HDr := HD2
  have HSm := HSm0
  clear c0' c1' c2' c3' f0'
  have hv6 : w2.heap[w.heap.size]? = _ := (HDr.out.2.1.block w.heap.size (by rw [HSa.out]; omega) (fun e => by injection e with e; have := HGl.out; omega)).trans HVa.out
  have q0 : w2.cell? ⟨gn, 0, none⟩ = some (.bool n.lf) := (cell_at HN.out.1 0).1
  have q1 : w2.cell? ⟨gn, 1, none⟩ = some (.slice a1 n.ks.length c1) := (cell_at HN.out.1 1).1
  have q2 : w2.cell? ⟨gn, 2, none⟩ = some (.slice a2 n.vs.length c2) := (cell_at HN.out.1 2).1
  have q3 : w2.cell? ⟨gn, 3, none⟩ = some (.slice a3 n.cs.length c3) := (cell_at HN.out.1 3).1
  have o0 : w2.cell? ⟨w.heap.size, 0, none⟩ = some (.bool false) := (cell_at hv6 0).1
  have o1 : w2.cell? ⟨w.heap.size, 1, none⟩ = some (.slice none 0 0) := (cell_at hv6 1).1
  have o2 : w2.cell? ⟨w.heap.size, 2, none⟩ = some (.slice none 0 0) := (cell_at hv6 2).1
  have o3 : w2.cell? ⟨w.heap.size, 3, none⟩ = some (.slice none 0 0) := (cell_at hv6 3).1
  have z0 := (cell_at hv6 0).2
  have z1 := (cell_at hv6 1).2
  have z2 := (cell_at hv6 2).2
  have z3 := (cell_at hv6 3).2
  have HRt := hide (ret_node hv6 HN.out.2 (by rw [HSa.out]; omega))
  clear hv6
  go_wp2_with fail
  have hrt := HRt.out
  have t0 := (cell_at hrt.1 0).1
  have t1 := (cell_at hrt.1 1).1
  have t2 := (cell_at hrt.1 2).1
  have t3 := (cell_at hrt.1 3).1
  refine bodyPost_ret (v := .agg #[.bool n.lf, .slice a1 n.ks.length c1, .slice a2 n.vs.length c2, .slice a3 n.cs.length c3]) (by simp [results, Try.results19, go_sem, t0, t1, t2, t3]) rfl ⟨n, _, rfl, HSm.out, nodeOwn_down hrt.2.1 (by rw [HSa.out]; omega), drawn_low (drawn_trans HDa.out HDr.out) hrt.2.2 (Nat.le_refl _) HGl.out hB⟩

set_option maxHeartbeats 2000000 in
set_option maxRecDepth 100000 in
theorem drawPlaceOf_any (a : Option Addr) (len cap : Nat) (w : World) (hd : CodeIn w w.heap.size a len) :
    Calls Try.prog 9 #[.slice a len cap] w fun e w' => ∃ n v k, e = .returned (.tuple #[v, .string k]) ∧ k.size ≤ 1 ∧ SmallN n ∧ NodeOwn w' w.heap.size v n.lf n.ks n.vs n.cs ∧ Below w.heap.size w w' := by
  obtain ⟨wa, hwa⟩ : ∃ wa, wa = w.alloc (Obj.cells #[.bool false, .slice none 0 0, .slice none 0 0, .slice none 0 0] 27) := ⟨_, rfl⟩
  have hba : Below w.heap.size w wa := by rw [hwa]; exact (Below.refl _ _).alloc (Nat.le_refl _) _
  have HBa := hide hba
  have HVa : Hid (wa.heap[w.heap.size]? = some (.cells #[.bool false, .slice none 0 0, .slice none 0 0, .slice none 0 0] 27 (0, 0))) := hide (by rw [hwa]; exact heap_alloc_new w _)
  have HSa : Hid (wa.heap.size = w.heap.size + 1) := hide (by rw [hwa]; simp)
  have HN := hide (l01New_any a len cap wa (code_below hd hba))
  clear hd hba
  go_enter Try.func9, Try.ntmps9
  go_wp2_with fail
  rw [← hwa]
  clear hwa
  refine HN.out.mono ?_
  rintro e w1 ⟨rfl, hc1, hd1, hb1⟩
  have HC1 := hide hc1
  have HD1 := hide hd1
  have HB1 := hide hb1
  clear hc1 hd1 hb1
  go_wp2_with fail
  refine (l05Key_any wa.heap.size wa.heap.size a len cap w1 HC1.out HD1.out (Nat.le_refl _)).mono ?_
  rintro e w3 ⟨k, hk, rfl, hd3⟩
  have HD3 := hide hd3
  have HKz := hide (bases_size hk)
  clear hk hd3
  go_wp2_with fail
  refine (l05Any_any wa.heap.size wa.heap.size a len cap w3 HD3.out.1 HD3.out.2.2 (Nat.le_refl _)).mono ?_
  rintro e w2 ⟨n, v, rfl, hn, hown, hdr0⟩
  have hdr := drawn_trans HD3.out hdr0
  have hgl := cur_lt HC1.out
  have hb2 : Below wa.heap.size w1 w2 := ⟨hdr.2.1.os, hdr.2.1.tape, hdr.2.1.output, hdr.2.1.size, fun k hk => hdr.2.1.block k (by omega) (fun e => by injection e with e; omega)⟩
  have HB2 : Hid (Below w.heap.size w w2) := hide ((HBa.out.trans (HB1.out.mono HBa.out.size)).trans (hb2.mono HBa.out.size))
  have hv : w2.heap[w.heap.size]? = _ := (hb2.block _ (by rw [HSa.out]; omega)).trans ((HB1.out.block _ (by rw [HSa.out]; omega)).trans HVa.out)
  have HNn := hide hn
  obtain ⟨v1, v2, v3, rfl, h1, h2, h3, h4⟩ := hown
  obtain ⟨a1, c1, rfl⟩ := own_slice h1
  obtain ⟨a2, c2, rfl⟩ := own_slice h2
  obtain ⟨a3, c3, rfl⟩ := own_slice h3
  have hsz := HB1.out.size
  have hsz3 := HD3.out.2.1.size
  have HRt := hide (ret_node (B := w3.heap.size) (lf := n.lf) hv ⟨_, _, _, rfl, h1, h2, h3, h4⟩ (by have := HSa.out; omega))
  have o0 : w2.cell? ⟨w.heap.size, 0, none⟩ = some (.bool false) := (cell_at hv 0).1
  have o1 : w2.cell? ⟨w.heap.size, 1, none⟩ = some (.slice none 0 0) := (cell_at hv 1).1
  have o2 : w2.cell? ⟨w.heap.size, 2, none⟩ = some (.slice none 0 0) := (cell_at hv 2).1
  have o3 : w2.cell? ⟨w.heap.size, 3, none⟩ = some (.slice none 0 0) := (cell_at hv 3).1
  have z0 := (cell_at hv 0).2
  have z1 := (cell_at hv 1).2
  have z2 := (cell_at hv 2).2
  have z3 := (cell_at hv 3).2
  have HSw : Hid (w.heap.size ≤ w3.heap.size) := hide (by have := HSa.out; omega)
  clear h1 h2 h3 h4 hv hb2 hdr hdr0 hn hsz hsz3 hgl
  go_wp2_with fail
  have hrt := HRt.out
  have t0 := (cell_at hrt.1 0).1
  have t1 := (cell_at hrt.1 1).1
  have t2 := (cell_at hrt.1 2).1
  have t3 := (cell_at hrt.1 3).1
  exact bodyPost_ret (v := .tuple #[.agg #[.bool n.lf, .slice a1 n.ks.length c1, .slice a2 n.vs.length c2, .slice a3 n.cs.length c3], .string k]) (by simp [results, Try.results9, go_sem, t0, t1, t2, t3]) rfl ⟨n, _, k, rfl, HKz.out, HNn.out, nodeOwn_down hrt.2.1 HSw.out, HB2.out.trans hrt.2.2⟩
end Go.Proofs.Ytnkjakagkdimeaa
