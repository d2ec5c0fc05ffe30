/-
  DrawDiskOk, DrawFallDisk by contracts.
-/
import Derived.Test.YtjjjnloimpehbaaDrawAny
namespace Go.Proofs.Ytjjjnloimpehbaa
open Go.RowKit

set_option maxHeartbeats 2000000 in
set_option maxRecDepth 100000 in
theorem drawDiskOk_any (a : Option Addr) (len cap : Nat) (w : World) (hd : CodeIn w w.heap.size a len) :
    Calls Try.prog 26 #[.slice a len cap] w fun e w' => ∃ (v : Value) (ps : List ByteArray) (ls : List (Int × ByteArray)), e = .returned v ∧ Small ps ls ∧ DiskOwn w' w.heap.size v ps ls ∧ Below w.heap.size w w' := by
  obtain ⟨w0, hw0⟩ : ∃ w0, w0 = w.alloc (Obj.cells #[.slice none 0 0, .slice none 0 0] 27) := ⟨_, rfl⟩
  have hb0 : Below w.heap.size w w0 := by rw [hw0]; exact (Below.refl w.heap.size w).alloc (Nat.le_refl _) _
  have q0 : w0.heap[w.heap.size]? = some (Obj.cells #[.slice none 0 0, .slice none 0 0] 27) := by rw [hw0]; exact heap_alloc_new w _
  have hs0 : w0.heap.size = w.heap.size + 1 := by rw [hw0]; simp
  have hcode : CodeIn w0 w0.heap.size a len := code_below hd hb0
  have HD := hide hcode
  have HB := hide hb0
  have HQ := hide q0
  have HS := hide hs0
  clear hd hb0 q0 hs0 hcode
  go_enter Try.func26, Try.ntmps26
  go_wp2_with fail
  rw [← hw0]
  clear hw0
  refine (l01New_any a len cap _ HD.out).mono ?_
  rintro e w1 ⟨rfl, hc1, hd1, hb1⟩
  have HC1 := hide hc1
  have HD1 := hide hd1
  have HB1 := hide hb1
  clear hc1 hd1 hb1
  go_wp2_with fail
  refine (l03Any_any w0.heap.size w0.heap.size a len cap _ HC1.out HD1.out (Nat.le_refl _)).mono ?_
  rintro e w2 ⟨v, ps, ls, rfl, hok, hown, hdr⟩
  obtain ⟨x3, c3, y3, d3, rfl⟩ := disk_form hown
  have hlt0 : w.heap.size < w0.heap.size := by have := HS.out; omega
  have hq2 : w2.heap[w.heap.size]? = some (Obj.cells #[.slice none 0 0, .slice none 0 0] 27) := (hdr.2.1.block _ (Nat.lt_of_lt_of_le hlt0 HB1.out.size) (fun e => by injection e with e; omega)).trans ((HB1.out.block _ hlt0).trans HQ.out)
  have hbw : Below w.heap.size w w2 := below_drawn (HB.out.trans (HB1.out.mono HB.out.size)) hdr (by omega) (by have := HB1.out.size; omega)
  have hfin := ret_disk hq2 hown (by have := HB1.out.size; omega) (Nat.le_refl _) hbw
  have p0 : w2.cell? ⟨w.heap.size, 0, none⟩ = some (.slice none 0 0) := (cell_at hq2 0).1
  have p1 : w2.cell? ⟨w.heap.size, 1, none⟩ = some (.slice none 0 0) := (cell_at hq2 1).1
  have f0 := (cell_at hq2 0).2
  have f1 := (cell_at hq2 1).2
  have HF := hide hfin
  have HOk := hide hok
  clear hfin hq2 hbw hown hdr hok hlt0
  go_wp2_with fail
  refine bodyPost_ret (v := .agg #[.slice x3 ps.length c3, .slice y3 ls.length d3]) (by simp [results, Try.results26, go_sem, HF.out.1, HF.out.2.1]) rfl ⟨_, ps, ls, rfl, HOk.out, HF.out.2.2.1, HF.out.2.2.2⟩

set_option maxHeartbeats 2000000 in
set_option maxRecDepth 100000 in
theorem drawFallDisk_any (a : Option Addr) (len cap : Nat) (w : World) (hd : CodeIn w w.heap.size a len) :
    Calls Try.prog 22 #[.slice a len cap] w fun e w' => ∃ (v vb : Value) (ps : List ByteArray) (ls : List (Int × ByteArray)) (l : List Bool) (t : Int), e = .returned (.tuple #[v, vb, .int .i64 t]) ∧ Small ps ls ∧ l.length ≤ 11 ∧ t ∈ [-1, -1, 0, 1, 2, 5] ∧ DiskOwn w' w.heap.size v ps ls ∧ w'.ownsRow w.heap.size 4 1 vb l.length (bools l) ∧ Below w.heap.size w w' := by
  obtain ⟨w0, hw0⟩ : ∃ w0, w0 = w.alloc (Obj.cells #[.slice none 0 0, .slice none 0 0] 27) := ⟨_, rfl⟩
  have hb0 : Below w.heap.size w w0 := by rw [hw0]; exact (Below.refl w.heap.size w).alloc (Nat.le_refl _) _
  have q0 : w0.heap[w.heap.size]? = some (Obj.cells #[.slice none 0 0, .slice none 0 0] 27) := by rw [hw0]; exact heap_alloc_new w _
  have hs0 : w0.heap.size = w.heap.size + 1 := by rw [hw0]; simp
  have hcode : CodeIn w0 w0.heap.size a len := code_below hd hb0
  have HD := hide hcode
  have HB := hide hb0
  have HQ := hide q0
  have HS := hide hs0
  clear hd hb0 q0 hs0 hcode
  go_enter Try.func22, Try.ntmps22
  go_wp2_with fail
  rw [← hw0]
  clear hw0
  refine (l01New_any a len cap _ HD.out).mono ?_
  rintro e w1 ⟨rfl, hc1, hd1, hb1⟩
  have HC1 := hide hc1
  have HD1 := hide hd1
  have HB1 := hide hb1
  clear hc1 hd1 hb1
  go_wp2_with fail
  refine (l03Left_any w0.heap.size w0.heap.size a len cap _ HC1.out HD1.out (Nat.le_refl _)).mono ?_
  rintro e w2 ⟨vb, l, hl, rfl, hown2, h2⟩
  have HL := hide hl
  have HO2 := hide hown2
  have H2 := hide h2
  clear hl hown2 h2
  go_wp2_with fail
  obtain ⟨w3, hw3⟩ : ∃ w3, w3 = w2.alloc (Obj.cells #[.int .i64 (-1), .int .i64 (-1), .int .i64 0, .int .i64 1, .int .i64 2, .int .i64 5] 3) := ⟨_, rfl⟩
  have hb3 : Below w2.heap.size w2 w3 := by rw [hw3]; exact (Below.refl _ _).alloc (Nat.le_refl _) _
  have h3 := drawn_below H2.out.1 H2.out.2.2 (Nat.le_refl _) hb3
  have hs3 : w3.heap.size = w2.heap.size + 1 := by rw [hw3]; simp
  have hg2 := cur_lt H2.out.1
  have hrow : ∀ j, j < ([-1, -1, 0, 1, 2, 5] : List Int).length → w3.cell? ⟨w2.heap.size, j, none⟩ = some (.int .i64 (([-1, -1, 0, 1, 2, 5] : List Int).getD j 0)) := fun j hj => by
    rw [hw3, World.cell?_alloc_mark]
    match j, hj with
    | 0, _ => rfl
    | 1, _ => rfl
    | 2, _ => rfl
    | 3, _ => rfl
    | 4, _ => rfl
    | 5, _ => rfl
  rw [← hw3]
  refine (l01PickInt_any w0.heap.size w0.heap.size a len cap [-1, -1, 0, 1, 2, 5] (by simp) (by simp) w2.heap.size 6 w3 h3.1 h3.2.2 (Nat.le_refl _) (by omega) (by omega) hrow).mono ?_
  rintro e w4 ⟨t, ht, rfl, h4⟩
  have HT := hide ht
  have H4 := hide (drawn_trans (drawn_trans H2.out h3) h4)
  have HO4 : Hid (w4.ownsRow w1.heap.size 4 1 vb l.length (bools l)) := hide (own_kept (own_stays HO2.out hb3) (kept_of_drawn h4) (fun k hk e => by have := (HO2.out.lt k hk).1; have := cur_lt HC1.out; omega))
  clear ht h4 hrow hg2 hs3 h3 hb3 hw3 H2 HO2
  go_wp2_with fail
  refine (l03Any_any w0.heap.size w0.heap.size a len cap _ H4.out.1 H4.out.2.2 (Nat.le_refl _)).mono ?_
  rintro e w5 ⟨v, ps, ls, rfl, hok, hown, hdr⟩
  obtain ⟨x3, c3, y3, d3, rfl⟩ := disk_form hown
  have hlt0 : w.heap.size < w0.heap.size := by have := HS.out; omega
  have hz1 := HB1.out.size
  have hz4 := H4.out.2.1.size
  have hall := drawn_trans H4.out hdr
  have hq2 : w5.heap[w.heap.size]? = some (Obj.cells #[.slice none 0 0, .slice none 0 0] 27) := (hall.2.1.block _ (by omega) (fun e => by injection e with e; omega)).trans ((HB1.out.block _ hlt0).trans HQ.out)
  have hbw : Below w.heap.size w w5 := below_drawn (HB.out.trans (HB1.out.mono HB.out.size)) hall (by omega) (by omega)
  have hfin := ret_disk hq2 hown (by omega) (Nat.le_refl _) hbw
  have hob : w5.ownsRow w1.heap.size 4 1 vb l.length (bools l) := own_kept HO4.out (kept_of_drawn hdr) (fun k hk e => by have := (HO4.out.lt k hk).1; have := cur_lt HC1.out; omega)
  have k2 : Kept w5 ((w5.setCell ⟨w.heap.size, 0, none⟩ (.slice x3 ps.length c3)).setCell ⟨w.heap.size, 1, none⟩ (.slice y3 ls.length d3)) (fun k => k = w.heap.size) := kept_trans (kept_setCell _ _ _ _) (kept_setCell _ _ _ _) (fun j _ h => h)
  have HOB := hide (own_down (own_kept hob k2 (fun k hk => by have := (hob.lt k hk).1; omega)) (show w.heap.size ≤ w1.heap.size by omega))
  have p0 : w5.cell? ⟨w.heap.size, 0, none⟩ = some (.slice none 0 0) := (cell_at hq2 0).1
  have p1 : w5.cell? ⟨w.heap.size, 1, none⟩ = some (.slice none 0 0) := (cell_at hq2 1).1
  have f0 := (cell_at hq2 0).2
  have f1 := (cell_at hq2 1).2
  have HF := hide hfin
  have HOk := hide hok
  clear hfin hq2 hbw hown hdr hok hlt0 hall hob k2 hz1 hz4
  go_wp2_with fail
  refine bodyPost_ret (v := .tuple #[.agg #[.slice x3 ps.length c3, .slice y3 ls.length d3], vb, .int .i64 t]) (by simp [results, Try.results22, go_sem, HF.out.1, HF.out.2.1]) rfl ⟨_, vb, ps, ls, l, t, rfl, HOk.out, HL.out, HT.out, HF.out.2.2.1, HOB.out, HF.out.2.2.2⟩

end Go.Proofs.Ytjjjnloimpehbaa
