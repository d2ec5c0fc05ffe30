/-
  spec.l03Copy by its contract: a disk that reads the same, in new memory.
-/
import Derived.Test.YtacmpggigdlmmaaDoorDiskSyncN
import Derived.Deep.RegionLaw
namespace Go.Proofs.YtacmpggigdlmmaaDoor
open Go.RowKit

theorem puts_one (l : List (Int × ByteArray)) : ∀ y ∈ puts l, y.oneCell' = true := fun y hy => by
  obtain ⟨p, _, hp⟩ := List.mem_flatMap.1 hy
  simp at hp
  rcases hp with rfl | rfl <;> rfl

theorem own_empty {w : World} {g e sz : Nat} (h : w.heap[g]? = some (.cells #[] e (0, 0))) : w.ownsRow g e sz (.slice (some ⟨g, 0, none⟩) 0 0) 0 [] :=
  ⟨by simp, Or.inr ⟨g, 0, #[], rfl, Nat.le_refl _, h, Nat.le_refl _, by unfold maxLen; omega, by simp, by simp⟩⟩

theorem heap_second (w : World) (a b : Obj) : ((w.alloc a).alloc b).drew.heap[w.heap.size + 1]? = some b := by
  have h := heap_alloc_new (w.alloc a) b
  rw [World.size_alloc] at h
  exact h

theorem k1 {w w' : World} {o : Obj} {g k : Nat} {x : Obj} (hg : (w.alloc o).drew.grownBy w' (some g)) (hq : w.heap[k]? = some x) (hlt : k < w.heap.size) (hne : k ≠ g) : w'.heap[k]? = some x :=
  ((hg.block k (by show k < (w.alloc o).heap.size; simp; omega) (by intro e; injection e with e; exact hne e)).trans (Below.heap_alloc w o k hlt)).trans hq

theorem k2 {w w' : World} {o o' : Obj} {g k : Nat} {x : Obj} (hg : ((w.alloc o).alloc o').drew.grownBy w' (some g)) (hq : w.heap[k]? = some x) (hlt : k < w.heap.size) (hne : k ≠ g) : w'.heap[k]? = some x :=
  (((hg.block k (by show k < ((w.alloc o).alloc o').heap.size; simp; omega) (by intro e; injection e with e; exact hne e)).trans (Below.heap_alloc (w.alloc o) o' k (by simp; omega))).trans (Below.heap_alloc w o k hlt)).trans hq

theorem k3 {w w' : World} {o : Obj} {g k : Nat} {x : Obj} (hg : (w.alloc o).grownBy w' (some g)) (hq : w.heap[k]? = some x) (hne : k ≠ g) : w'.heap[k]? = some x := by
  have hlt : k < w.heap.size := (Array.getElem?_eq_some_iff.1 hq).1
  exact ((hg.block k (by simp; omega) (by intro e; injection e with e; exact hne e)).trans (Below.heap_alloc w o k hlt)).trans hq

theorem k4 {w w' : World} {g k : Nat} {x : Obj} (hg : w.grownBy w' (some g)) (hq : w.heap[k]? = some x) (hne : k ≠ g) : w'.heap[k]? = some x :=
  (hg.block k (Array.getElem?_eq_some_iff.1 hq).1 (by intro e; injection e with e; exact hne e)).trans hq

theorem own_after {w w' : World} {B e sz n : Nat} {v : Value} {xs : List Value} (h : w.ownsRow B e sz v n xs) {g e' : Nat} (he : w.heap[g]? = some (.cells #[] e' (0, 0))) (hne : e ≠ e') (hg : w.grownBy w' (some g)) : w'.ownsRow B e sz v n xs :=
  h.kept hg (Or.inr (fun e1 => one_type h (own_empty (sz := 1) he) hne g e1 rfl))

theorem after_alloc {w : World} {g : Nat} {u0 u1 : Value} {t : TypeId} (h : w.heap[g]? = some (.cells #[u0, u1] t (0, 0))) : ∀ o, (w.alloc o).cell? ⟨g, 1, none⟩ = some u1 := fun o =>
  (cell_at ((Below.heap_alloc w o g (Array.getElem?_eq_some_iff.1 h).1).trans h) 1).1

theorem low_grown {B g : Nat} {w src w' : World} (hb : Below B w src) (hs : B ≤ src.heap.size) (hg : src.grownBy w' (some g)) (hB : B ≤ g) : Below B w w' :=
  hb.grown hg hs (fun j hj => by injection hj with hj; omega)

theorem copy_fin {w w0 wB : World} {a0 a1 g : Nat} {y1 y2 : Option Addr} {d1 d2 : Nat} {ps : List ByteArray} {ls : List (Int × ByteArray)} (eqB1 : wB.heap[a1]? = some (Obj.cells #[.slice none 0 0, .slice none 0 0] 34))
    (ownA : wB.ownsRow g 9 1 (.slice y1 ps.length d1) ps.length (strs ps)) {g2 : Nat} (ownB : wB.ownsRow g2 96 2 (.slice y2 ls.length d2) ls.length (puts ls)) (hl : Below w.heap.size w wB)
    (h0 : a0 = w.heap.size) (h1 : a1 = a0 + 1) (hb1 : a1 + 1 = w0.heap.size) (hg : w0.heap.size ≤ g) (hg2 : w0.heap.size ≤ g2) :
    ((wB.setCell ⟨a1, 0, none⟩ (.slice y1 ps.length d1)).setCell ⟨a1, 1, none⟩ (.slice y2 ls.length d2)).cell? ⟨a1, 0, none⟩ = some (.slice y1 ps.length d1) ∧
    ((wB.setCell ⟨a1, 0, none⟩ (.slice y1 ps.length d1)).setCell ⟨a1, 1, none⟩ (.slice y2 ls.length d2)).cell? ⟨a1, 1, none⟩ = some (.slice y2 ls.length d2) ∧
    DiskOwn ((wB.setCell ⟨a1, 0, none⟩ (.slice y1 ps.length d1)).setCell ⟨a1, 1, none⟩ (.slice y2 ls.length d2)) w.heap.size (.agg #[.slice y1 ps.length d1, .slice y2 ls.length d2]) ps ls ∧
    Below w.heap.size w ((wB.setCell ⟨a1, 0, none⟩ (.slice y1 ps.length d1)).setCell ⟨a1, 1, none⟩ (.slice y2 ls.length d2)) := by
  have y1' : (wB.setCell ⟨a1, 0, none⟩ (.slice y1 ps.length d1)).heap[a1]? = some (Obj.cells #[.slice y1 ps.length d1, .slice none 0 0] 34) := heap_setCell_same _ a1 0 _ _ _ eqB1
  have y2' : ((wB.setCell ⟨a1, 0, none⟩ (.slice y1 ps.length d1)).setCell ⟨a1, 1, none⟩ (.slice y2 ls.length d2)).heap[a1]? = some (Obj.cells #[.slice y1 ps.length d1, .slice y2 ls.length d2] 34) := heap_setCell_same _ a1 1 _ _ _ y1'
  have k2 : Kept wB ((wB.setCell ⟨a1, 0, none⟩ (.slice y1 ps.length d1)).setCell ⟨a1, 1, none⟩ (.slice y2 ls.length d2)) (fun k => k = a1) := kept_trans (kept_setCell _ _ _ _) (kept_setCell _ _ _ _) (fun j _ h => h)
  refine ⟨(cell_at y2' 0).1, (cell_at y2' 1).1, ⟨_, _, rfl, ?_, ?_⟩, ?_⟩
  · exact own_down (own_kept ownA k2 (fun k hk => by have := (ownA.lt k hk).1; omega)) (by omega)
  · exact own_down (own_kept ownB k2 (fun k hk => by have := (ownB.lt k hk).1; omega)) (by omega)
  · refine (hl.setCell ?_ _).setCell ?_ _
    · show _ ≤ a1; omega
    · show _ ≤ a1; omega

set_option maxHeartbeats 4000000 in
set_option maxRecDepth 100000 in
theorem specCopy_any (v : Value) (ps : List ByteArray) (ls : List (Int × ByteArray)) (hp : ps.length ≤ 1048576) (hl : ls.length ≤ 1048576) (w : World) (hd : DiskAt w v ps ls) :
    Calls Tryd.prog 35 #[v] w fun e w' => ∃ v', e = .returned v' ∧ DiskOwn w' w.heap.size v' ps ls ∧ Below w.heap.size w w' := by
  obtain ⟨i0, hi, hz0, hz1, hz2⟩ := info_parts Tryd.infoStrR
  obtain ⟨i1, hj, hy0, hy1, hy2⟩ := info_parts Tryd.infoPut
  obtain ⟨vp, vl, rfl, h1, h2⟩ := hd
  obtain ⟨x1, c1, rfl⟩ : ∃ a cap, vp = .slice a ps.length cap := by obtain ⟨-, a, cap, e, -⟩ := h1; exact ⟨a, cap, e⟩
  obtain ⟨x2, c2, rfl⟩ : ∃ a cap, vl = .slice a ls.length cap := by obtain ⟨-, a, cap, e, -⟩ := h2; exact ⟨a, cap, e⟩
  have H1 := hide h1
  have H2 := hide h2
  clear h1 h2
  obtain ⟨w0, hw0⟩ : ∃ w0, w0 = (w.alloc (Obj.cells #[.slice x1 ps.length c1, .slice x2 ls.length c2] 34)).alloc (Obj.cells #[.slice none 0 0, .slice none 0 0] 34) := ⟨_, rfl⟩
  have hb0 : Below w.heap.size w w0 := by rw [hw0]; exact ((Below.refl w.heap.size w).alloc (Nat.le_refl _) _).alloc (by simp) _
  obtain ⟨q0, q1, hs0⟩ := two_allocs w (Obj.cells #[.slice x1 ps.length c1, .slice x2 ls.length c2] 34) (Obj.cells #[.slice none 0 0, .slice none 0 0] 34)
  rw [← hw0] at q0 q1 hs0
  obtain ⟨a0, ha0⟩ : ∃ a, a = w.heap.size := ⟨_, rfl⟩
  obtain ⟨a1, ha1⟩ : ∃ a, a = a0 + 1 := ⟨_, rfl⟩
  rw [← ha0] at q0 q1 hs0
  rw [← ha1] at q1
  have hb1 : a1 + 1 = w0.heap.size := by omega
  have HN := hide (⟨by omega, by omega, by omega, by omega⟩ : a0 < w0.heap.size ∧ a0 ≠ w0.heap.size ∧ a1 < w0.heap.size ∧ a1 ≠ w0.heap.size)
  have HZ := hide (⟨fun o => by show w.heap.size ≤ (w0.alloc o).heap.size; simp; omega, fun o o' => by show w.heap.size ≤ ((w0.alloc o).alloc o').heap.size; simp; omega, by omega, by omega⟩ : (∀ o, w.heap.size ≤ (w0.alloc o).drew.heap.size) ∧ (∀ o o', w.heap.size ≤ ((w0.alloc o).alloc o').drew.heap.size) ∧ w.heap.size ≤ w0.heap.size ∧ w.heap.size ≤ w0.heap.size + 1)
  have HZ2 := hide (⟨fun o o' => by show w0.heap.size + 1 < ((w0.alloc o).alloc o').heap.size; simp, by intro e; injection e with e; omega, fun o o' => by show w0.heap.size < ((w0.alloc o).alloc o').heap.size; simp; omega, by omega, by omega⟩ : (∀ o o', w0.heap.size + 1 < ((w0.alloc o).alloc o').drew.heap.size) ∧ (some (w0.heap.size + 1) ≠ some w0.heap.size) ∧ (∀ o o', w0.heap.size < ((w0.alloc o).alloc o').drew.heap.size) ∧ a0 ≠ w0.heap.size + 1 ∧ a1 ≠ w0.heap.size + 1)
  have HZ3 : Hid (some w0.heap.size ≠ some (w0.heap.size + 1)) := hide (by intro e; injection e with e; omega)
  have HL1 : Hid (∀ o, Below w.heap.size w (w0.alloc o).drew) := hide (fun o => (hb0.alloc (by omega) _).drew)
  have HL2 : Hid (∀ o o', Below w.heap.size w ((w0.alloc o).alloc o').drew) := hide (fun o o' => ((hb0.alloc (by omega) _).alloc (by simp; omega) _).drew)
  have al1 : ∀ o, (w0.alloc o).drew.heap[a0]? = some (Obj.cells #[.slice x1 ps.length c1, .slice x2 ls.length c2] 34) := fun o => (Below.heap_alloc w0 o a0 (by omega)).trans q0
  have al2 : ∀ o o', ((w0.alloc o).alloc o').drew.heap[a0]? = some (Obj.cells #[.slice x1 ps.length c1, .slice x2 ls.length c2] 34) := fun o o' => (Below.heap_alloc (w0.alloc o) o' a0 (by simp; omega)).trans ((Below.heap_alloc w0 o a0 (by omega)).trans q0)
  have cl10 : ∀ o, (w0.alloc o).drew.cell? ⟨a0, 0, none⟩ = some (.slice x1 ps.length c1) := fun o => (cell_at (al1 o) 0).1
  have cl11 : ∀ o, (w0.alloc o).drew.cell? ⟨a0, 1, none⟩ = some (.slice x2 ls.length c2) := fun o => (cell_at (al1 o) 1).1
  have cl20 : ∀ o o', ((w0.alloc o).alloc o').drew.cell? ⟨a0, 0, none⟩ = some (.slice x1 ps.length c1) := fun o o' => (cell_at (al2 o o') 0).1
  have cl21 : ∀ o o', ((w0.alloc o).alloc o').drew.cell? ⟨a0, 1, none⟩ = some (.slice x2 ls.length c2) := fun o o' => (cell_at (al2 o o') 1).1
  clear al1 al2
  have c0 : w0.cell? ⟨a0, 0, none⟩ = some (.slice x1 ps.length c1) := (cell_at q0 0).1
  have c1' : w0.cell? ⟨a0, 1, none⟩ = some (.slice x2 ls.length c2) := (cell_at q0 1).1
  go_enter Tryd.func35, Tryd.ntmps35
  go_wp2_with fail
  rw [← hw0, ← ha0, ← ha1]
  have HA := hide (⟨ha0, ha1, hs0⟩ : a0 = w.heap.size ∧ a1 = a0 + 1 ∧ w0.heap.size = a0 + 2)
  have HB0 := hide hb0
  clear ha0 ha1 hw0 hs0 hb0
  go_region_law (first | (refine step_append_row _ ?_ (.tmp 3) (.tmp 5) 22 ?_ (w0.heap.size) 9 i0 (.string ⟨#[]⟩) 1 16 Tryd.underlying22 hi hz0 hz1 hz2 ?_ ?_ (.slice (some ⟨w0.heap.size, 0, none⟩) 0 0) 0 [] ?_ (own_empty ?_) (.slice x1 ps.length c1) ps.length (strs ps) ?_ (row_below H1.out ?_) (strs_one _) ?_ ?_ ?_ ?_; exact rfl; exact rfl; exact rfl; decide; exact rfl; exact heap_alloc_new w0 _; exact rfl; exact HL1.out _; (unfold maxLen; omega); omega; simp; intro y1 d1 wA hownA hgA; have eqA0 := k1 hgA q0 HN.out.1 HN.out.2.1; have eqA1 := k1 hgA q1 HN.out.2.2.1 HN.out.2.2.2; have HLA := low_grown (HL1.out _) (HZ.out.1 _) hgA (HZ.out.2.2.1); have pA1 := (cell_at eqA0 1).1; have pA2 := after_alloc eqA0) | (refine step_append_row _ ?_ (.tmp 3) (.tmp 5) 22 ?_ (w0.heap.size) 9 i0 (.string ⟨#[]⟩) 1 16 Tryd.underlying22 hi hz0 hz1 hz2 ?_ ?_ (.slice (some ⟨w0.heap.size, 0, none⟩) 0 0) 0 [] ?_ (own_empty ?_) (.slice x1 ps.length c1) ps.length (strs ps) ?_ (row_below H1.out ?_) (strs_one _) ?_ ?_ ?_ ?_; exact rfl; exact rfl; exact rfl; decide; exact rfl; exact (Below.heap_alloc (w0.alloc _) _ _ (by simp)).trans (heap_alloc_new w0 _); exact rfl; exact HL2.out _ _; (unfold maxLen; omega); omega; (simp; omega); intro y1 d1 wA hownA hgA; have eqA0 := k2 hgA q0 HN.out.1 HN.out.2.1; have eqA1 := k2 hgA q1 HN.out.2.2.1 HN.out.2.2.2; have HLA := low_grown (HL2.out _ _) (HZ.out.2.1 _ _) hgA (HZ.out.2.2.1); have pA1 := (cell_at eqA0 1).1; have pA2 := after_alloc eqA0; have eqE : wA.heap[w0.heap.size + 1]? = some (Obj.cells #[] 96) := (hgA.block _ (HZ2.out.1 _ _) HZ2.out.2.1).trans (heap_second w0 _ _)) | (refine step_append_row _ ?_ (.tmp 3) (.tmp 5) 22 ?_ (w0.heap.size + 1) 9 i0 (.string ⟨#[]⟩) 1 16 Tryd.underlying22 hi hz0 hz1 hz2 ?_ ?_ (.slice (some ⟨w0.heap.size + 1, 0, none⟩) 0 0) 0 [] ?_ (own_empty ?_) (.slice x1 ps.length c1) ps.length (strs ps) ?_ (row_below H1.out ?_) (strs_one _) ?_ ?_ ?_ ?_; exact rfl; exact rfl; exact rfl; decide; exact rfl; exact heap_second w0 _ _; exact rfl; exact HL2.out _ _; (unfold maxLen; omega); omega; simp; intro y1 d1 wA hownA hgA; have eqA0 := k2 hgA q0 HN.out.1 HZ2.out.2.2.2.1; have eqA1 := k2 hgA q1 HN.out.2.2.1 HZ2.out.2.2.2.2; have HLA := low_grown (HL2.out _ _) (HZ.out.2.1 _ _) hgA (HZ.out.2.2.2); have pA1 := (cell_at eqA0 1).1; have pA2 := after_alloc eqA0; have eqE : wA.heap[w0.heap.size]? = some (Obj.cells #[] 96) := (hgA.block _ (HZ2.out.2.2.1 _ _) HZ3.out).trans ((Below.heap_alloc (w0.alloc _) _ _ (by simp)).trans (heap_alloc_new w0 _))) | (refine step_append_row _ ?_ (.tmp 7) (.tmp 9) 32 ?_ (wA.heap.size) 96 i1 (.agg #[.int .i64 0, .string ⟨#[]⟩]) 2 24 Tryd.underlying32 hj hy0 hy1 hy2 ?_ ?_ (.slice (some ⟨wA.heap.size, 0, none⟩) 0 0) 0 [] ?_ (own_empty ?_) (.slice x2 ls.length c2) ls.length (puts ls) ?_ (row_below H2.out ?_) (puts_one _) ?_ ?_ ?_ ?_; exact rfl; exact rfl; exact rfl; decide; exact rfl; exact heap_alloc_new wA _; exact rfl; exact HLA.alloc HLA.size _; (unfold maxLen; omega); omega; simp; intro y2 d2 wB hownB hgB; have eqB1 := k3 hgB eqA1 (Nat.ne_of_lt (Array.getElem?_eq_some_iff.1 eqA1).1); have HLB := low_grown (HLA.alloc HLA.size _) (Nat.le_trans HLA.size (by simp)) hgB (HLA.size); have ownA2 := own_after (hownA.alloc _) (heap_alloc_new wA _) Tryd.types_part hgB; have pB0 := (cell_at eqB1 0).1; have pB1 := (cell_at eqB1 1).1; have pF0 := (cell_at eqB1 0).2; have pF1 := (cell_at eqB1 1).2) | (refine step_append_row _ ?_ (.tmp 7) (.tmp 9) 32 ?_ (w0.heap.size + 1) 96 i1 (.agg #[.int .i64 0, .string ⟨#[]⟩]) 2 24 Tryd.underlying32 hj hy0 hy1 hy2 ?_ ?_ (.slice (some ⟨w0.heap.size + 1, 0, none⟩) 0 0) 0 [] ?_ (own_empty ?_) (.slice x2 ls.length c2) ls.length (puts ls) ?_ (row_below H2.out ?_) (puts_one _) ?_ ?_ ?_ ?_; exact rfl; exact rfl; exact rfl; decide; exact rfl; exact eqE; exact rfl; exact HLA; (unfold maxLen; omega); omega; (have := hgA.size; simp at this; omega); intro y2 d2 wB hownB hgB; have eqB1 := k4 hgB eqA1 (HZ2.out.2.2.2.2); have HLB := low_grown (HLA) (HLA.size) hgB (HZ.out.2.2.2); have ownA2 := own_after (hownA) (eqE) Tryd.types_part hgB; have pB0 := (cell_at eqB1 0).1; have pB1 := (cell_at eqB1 1).1; have pF0 := (cell_at eqB1 0).2; have pF1 := (cell_at eqB1 1).2) | (refine step_append_row _ ?_ (.tmp 7) (.tmp 9) 32 ?_ (w0.heap.size) 96 i1 (.agg #[.int .i64 0, .string ⟨#[]⟩]) 2 24 Tryd.underlying32 hj hy0 hy1 hy2 ?_ ?_ (.slice (some ⟨w0.heap.size, 0, none⟩) 0 0) 0 [] ?_ (own_empty ?_) (.slice x2 ls.length c2) ls.length (puts ls) ?_ (row_below H2.out ?_) (puts_one _) ?_ ?_ ?_ ?_; exact rfl; exact rfl; exact rfl; decide; exact rfl; exact eqE; exact rfl; exact HLA; (unfold maxLen; omega); omega; (have := hgA.size; simp at this; omega); intro y2 d2 wB hownB hgB; have eqB1 := k4 hgB eqA1 (HN.out.2.2.2); have HLB := low_grown (HLA) (HLA.size) hgB (HZ.out.2.2.1); have ownA2 := own_after (hownA) (eqE) Tryd.types_part hgB; have pB0 := (cell_at eqB1 0).1; have pB1 := (cell_at eqB1 1).1; have pF0 := (cell_at eqB1 0).2; have pF1 := (cell_at eqB1 1).2))
  all_goals
    rw [Nat.zero_add] at ownA2 hownB
    have hfin := copy_fin eqB1 ownA2 hownB HLB HA.out.1 HA.out.2.1 hb1 (by omega) (by have := (Array.getElem?_eq_some_iff.1 eqA1).1; omega)
    go_wp2_with fail
    refine bodyPost_ret (v := .agg #[.slice y1 ps.length d1, .slice y2 ls.length d2]) (by simp [results, Tryd.results35, go_sem, hfin.1, hfin.2.1]) rfl ⟨_, rfl, hfin.2.2.1, hfin.2.2.2⟩
end Go.Proofs.YtacmpggigdlmmaaDoor
