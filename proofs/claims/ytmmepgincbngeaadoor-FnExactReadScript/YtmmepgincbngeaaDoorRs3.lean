/-
  Facts and contracts that the law's own text rests on, by their texts' names: DiskCopyN, EnvN, DiskRetN, Plain10, DiskFallN, BoolRowN, Plain4, Plain13, Plain8, Plain18, Plain19, SpecIn.
-/
import Derived.Deep.RegionLaw
import Derived.Test.YtmmepgincbngeaaDoorRs2
import Derived.Test.YtmmepgincbngeaaDoorRs1
import Derived.Lib.Strings
import Derived.BigQuiet
import Derived.Deep.RegionHeld3
namespace Go.Proofs.YtmmepgincbngeaaDoor
open Go.RowKit
theorem puts_one (l : List (Int × ByteArray)) : ∀ y ∈ puts l, y.oneCell' = true := fun y hy => by
  obtain ⟨p, _, hp⟩ := List.mem_flatMap.1 hy
  simp at hp
  rcases hp with rfl | rfl <;> rfl
theorem own_empty {w : World} {g e sz : Nat} (h : w.heap[g]? = some (.cells #[] e (0, 0))) : w.ownsRow g e sz (.slice (some ⟨g, 0, none⟩) 0 0) 0 [] :=
  ⟨by simp, Or.inr ⟨g, 0, #[], rfl, Nat.le_refl _, h, Nat.le_refl _, by unfold maxLen; omega, by simp, by simp⟩⟩
theorem heap_second (w : World) (a b : Obj) : ((w.alloc a).alloc b).drew.heap[w.heap.size + 1]? = some b := by
  have h := heap_alloc_new (w.alloc a) b
  rw [World.size_alloc] at h
  exact h
theorem k1 {w w' : World} {o : Obj} {g k : Nat} {x : Obj} (hg : (w.alloc o).drew.grownBy w' (some g)) (hq : w.heap[k]? = some x) (hlt : k < w.heap.size) (hne : k ≠ g) : w'.heap[k]? = some x :=
  ((hg.block k (by show k < (w.alloc o).heap.size; simp; omega) (by intro e; injection e with e; exact hne e)).trans (Below.heap_alloc w o k hlt)).trans hq
theorem k2 {w w' : World} {o o' : Obj} {g k : Nat} {x : Obj} (hg : ((w.alloc o).alloc o').drew.grownBy w' (some g)) (hq : w.heap[k]? = some x) (hlt : k < w.heap.size) (hne : k ≠ g) : w'.heap[k]? = some x :=
  (((hg.block k (by show k < ((w.alloc o).alloc o').heap.size; simp; omega) (by intro e; injection e with e; exact hne e)).trans (Below.heap_alloc (w.alloc o) o' k (by simp; omega))).trans (Below.heap_alloc w o k hlt)).trans hq
theorem k3 {w w' : World} {o : Obj} {g k : Nat} {x : Obj} (hg : (w.alloc o).grownBy w' (some g)) (hq : w.heap[k]? = some x) (hne : k ≠ g) : w'.heap[k]? = some x := by
  have hlt : k < w.heap.size := (Array.getElem?_eq_some_iff.1 hq).1
  exact ((hg.block k (by simp; omega) (by intro e; injection e with e; exact hne e)).trans (Below.heap_alloc w o k hlt)).trans hq
theorem k4 {w w' : World} {g k : Nat} {x : Obj} (hg : w.grownBy w' (some g)) (hq : w.heap[k]? = some x) (hne : k ≠ g) : w'.heap[k]? = some x :=
  (hg.block k (Array.getElem?_eq_some_iff.1 hq).1 (by intro e; injection e with e; exact hne e)).trans hq
theorem own_after {w w' : World} {B e sz n : Nat} {v : Value} {xs : List Value} (h : w.ownsRow B e sz v n xs) {g e' : Nat} (he : w.heap[g]? = some (.cells #[] e' (0, 0))) (hne : e ≠ e') (hg : w.grownBy w' (some g)) : w'.ownsRow B e sz v n xs :=
  h.kept hg (Or.inr (fun e1 => one_type h (own_empty (sz := 1) he) hne g e1 rfl))
theorem after_alloc {w : World} {g : Nat} {u0 u1 : Value} {t : TypeId} (h : w.heap[g]? = some (.cells #[u0, u1] t (0, 0))) : ∀ o, (w.alloc o).cell? ⟨g, 1, none⟩ = some u1 := fun o =>
  (cell_at ((Below.heap_alloc w o g (Array.getElem?_eq_some_iff.1 h).1).trans h) 1).1
theorem low_grown {B g : Nat} {w src w' : World} (hb : Below B w src) (hs : B ≤ src.heap.size) (hg : src.grownBy w' (some g)) (hB : B ≤ g) : Below B w w' :=
  hb.grown hg hs (fun j hj => by injection hj with hj; omega)
theorem copy_fin {w w0 wB : World} {a0 a1 g : Nat} {y1 y2 : Option Addr} {d1 d2 : Nat} {ps : List ByteArray} {ls : List (Int × ByteArray)} (eqB1 : wB.heap[a1]? = some (Obj.cells #[.slice none 0 0, .slice none 0 0] 60))
    (ownA : wB.ownsRow g 9 1 (.slice y1 ps.length d1) ps.length (strs ps)) {g2 : Nat} (ownB : wB.ownsRow g2 103 2 (.slice y2 ls.length d2) ls.length (puts ls)) (hl : Below w.heap.size w wB)
    (h0 : a0 = w.heap.size) (h1 : a1 = a0 + 1) (hb1 : a1 + 1 = w0.heap.size) (hg : w0.heap.size ≤ g) (hg2 : w0.heap.size ≤ g2) :
    ((wB.setCell ⟨a1, 0, none⟩ (.slice y1 ps.length d1)).setCell ⟨a1, 1, none⟩ (.slice y2 ls.length d2)).cell? ⟨a1, 0, none⟩ = some (.slice y1 ps.length d1) ∧
    ((wB.setCell ⟨a1, 0, none⟩ (.slice y1 ps.length d1)).setCell ⟨a1, 1, none⟩ (.slice y2 ls.length d2)).cell? ⟨a1, 1, none⟩ = some (.slice y2 ls.length d2) ∧
    DiskOwn ((wB.setCell ⟨a1, 0, none⟩ (.slice y1 ps.length d1)).setCell ⟨a1, 1, none⟩ (.slice y2 ls.length d2)) w.heap.size (.agg #[.slice y1 ps.length d1, .slice y2 ls.length d2]) ps ls ∧
    Below w.heap.size w ((wB.setCell ⟨a1, 0, none⟩ (.slice y1 ps.length d1)).setCell ⟨a1, 1, none⟩ (.slice y2 ls.length d2)) := by
  have y1' : (wB.setCell ⟨a1, 0, none⟩ (.slice y1 ps.length d1)).heap[a1]? = some (Obj.cells #[.slice y1 ps.length d1, .slice none 0 0] 60) := heap_setCell_same _ a1 0 _ _ _ eqB1
  have y2' : ((wB.setCell ⟨a1, 0, none⟩ (.slice y1 ps.length d1)).setCell ⟨a1, 1, none⟩ (.slice y2 ls.length d2)).heap[a1]? = some (Obj.cells #[.slice y1 ps.length d1, .slice y2 ls.length d2] 60) := heap_setCell_same _ a1 1 _ _ _ y1'
  have k2 : Kept wB ((wB.setCell ⟨a1, 0, none⟩ (.slice y1 ps.length d1)).setCell ⟨a1, 1, none⟩ (.slice y2 ls.length d2)) (fun k => k = a1) := kept_trans (kept_setCell _ _ _ _) (kept_setCell _ _ _ _) (fun j _ h => h)
  refine ⟨(cell_at y2' 0).1, (cell_at y2' 1).1, ⟨_, _, rfl, ?_, ?_⟩, ?_⟩
  · exact own_down (own_kept ownA k2 (fun k hk => by have := (ownA.lt k hk).1; omega)) (by omega)
  · exact own_down (own_kept ownB k2 (fun k hk => by have := (ownB.lt k hk).1; omega)) (by omega)
  · refine (hl.setCell ?_ _).setCell ?_ _
    · show _ ≤ a1; omega
    · show _ ≤ a1; omega
set_option maxHeartbeats 4000000 in
set_option maxRecDepth 100000 in
theorem specCopy_any (v : Value) (ps : List ByteArray) (ls : List (Int × ByteArray)) (hp : ps.length ≤ 1048576) (hl : ls.length ≤ 1048576) (w : World) (hd : DiskAt w v ps ls) :
    Calls Tryd.prog 61 #[v] w fun e w' => ∃ v', e = .returned v' ∧ DiskOwn w' w.heap.size v' ps ls ∧ Below w.heap.size w w' := by
  obtain ⟨i0, hi, hz0, hz1, hz2⟩ := info_parts Tryd.infoStrR
  obtain ⟨i1, hj, hy0, hy1, hy2⟩ := info_parts Tryd.infoPut
  obtain ⟨vp, vl, rfl, h1, h2⟩ := hd
  obtain ⟨x1, c1, rfl⟩ : ∃ a cap, vp = .slice a ps.length cap := by obtain ⟨-, a, cap, e, -⟩ := h1; exact ⟨a, cap, e⟩
  obtain ⟨x2, c2, rfl⟩ : ∃ a cap, vl = .slice a ls.length cap := by obtain ⟨-, a, cap, e, -⟩ := h2; exact ⟨a, cap, e⟩
  have H1 := hide h1
  have H2 := hide h2
  clear h1 h2
  obtain ⟨w0, hw0⟩ : ∃ w0, w0 = (w.alloc (Obj.cells #[.slice x1 ps.length c1, .slice x2 ls.length c2] 60)).alloc (Obj.cells #[.slice none 0 0, .slice none 0 0] 60) := ⟨_, rfl⟩
  have hb0 : Below w.heap.size w w0 := by rw [hw0]; exact ((Below.refl w.heap.size w).alloc (Nat.le_refl _) _).alloc (by simp) _
  obtain ⟨q0, q1, hs0⟩ := two_allocs w (Obj.cells #[.slice x1 ps.length c1, .slice x2 ls.length c2] 60) (Obj.cells #[.slice none 0 0, .slice none 0 0] 60)
  rw [← hw0] at q0 q1 hs0
  obtain ⟨a0, ha0⟩ : ∃ a, a = w.heap.size := ⟨_, rfl⟩
  obtain ⟨a1, ha1⟩ : ∃ a, a = a0 + 1 := ⟨_, rfl⟩
  rw [← ha0] at q0 q1 hs0
  rw [← ha1] at q1
  have hb1 : a1 + 1 = w0.heap.size := by omega
  have HN := hide (⟨by omega, by omega, by omega, by omega⟩ : a0 < w0.heap.size ∧ a0 ≠ w0.heap.size ∧ a1 < w0.heap.size ∧ a1 ≠ w0.heap.size)
  have HZ := hide (⟨fun o => by show w.heap.size ≤ (w0.alloc o).heap.size; simp; omega, fun o o' => by show w.heap.size ≤ ((w0.alloc o).alloc o').heap.size; simp; omega, by omega, by omega⟩ : (∀ o, w.heap.size ≤ (w0.alloc o).drew.heap.size) ∧ (∀ o o', w.heap.size ≤ ((w0.alloc o).alloc o').drew.heap.size) ∧ w.heap.size ≤ w0.heap.size ∧ w.heap.size ≤ w0.heap.size + 1)
  have HZ2 := hide (⟨fun o o' => by show w0.heap.size + 1 < ((w0.alloc o).alloc o').heap.size; simp, by intro e; injection e with e; omega, fun o o' => by show w0.heap.size < ((w0.alloc o).alloc o').heap.size; simp; omega, by omega, by omega⟩ : (∀ o o', w0.heap.size + 1 < ((w0.alloc o).alloc o').drew.heap.size) ∧ (some (w0.heap.size + 1) ≠ some w0.heap.size) ∧ (∀ o o', w0.heap.size < ((w0.alloc o).alloc o').drew.heap.size) ∧ a0 ≠ w0.heap.size + 1 ∧ a1 ≠ w0.heap.size + 1)
  have HZ3 : Hid (some w0.heap.size ≠ some (w0.heap.size + 1)) := hide (by intro e; injection e with e; omega)
  have HL1 : Hid (∀ o, Below w.heap.size w (w0.alloc o).drew) := hide (fun o => (hb0.alloc (by omega) _).drew)
  have HL2 : Hid (∀ o o', Below w.heap.size w ((w0.alloc o).alloc o').drew) := hide (fun o o' => ((hb0.alloc (by omega) _).alloc (by simp; omega) _).drew)
  have al1 : ∀ o, (w0.alloc o).drew.heap[a0]? = some (Obj.cells #[.slice x1 ps.length c1, .slice x2 ls.length c2] 60) := fun o => (Below.heap_alloc w0 o a0 (by omega)).trans q0
  have al2 : ∀ o o', ((w0.alloc o).alloc o').drew.heap[a0]? = some (Obj.cells #[.slice x1 ps.length c1, .slice x2 ls.length c2] 60) := fun o o' => (Below.heap_alloc (w0.alloc o) o' a0 (by simp; omega)).trans ((Below.heap_alloc w0 o a0 (by omega)).trans q0)
  have cl10 : ∀ o, (w0.alloc o).drew.cell? ⟨a0, 0, none⟩ = some (.slice x1 ps.length c1) := fun o => (cell_at (al1 o) 0).1
  have cl11 : ∀ o, (w0.alloc o).drew.cell? ⟨a0, 1, none⟩ = some (.slice x2 ls.length c2) := fun o => (cell_at (al1 o) 1).1
  have cl20 : ∀ o o', ((w0.alloc o).alloc o').drew.cell? ⟨a0, 0, none⟩ = some (.slice x1 ps.length c1) := fun o o' => (cell_at (al2 o o') 0).1
  have cl21 : ∀ o o', ((w0.alloc o).alloc o').drew.cell? ⟨a0, 1, none⟩ = some (.slice x2 ls.length c2) := fun o o' => (cell_at (al2 o o') 1).1
  clear al1 al2
  have c0 : w0.cell? ⟨a0, 0, none⟩ = some (.slice x1 ps.length c1) := (cell_at q0 0).1
  have c1' : w0.cell? ⟨a0, 1, none⟩ = some (.slice x2 ls.length c2) := (cell_at q0 1).1
  go_enter Tryd.func61, Tryd.ntmps61
  go_wp2_with fail
  rw [← hw0, ← ha0, ← ha1]
  have HA := hide (⟨ha0, ha1, hs0⟩ : a0 = w.heap.size ∧ a1 = a0 + 1 ∧ w0.heap.size = a0 + 2)
  have HB0 := hide hb0
  clear ha0 ha1 hw0 hs0 hb0
  go_region_law (first | (refine step_append_row _ ?_ (.tmp 3) (.tmp 5) 50 ?_ (w0.heap.size) 9 i0 (.string ⟨#[]⟩) 1 16 Tryd.underlying50 hi hz0 hz1 hz2 ?_ ?_ (.slice (some ⟨w0.heap.size, 0, none⟩) 0 0) 0 [] ?_ (own_empty ?_) (.slice x1 ps.length c1) ps.length (strs ps) ?_ (row_below H1.out ?_) (strs_one _) ?_ ?_ ?_ ?_; exact rfl; exact rfl; exact rfl; decide; exact rfl; exact heap_alloc_new w0 _; exact rfl; exact HL1.out _; (unfold maxLen; omega); omega; simp; intro y1 d1 wA hownA hgA; have eqA0 := k1 hgA q0 HN.out.1 HN.out.2.1; have eqA1 := k1 hgA q1 HN.out.2.2.1 HN.out.2.2.2; have HLA := low_grown (HL1.out _) (HZ.out.1 _) hgA (HZ.out.2.2.1); have pA1 := (cell_at eqA0 1).1; have pA2 := after_alloc eqA0) | (refine step_append_row _ ?_ (.tmp 3) (.tmp 5) 50 ?_ (w0.heap.size) 9 i0 (.string ⟨#[]⟩) 1 16 Tryd.underlying50 hi hz0 hz1 hz2 ?_ ?_ (.slice (some ⟨w0.heap.size, 0, none⟩) 0 0) 0 [] ?_ (own_empty ?_) (.slice x1 ps.length c1) ps.length (strs ps) ?_ (row_below H1.out ?_) (strs_one _) ?_ ?_ ?_ ?_; exact rfl; exact rfl; exact rfl; decide; exact rfl; exact (Below.heap_alloc (w0.alloc _) _ _ (by simp)).trans (heap_alloc_new w0 _); exact rfl; exact HL2.out _ _; (unfold maxLen; omega); omega; (simp; omega); intro y1 d1 wA hownA hgA; have eqA0 := k2 hgA q0 HN.out.1 HN.out.2.1; have eqA1 := k2 hgA q1 HN.out.2.2.1 HN.out.2.2.2; have HLA := low_grown (HL2.out _ _) (HZ.out.2.1 _ _) hgA (HZ.out.2.2.1); have pA1 := (cell_at eqA0 1).1; have pA2 := after_alloc eqA0; have eqE : wA.heap[w0.heap.size + 1]? = some (Obj.cells #[] 103) := (hgA.block _ (HZ2.out.1 _ _) HZ2.out.2.1).trans (heap_second w0 _ _)) | (refine step_append_row _ ?_ (.tmp 3) (.tmp 5) 50 ?_ (w0.heap.size + 1) 9 i0 (.string ⟨#[]⟩) 1 16 Tryd.underlying50 hi hz0 hz1 hz2 ?_ ?_ (.slice (some ⟨w0.heap.size + 1, 0, none⟩) 0 0) 0 [] ?_ (own_empty ?_) (.slice x1 ps.length c1) ps.length (strs ps) ?_ (row_below H1.out ?_) (strs_one _) ?_ ?_ ?_ ?_; exact rfl; exact rfl; exact rfl; decide; exact rfl; exact heap_second w0 _ _; exact rfl; exact HL2.out _ _; (unfold maxLen; omega); omega; simp; intro y1 d1 wA hownA hgA; have eqA0 := k2 hgA q0 HN.out.1 HZ2.out.2.2.2.1; have eqA1 := k2 hgA q1 HN.out.2.2.1 HZ2.out.2.2.2.2; have HLA := low_grown (HL2.out _ _) (HZ.out.2.1 _ _) hgA (HZ.out.2.2.2); have pA1 := (cell_at eqA0 1).1; have pA2 := after_alloc eqA0; have eqE : wA.heap[w0.heap.size]? = some (Obj.cells #[] 103) := (hgA.block _ (HZ2.out.2.2.1 _ _) HZ3.out).trans ((Below.heap_alloc (w0.alloc _) _ _ (by simp)).trans (heap_alloc_new w0 _))) | (refine step_append_row _ ?_ (.tmp 7) (.tmp 9) 58 ?_ (wA.heap.size) 103 i1 (.agg #[.int .i64 0, .string ⟨#[]⟩]) 2 24 Tryd.underlying58 hj hy0 hy1 hy2 ?_ ?_ (.slice (some ⟨wA.heap.size, 0, none⟩) 0 0) 0 [] ?_ (own_empty ?_) (.slice x2 ls.length c2) ls.length (puts ls) ?_ (row_below H2.out ?_) (puts_one _) ?_ ?_ ?_ ?_; exact rfl; exact rfl; exact rfl; decide; exact rfl; exact heap_alloc_new wA _; exact rfl; exact HLA.alloc HLA.size _; (unfold maxLen; omega); omega; simp; intro y2 d2 wB hownB hgB; have eqB1 := k3 hgB eqA1 (Nat.ne_of_lt (Array.getElem?_eq_some_iff.1 eqA1).1); have HLB := low_grown (HLA.alloc HLA.size _) (Nat.le_trans HLA.size (by simp)) hgB (HLA.size); have ownA2 := own_after (hownA.alloc _) (heap_alloc_new wA _) Tryd.types_part hgB; have pB0 := (cell_at eqB1 0).1; have pB1 := (cell_at eqB1 1).1; have pF0 := (cell_at eqB1 0).2; have pF1 := (cell_at eqB1 1).2) | (refine step_append_row _ ?_ (.tmp 7) (.tmp 9) 58 ?_ (w0.heap.size + 1) 103 i1 (.agg #[.int .i64 0, .string ⟨#[]⟩]) 2 24 Tryd.underlying58 hj hy0 hy1 hy2 ?_ ?_ (.slice (some ⟨w0.heap.size + 1, 0, none⟩) 0 0) 0 [] ?_ (own_empty ?_) (.slice x2 ls.length c2) ls.length (puts ls) ?_ (row_below H2.out ?_) (puts_one _) ?_ ?_ ?_ ?_; exact rfl; exact rfl; exact rfl; decide; exact rfl; exact eqE; exact rfl; exact HLA; (unfold maxLen; omega); omega; (have := hgA.size; simp at this; omega); intro y2 d2 wB hownB hgB; have eqB1 := k4 hgB eqA1 (HZ2.out.2.2.2.2); have HLB := low_grown (HLA) (HLA.size) hgB (HZ.out.2.2.2); have ownA2 := own_after (hownA) (eqE) Tryd.types_part hgB; have pB0 := (cell_at eqB1 0).1; have pB1 := (cell_at eqB1 1).1; have pF0 := (cell_at eqB1 0).2; have pF1 := (cell_at eqB1 1).2) | (refine step_append_row _ ?_ (.tmp 7) (.tmp 9) 58 ?_ (w0.heap.size) 103 i1 (.agg #[.int .i64 0, .string ⟨#[]⟩]) 2 24 Tryd.underlying58 hj hy0 hy1 hy2 ?_ ?_ (.slice (some ⟨w0.heap.size, 0, none⟩) 0 0) 0 [] ?_ (own_empty ?_) (.slice x2 ls.length c2) ls.length (puts ls) ?_ (row_below H2.out ?_) (puts_one _) ?_ ?_ ?_ ?_; exact rfl; exact rfl; exact rfl; decide; exact rfl; exact eqE; exact rfl; exact HLA; (unfold maxLen; omega); omega; (have := hgA.size; simp at this; omega); intro y2 d2 wB hownB hgB; have eqB1 := k4 hgB eqA1 (HN.out.2.2.2); have HLB := low_grown (HLA) (HLA.size) hgB (HZ.out.2.2.1); have ownA2 := own_after (hownA) (eqE) Tryd.types_part hgB; have pB0 := (cell_at eqB1 0).1; have pB1 := (cell_at eqB1 1).1; have pF0 := (cell_at eqB1 0).2; have pF1 := (cell_at eqB1 1).2))
  all_goals
    rw [Nat.zero_add] at ownA2 hownB
    have hfin := copy_fin eqB1 ownA2 hownB HLB HA.out.1 HA.out.2.1 hb1 (by omega) (by have := (Array.getElem?_eq_some_iff.1 eqA1).1; omega)
    go_wp2_with fail
    refine bodyPost_ret (v := .agg #[.slice y1 ps.length d1, .slice y2 ls.length d2]) (by simp [results, Tryd.results61, go_sem, hfin.1, hfin.2.1]) rfl ⟨_, rfl, hfin.2.2.1, hfin.2.2.2⟩
open Go.RowKit
def Loc (B U : Nat) (p : World → Prop) : Prop := ∀ w w' : World, w.heap.size ≤ w'.heap.size → U ≤ w.heap.size → (∀ k, B ≤ k → k < U → w'.heap[k]? = w.heap[k]?) → p w → p w'
structure Held (wr : World) (B U : Nat) (p : World → Prop) : Prop where
  loc : Loc B U p
  le : U ≤ wr.heap.size
  is : p wr
theorem held_below {wr wr' : World} {B U : Nat} {p : World → Prop} (h : Held wr B U p) (hb : Below wr.heap.size wr wr') : Held wr' B U p :=
  ⟨h.loc, Nat.le_trans h.le hb.size, h.loc wr wr' hb.size h.le (fun k _ hk => hb.block k (Nat.lt_of_lt_of_le hk h.le)) h.is⟩
def IsVar (g : Nat) (u0 u1 : Value) (t : TypeId) (w : World) : Prop := w.heap[g]? = some (Obj.cells #[u0, u1] t)
theorem held_var {w : World} {g : Nat} {u0 u1 : Value} {t : TypeId} (h : w.heap[g]? = some (Obj.cells #[u0, u1] t)) : Held w g (g + 1) (IsVar g u0 u1 t) :=
  ⟨fun a b _ _ hk hp => (hk g (Nat.le_refl _) (by omega)).trans hp, (Array.getElem?_eq_some_iff.1 h).1, h⟩
theorem held_cells {w : World} {B U g : Nat} {u0 u1 : Value} {t : TypeId} (h : Held w B U (IsVar g u0 u1 t)) : w.cell? ⟨g, 0, none⟩ = some u0 ∧ w.cell? ⟨g, 1, none⟩ = some u1 := ⟨(cell_at h.is 0).1, (cell_at h.is 1).1⟩
def IsDisk (B U : Nat) (v : Value) (ps : List ByteArray) (ls : List (Int × ByteArray)) (w : World) : Prop := DiskOwn w B v ps ls ∧ ∀ k, diskBlocks v k → k < U
theorem diskOwn_loc {w w' : World} {B U : Nat} {v : Value} {ps : List ByteArray} {ls : List (Int × ByteArray)} (h : IsDisk B U v ps ls w) (_hs : w.heap.size ≤ w'.heap.size) (hk : ∀ k, B ≤ k → k < U → w'.heap[k]? = w.heap[k]?) : IsDisk B U v ps ls w' := by
  refine ⟨?_, h.2⟩
  have hl := diskOwn_lt h.1
  have hu := h.2
  obtain ⟨⟨vp, vl, rfl, h1, h2⟩, -⟩ := h
  have key : ∀ {e sz n : Nat} {u : Value} {xs : List Value}, w.ownsRow B e sz u n xs → (∀ k, u.ownBlock = some k → k < U) → w'.ownsRow B e sz u n xs := fun {e sz n u xs} h hlt => by
    refine ⟨h.1, ?_⟩
    rcases h.2 with ⟨rfl, hn⟩ | ⟨g, cap, cur, rfl, hg, hh, rest⟩
    · exact Or.inl ⟨rfl, hn⟩
    · exact Or.inr ⟨g, cap, cur, rfl, hg, (hk g hg (hlt g rfl)).trans hh, rest⟩
  exact ⟨vp, vl, rfl, key h1 (fun k e => hu k ⟨vp, vl, rfl, Or.inl e⟩), key h2 (fun k e => hu k ⟨vp, vl, rfl, Or.inr e⟩)⟩
theorem held_disk {w : World} {B : Nat} {v : Value} {ps : List ByteArray} {ls : List (Int × ByteArray)} (h : DiskOwn w B v ps ls) : Held w B w.heap.size (IsDisk B w.heap.size v ps ls) :=
  ⟨fun _ _ hs _ hk hp => diskOwn_loc hp hs hk, Nat.le_refl _, h, fun k hk => (diskOwn_lt h k hk).2⟩
theorem disk_form {w : World} {B : Nat} {v : Value} {ps : List ByteArray} {ls : List (Int × ByteArray)} (h : DiskOwn w B v ps ls) : ∃ x c y d, v = .agg #[.slice x ps.length c, .slice y ls.length d] := by
  obtain ⟨vp, vl, rfl, h1, h2⟩ := h
  obtain ⟨x, c, rfl⟩ := own_slice h1
  obtain ⟨y, d, rfl⟩ := own_slice h2
  exact ⟨x, c, y, d, rfl⟩
theorem new_var (w : World) (u0 u1 : Value) (t : TypeId) : Below w.heap.size w (w.alloc (Obj.cells #[u0, u1] t)) ∧ Held (w.alloc (Obj.cells #[u0, u1] t)) w.heap.size (w.heap.size + 1) (IsVar w.heap.size u0 u1 t) :=
  ⟨(Below.refl _ _).alloc (Nat.le_refl _) _, held_var (heap_alloc_new w _)⟩
open Go.RowKit
theorem disk_rows {w : World} {B : Nat} {u0 u1 : Value} {ps : List ByteArray} {ls : List (Int × ByteArray)} (h : DiskOwn w B (.agg #[u0, u1]) ps ls) : w.ownsRow B 9 1 u0 ps.length (strs ps) ∧ w.ownsRow B 103 2 u1 ls.length (puts ls) := by
  obtain ⟨vp, vl, e, h1, h2⟩ := h
  injection e with e
  injection e with e
  injection e with e1 e
  injection e with e2
  subst e1 e2
  exact ⟨h1, h2⟩
theorem ret_disk {w wr : World} {a1 B : Nat} {r0 r1 u0 u1 : Value} {t : TypeId} {ps : List ByteArray} {ls : List (Int × ByteArray)} (hres : wr.heap[a1]? = some (Obj.cells #[r0, r1] t)) (hd : DiskOwn wr B (.agg #[u0, u1]) ps ls) (hB : a1 < B) (hw : w.heap.size ≤ a1) (hb : Below w.heap.size w wr) :
    ((wr.setCell ⟨a1, 0, none⟩ u0).setCell ⟨a1, 1, none⟩ u1).cell? ⟨a1, 0, none⟩ = some u0 ∧ ((wr.setCell ⟨a1, 0, none⟩ u0).setCell ⟨a1, 1, none⟩ u1).cell? ⟨a1, 1, none⟩ = some u1 ∧
    DiskOwn ((wr.setCell ⟨a1, 0, none⟩ u0).setCell ⟨a1, 1, none⟩ u1) w.heap.size (.agg #[u0, u1]) ps ls ∧ Below w.heap.size w ((wr.setCell ⟨a1, 0, none⟩ u0).setCell ⟨a1, 1, none⟩ u1) := by
  have y1 : (wr.setCell ⟨a1, 0, none⟩ u0).heap[a1]? = some (Obj.cells #[u0, r1] t) := heap_setCell_same _ a1 0 _ _ _ hres
  have y2 : ((wr.setCell ⟨a1, 0, none⟩ u0).setCell ⟨a1, 1, none⟩ u1).heap[a1]? = some (Obj.cells #[u0, u1] t) := heap_setCell_same _ a1 1 _ _ _ y1
  have k2 : Kept wr ((wr.setCell ⟨a1, 0, none⟩ u0).setCell ⟨a1, 1, none⟩ u1) (fun k => k = a1) := kept_trans (kept_setCell _ _ _ _) (kept_setCell _ _ _ _) (fun j _ h => h)
  obtain ⟨o1, o2⟩ := disk_rows hd
  refine ⟨(cell_at y2 0).1, (cell_at y2 1).1, ⟨_, _, rfl, ?_, ?_⟩, ?_⟩
  · exact own_down (own_kept o1 k2 (fun k hk => by have := (o1.lt k hk).1; omega)) (by omega)
  · exact own_down (own_kept o2 k2 (fun k hk => by have := (o2.lt k hk).1; omega)) (by omega)
  · exact (hb.setCell (by exact hw) _).setCell (by exact hw) _
theorem own_ne_type {w : World} {B e sz n g : Nat} {v : Value} {xs : List Value} {cs : Array Value} {t : TypeId} {fr : Nat × Nat} (h : w.ownsRow B e sz v n xs) (hg : w.heap[g]? = some (.cells cs t fr)) (hne : e ≠ t) : v.ownBlock ≠ some g := by
  intro h1
  rcases h.2 with ⟨rfl, -⟩ | ⟨k, cap, cur, rfl, -, hh, -⟩
  · cases h1
  · injection h1 with h1
    have h1 : k = g := h1
    subst h1
    rw [hh] at hg
    injection hg with hg
    injection hg with _ he _
    exact hne he
theorem own_apart {w w' : World} {B B' e e' sz sz' n n' : Nat} {v v' : Value} {xs xs' : List Value} (h : w.ownsRow B e sz v n xs) (h' : w.ownsRow B' e' sz' v' n' xs') (hne : e ≠ e') (hg : w.grownBy w' v'.ownBlock) : w'.ownsRow B e sz v n xs := by
  cases hv : v.ownBlock with
  | none => exact h.kept hg (Or.inl hv)
  | some k => exact h.kept hg (Or.inr (by rw [hv]; exact fun e1 => one_type h h' hne k hv e1.symm))
open Go.RowKit
def newP (n : Int) : List ByteArray := if 4 ≤ n ∧ n ≤ 40 then List.replicate n.toNat ⟨#[]⟩ else []
def writeOk (ps : List ByteArray) (ls : List (Int × ByteArray)) (page : Int) (text : ByteArray) : Bool := diskOkB ps ls && decide (0 ≤ page ∧ page ≤ (ps.length : Int) - 1) && decide (text.size ≤ 240) && decide (ls.length ≠ 200)
def writeL (ps : List ByteArray) (ls : List (Int × ByteArray)) (page : Int) (text : ByteArray) : List (Int × ByteArray) := if writeOk ps ls page text = true then ls ++ [(page, text)] else ls
theorem writeL_le {ps : List ByteArray} {ls : List (Int × ByteArray)} {page : Int} {text : ByteArray} (h : ls.length ≤ 1048576) : (writeL ps ls page text).length ≤ 1048576 := by
  rw [writeL]
  split
  · next hw =>
    rw [writeOk] at hw
    simp only [Bool.and_eq_true] at hw
    have := (diskOk_yes hw.1.1.1).2.2.2.2
    simp
    omega
  · exact h
open Go.RowKit
def bools (l : List Bool) : List Value := l.map Value.bool
theorem bools_at (l : List Bool) (k : Nat) (h : k < l.length) : (bools l)[k]? = some (.bool l[k]) := by simp [bools, h]
open Go.RowKit
theorem bools_length (l : List Bool) : (bools l).length = l.length := by simp [bools]
theorem Tryd.infoBool : (Tryd.prog.info? 4).map (fun i => (i.zero, i.size, i.bytes)) = some (some (.bool false), 1, 1) := by kernel_rfl
theorem bools_set (l : List Bool) (k : Nat) (x : Bool) : (bools l).set k (.bool x) = bools (l.set k x) := by rw [bools, bools, List.map_set]
set_option maxHeartbeats 1000000 in
set_option maxRecDepth 100000 in
theorem eqBoolS_row (l m : List Bool) (hl : l.length ≤ 9223372036854775807) (_hm : m.length ≤ 9223372036854775807) (v u : Value) (w : World) (hr : RowAt w 1 v l.length (bools l)) (hq : RowAt w 1 u m.length (bools m)) :
    Calls Tryd.prog 46 #[v, u] w fun e w' => e = .returned (.bool (decide (l = m))) ∧ Below w.heap.size w w' := by
  obtain ⟨-, a, cap, rfl, h2⟩ := hr
  obtain ⟨-, a', cap', rfl, h3⟩ := hq
  have HR := hide h2
  have HQ := hide h3
  clear h2 h3
  by_cases hne : l.length = m.length
  · have HN := hide hne
    rw [← hne]
    clear hne
    go_enter Tryd.func46, Tryd.ntmps46
    go_wp2
    go_loopg [5] l.length (fun q iv wr => ∃ k : Nat, k ≤ l.length ∧ iv = .int .i64 (k : Int) ∧ q + k = l.length ∧ Hid (l.take k = m.take k) ∧ Below w.heap.size w wr)
    case atStart => exact ⟨0, Nat.zero_le _, rfl, rfl, hide (by simp), Below.refl _ _⟩
    case round =>
      obtain ⟨k, hk, rfl, hg, HT, hb⟩ := hrel
      have HG := hide hg
      clear hg
      by_cases hlt : k < l.length
      · rcases HR.out with hn0 | ⟨b, off, rfl, hbl, hc⟩
        · omega
        · rcases HQ.out with hn0 | ⟨b', off', rfl, hbl', hc'⟩
          · have := HN.out; omega
          · have hltm : k < m.length := by have := HN.out; omega
            obtain ⟨x, hx⟩ : ∃ x, x = l[k] := ⟨_, rfl⟩
            obtain ⟨y, hy⟩ : ∃ y, y = m[k] := ⟨_, rfl⟩
            have hcx : wr.cell? ⟨b, off + k, none⟩ = some (.bool x) := by rw [hb.cell (by exact hbl), hc k (by omega), bools_at l k hlt, hx]
            have hcy : wr.cell? ⟨b', off' + k, none⟩ = some (.bool y) := by rw [hb.cell (by exact hbl'), hc' k (by omega), bools_at m k hltm, hy]
            have HX := hide hx
            have HY := hide hy
            have hk0 : (0 : Int) ≤ (k : Int) := by omega
            have hk1 : (k : Int) < (l.length : Int) := by omega
            clear hc hc' hx hy
            by_cases hxy : x = y
            · have HT2 : Hid (l.take (k + 1) = m.take (k + 1)) := hide (by rw [List.take_succ_eq_append_getElem hlt, List.take_succ_eq_append_getElem hltm, HT.out, ← HX.out, ← HY.out, hxy])
              subst hxy
              have hbq : decide (x = x) = true := decide_eq_true rfl
              go_wp2
              go_quiet (fail)
              go_wp2
              go_roundg (gk - 1)
              case measure => have := HG.out; omega
              case rel => exact ⟨k + 1, by omega, by go_num, by have := HG.out; omega, HT2, below_drewN hb _⟩
            · have HD := hide (list_ne hlt hltm (by rw [← HX.out, ← HY.out]; exact hxy))
              have hbq : decide (x = y) = false := decide_eq_false hxy
              have hbr : (x == y) = false := by simp [hxy]
              go_wp2
              go_quiet (fail)
              go_wp2
              go_ret
              rw [HD.out]
              exact ⟨rfl, below_drewN hb _⟩
      · have HD : Hid (decide (l = m) = true) := hide (decide_eq_true (by
          have h1 := HT.out
          rw [List.take_of_length_le (by omega), List.take_of_length_le (by have := HN.out; omega)] at h1
          exact h1))
        go_wp2
        go_ret
        rw [HD.out]
        exact ⟨rfl, hb⟩
  · have HD : Hid (decide (l = m) = false) := hide (decide_eq_false (fun e => hne (by rw [e])))
    have hq1 : ¬ ((l.length : Int) = (m.length : Int)) := by omega
    clear hne
    go_enter Tryd.func46, Tryd.ntmps46
    go_wp2
    go_ret
    rw [HD.out]
    exact ⟨rfl, Below.refl _ _⟩
open Go.RowKit
def hvN (y : Nat) : Nat := if 48 ≤ y ∧ y ≤ 57 then y - 48 else if 97 ≤ y ∧ y ≤ 102 then y - 87 else 16
def hexAt (s : ByteArray) (i : Nat) : Nat := hvN (byt s i)
def pairAt (s : ByteArray) (i : Nat) : Nat := 16 * hexAt s (2 * i) + hexAt s (2 * i + 1)
def pv (s : ByteArray) (k i : Nat) : Nat := if 2 * i + 2 ≤ k then pairAt s i else if 2 * i + 1 ≤ k then hexAt s (2 * i) else 0
open Go.RowKit
theorem ba_len (A : ByteArray) : A.data.toList.length = A.size := by rw [Array.length_toList]; rfl
theorem vtB_size (n : Nat) : (⟨(vtext n).toArray⟩ : ByteArray).size = (vtext n).length := List.size_toArray
open Go.RowKit
def half (c : Nat) : Nat := if c % 2 = 1 then (c / 2) ^^^ 3558460437 else c / 2
def half4 (c : Nat) : Nat := half (half (half (half c)))
def sumB (c b : Nat) : Nat := half4 (half4 (c ^^^ b))
def sumL (c : Nat) (l : List UInt8) : Nat := l.foldl (fun c b => sumB c b.toNat) c
def fourL (x : Nat) : List UInt8 := [UInt8.ofNat (x / 16777216 % 256), UInt8.ofNat (x / 65536 % 256), UInt8.ofNat (x / 256 % 256), UInt8.ofNat (x % 256)]
theorem xor_lt32 (a b : Nat) (ha : a < 4294967296) (hb : b < 4294967296) : a ^^^ b < 4294967296 := Nat.xor_lt_two_pow (n := 32) ha hb
theorem half_lt (c : Nat) (h : c < 4294967296) : half c < 4294967296 := by
  unfold half
  split
  · exact xor_lt32 _ _ (by omega) (by omega)
  · omega
theorem half4_lt (c : Nat) (h : c < 4294967296) : half4 c < 4294967296 := half_lt _ (half_lt _ (half_lt _ (half_lt _ h)))
theorem sumB_lt (c b : Nat) (h : c < 4294967296) (hb : b < 256) : sumB c b < 4294967296 := half4_lt _ (half4_lt _ (xor_lt32 _ _ h (by omega)))
theorem sumL_append (c : Nat) (l m : List UInt8) : sumL c (l ++ m) = sumL (sumL c l) m := by simp [sumL, List.foldl_append]
theorem half_xor (a b : Nat) : half (a ^^^ b) = half a ^^^ half b := by
  have h1 : (a ^^^ b) % 2 = (a + b) % 2 := by
    have := Nat.xor_mod_two_pow (a := a) (b := b) (n := 1)
    simp only [Nat.pow_one] at this
    rw [this]
    rcases Nat.mod_two_eq_zero_or_one a with ha | ha <;> rcases Nat.mod_two_eq_zero_or_one b with hb | hb <;> rw [ha, hb] <;> simp <;> omega
  have h2 : (a ^^^ b) / 2 = a / 2 ^^^ b / 2 := by have := Nat.xor_div_two_pow (a := a) (b := b) (n := 1); simpa using this
  unfold half
  rw [h1, h2]
  by_cases ha : a % 2 = 1 <;> by_cases hb : b % 2 = 1
  · rw [if_neg (by omega), if_pos ha, if_pos hb, Nat.xor_assoc, Nat.xor_comm (b / 2) 3558460437, ← Nat.xor_assoc 3558460437, Nat.xor_self, Nat.zero_xor]
  · rw [if_pos (by omega), if_pos ha, if_neg hb, Nat.xor_assoc, Nat.xor_comm (b / 2), ← Nat.xor_assoc]
  · rw [if_pos (by omega), if_neg ha, if_pos hb, Nat.xor_assoc]
  · rw [if_neg (by omega), if_neg ha, if_neg hb]
theorem half4_xor (a b : Nat) : half4 (a ^^^ b) = half4 a ^^^ half4 b := by simp only [half4, half_xor]
theorem half4_mul (q : Nat) : half4 (16 * q) = q := by
  have e : ∀ x, half (2 * x) = x := fun x => by unfold half; rw [if_neg (by omega)]; omega
  have h : 16 * q = 2 * (2 * (2 * (2 * q))) := by omega
  unfold half4
  rw [h, e, e, e, e]
theorem split16 (x : Nat) : x = (16 * (x / 16)) ^^^ (x % 16) := by
  have h1 : ((16 * (x / 16)) ^^^ (x % 16)) / 16 = x / 16 := by
    have := Nat.xor_div_two_pow (a := 16 * (x / 16)) (b := x % 16) (n := 4)
    rw [show (2 : Nat) ^ 4 = 16 from rfl] at this
    rw [this, Nat.mul_div_cancel_left _ (by omega), Nat.div_eq_of_lt (by omega : x % 16 < 16), Nat.xor_zero]
  have h2 : ((16 * (x / 16)) ^^^ (x % 16)) % 16 = x % 16 := by
    have := Nat.xor_mod_two_pow (a := 16 * (x / 16)) (b := x % 16) (n := 4)
    rw [show (2 : Nat) ^ 4 = 16 from rfl] at this
    rw [this, Nat.mul_mod_right, Nat.zero_xor, Nat.mod_mod]
  omega
def tab16 : List Nat := [0, 1166650509, 2333301018, 3466261911, 3189058079, 4221339282, 889615109, 1888477064, 3558460437, 2442158232, 1594529039, 444807554, 1779230218, 797264519, 3776954128, 2761298845]
theorem half4_tab (r : Nat) (h : r < 16) : half4 r = tab16.getD r 0 := by
  revert r
  decide
theorem half4_eq (x : Nat) : half4 x = (x / 16) ^^^ tab16.getD (x % 16) 0 := by
  rw [← half4_tab _ (Nat.mod_lt _ (by omega)), ← half4_mul (x / 16)]
  conv => lhs; rw [split16 x]
  rw [half4_xor, half4_mul]
theorem fourL_length (x : Nat) : (fourL x).length = 4 := rfl
def sealL (l : List UInt8) : List UInt8 := l ++ fourL (sumL 4294967295 l)
theorem sealL_length (l : List UInt8) : (sealL l).length = l.length + 4 := by simp [sealL, fourL_length]
def pgsB (next : Int) : List Int → Int → List Int → Option (List Int)
  | seen, _, [] => some seen
  | seen, last, p :: ps => if 2 ≤ p ∧ p < next ∧ last < p ∧ p ∉ seen then pgsB next (seen ++ [p]) p ps else none
def freesB (tx next : Int) : List Int → Int → List (Int × List Int) → Bool
  | _, _, [] => true
  | seen, last, f :: fs => if last < f.1 ∧ f.1 ≤ tx ∧ 1 ≤ f.2.length ∧ f.2.length ≤ 40 then (match pgsB next seen 1 f.2 with | none => false | some s => freesB tx next s f.1 fs) else false
def headOkB (tx root next : Int) (n : Nat) : Bool := decide (0 ≤ tx ∧ tx ≤ 100000 ∧ 2 ≤ next ∧ next ≤ 40 ∧ (root = 0 ∨ 2 ≤ root ∧ root < next) ∧ n ≤ 20)
structure Mt where
  tx : Int
  root : Int
  next : Int
  fs : List (Int × List Int)
def Mt.none : Mt := ⟨0, 0, 0, []⟩
def Mt.ok (m : Mt) : Bool := headOkB m.tx m.root m.next m.fs.length && freesB m.tx m.next [m.root] 0 m.fs
def freeNums (fs : List (Int × List Int)) : List Int := fs.flatMap fun f => f.1 :: (f.2.length : Int) :: f.2
def Mt.nums (m : Mt) : List Int := m.tx :: m.root :: m.next :: (m.fs.length : Int) :: freeNums m.fs
def numsL (l : List Int) : List UInt8 := l.flatMap fun n => vtext n.toNat
def numsB (l : List Int) : ByteArray := ⟨(numsL l).toArray⟩
def Mt.text (m : Mt) : ByteArray := ⟨(sealL (numsL m.nums)).toArray⟩
def Mt.good (m : Mt) : Bool := m.ok && decide ((numsL m.nums).length + 4 ≤ 240)
theorem numsL_snoc (l : List Int) (n : Int) : numsL (l ++ [n]) = numsL l ++ vtext n.toNat := by simp [numsL]
theorem numsL_cons (n : Int) (l : List Int) : numsL (n :: l) = vtext n.toNat ++ numsL l := by simp [numsL]
theorem numsB_snoc (l : List Int) (n : Int) : numsB (l ++ [n]) = numsB l ++ ⟨(vtext n.toNat).toArray⟩ := by
  apply ByteArray.ext
  simp [numsB, numsL_snoc, ByteArray.data_append]
theorem numsB_list (l : List Int) : (numsB l).data.toList = numsL l := by simp [numsB]
theorem numsL_size (l : List Int) : l.length ≤ (numsL l).length ∧ (numsL l).length ≤ 5 * l.length := by
  induction l with
  | nil => simp [numsL]
  | cons n l ih =>
    have := vtext_length n.toNat
    rw [numsL_cons, List.length_append, List.length_cons]
    omega
theorem numsB_size (l : List Int) : (numsB l).size = (numsL l).length := by rw [← numsB_list, ba_len]
theorem freeNums_append (a b : List (Int × List Int)) : freeNums (a ++ b) = freeNums a ++ freeNums b := by simp [freeNums]
theorem freeNums_cons (f : Int × List Int) (b : List (Int × List Int)) : freeNums (f :: b) = f.1 :: (f.2.length : Int) :: (f.2 ++ freeNums b) := by simp [freeNums]
theorem freeNums_snoc (a : List (Int × List Int)) (f : Int × List Int) : freeNums (a ++ [f]) = freeNums a ++ (f.1 :: (f.2.length : Int) :: f.2) := by simp [freeNums]
theorem freeNums_len (fs : List (Int × List Int)) (h : ∀ f ∈ fs, f.2.length ≤ 40) : (freeNums fs).length ≤ 42 * fs.length := by
  induction fs with
  | nil => simp [freeNums]
  | cons f fs ih =>
    have h1 := ih (fun g hg => h g (List.mem_cons_of_mem _ hg))
    have h2 := h f List.mem_cons_self
    rw [freeNums_cons]
    simp
    omega
theorem pgsB_in {next : Int} {seen s : List Int} {last : Int} {ps : List Int} (h : pgsB next seen last ps = some s) : ∀ p ∈ ps, 2 ≤ p ∧ p < next := by
  induction ps generalizing seen last with
  | nil => intro p hp; cases hp
  | cons q ps ih =>
    rw [pgsB] at h
    split at h
    · next hq =>
      intro p hp
      rcases List.mem_cons.1 hp with rfl | hp
      · exact ⟨hq.1, hq.2.1⟩
      · exact ih h p hp
    · cases h
theorem freesB_in {tx next : Int} {seen : List Int} {last : Int} {fs : List (Int × List Int)} (h0 : 0 ≤ last) (h : freesB tx next seen last fs = true) : ∀ f ∈ fs, 1 ≤ f.1 ∧ f.1 ≤ tx ∧ 1 ≤ f.2.length ∧ f.2.length ≤ 40 ∧ ∀ p ∈ f.2, 2 ≤ p ∧ p < next := by
  induction fs generalizing seen last with
  | nil => intro p hp; cases hp
  | cons g fs ih =>
    rw [freesB] at h
    split at h
    · next hq =>
      split at h
      · cases h
      · next s hs =>
        intro f hf
        rcases List.mem_cons.1 hf with rfl | hf
        · exact ⟨by omega, hq.2.1, hq.2.2.1, hq.2.2.2, pgsB_in hs⟩
        · exact ih (by omega) h f hf
    · cases h
theorem ok_parts {m : Mt} (h : m.ok = true) : (0 ≤ m.tx ∧ m.tx ≤ 100000 ∧ 2 ≤ m.next ∧ m.next ≤ 40 ∧ (m.root = 0 ∨ 2 ≤ m.root ∧ m.root < m.next) ∧ m.fs.length ≤ 20) ∧ ∀ f ∈ m.fs, 1 ≤ f.1 ∧ f.1 ≤ m.tx ∧ 1 ≤ f.2.length ∧ f.2.length ≤ 40 ∧ ∀ p ∈ f.2, 2 ≤ p ∧ p < m.next := by
  rw [Mt.ok, Bool.and_eq_true, headOkB, decide_eq_true_eq] at h
  exact ⟨h.1, freesB_in (Int.le_refl _) h.2⟩
theorem nums_in {m : Mt} (h : m.ok = true) : ∀ n ∈ m.nums, 0 ≤ n ∧ n ≤ 100000 := by
  obtain ⟨⟨h1, h2, h3, h4, h5, h6⟩, h7⟩ := ok_parts h
  intro n hn
  rw [Mt.nums] at hn
  simp only [List.mem_cons] at hn
  rcases hn with rfl | rfl | rfl | rfl | hn
  · omega
  · omega
  · omega
  · omega
  · rw [freeNums, List.mem_flatMap] at hn
    obtain ⟨f, hf, hn⟩ := hn
    obtain ⟨g1, g2, g3, g4, g5⟩ := h7 f hf
    simp only [List.mem_cons] at hn
    rcases hn with rfl | rfl | hn
    · omega
    · omega
    · have := g5 n hn; omega
theorem nums_len {m : Mt} (h : m.ok = true) : m.nums.length ≤ 844 := by
  obtain ⟨⟨h1, h2, h3, h4, h5, h6⟩, h7⟩ := ok_parts h
  have := freeNums_len m.fs (fun f hf => (h7 f hf).2.2.2.1)
  simp [Mt.nums]
  omega
theorem nums_size {m : Mt} (h : m.ok = true) : (numsB m.nums).size ≤ 4220 ∧ 4 ≤ (numsB m.nums).size := by
  rw [numsB_size]
  have h1 := numsL_size m.nums
  have h2 := nums_len h
  have h3 : 4 ≤ m.nums.length := by simp [Mt.nums]
  omega
def MSt (tx root next : Int) (fs : List (Int × List Int)) (k : Nat) (seen : List Int) (last : Int) : Prop :=
  seen.length ≤ 1 + 40 * k ∧ freesB tx next seen last (fs.drop k) = freesB tx next [root] 0 fs ∧ 0 ≤ last ∧ (k = 0 → last = 0) ∧ (∀ f, 0 < k → fs[k - 1]? = some f → f.1 = last) ∧ root ∈ seen ∧ ∀ x ∈ seen, x = root ∨ (2 ≤ x ∧ x < next)
def PSt (next : Int) (seen0 ps : List Int) (j : Nat) (seen : List Int) (prev : Int) : Prop :=
  seen.length = seen0.length + j ∧ pgsB next seen prev (ps.drop j) = pgsB next seen0 1 ps ∧ (j = 0 → prev = 1) ∧ (∀ x, 0 < j → ps[j - 1]? = some x → x = prev) ∧ (0 < j → prev ∈ seen) ∧ (∀ x, x ∈ seen0 → x ∈ seen) ∧ ∀ x ∈ seen, x ∈ seen0 ∨ (2 ≤ x ∧ x < next)
theorem mst_start (tx root next : Int) (fs : List (Int × List Int)) : MSt tx root next fs 0 [root] 0 :=
  ⟨by simp, by simp, Int.le_refl _, fun _ => rfl, fun f h => by omega, by simp, fun x hx => Or.inl (by simpa using hx)⟩
theorem drop_at {α : Type} {l : List α} {k : Nat} {x : α} (h : l[k]? = some x) : l.drop k = x :: l.drop (k + 1) := by
  obtain ⟨hk, e⟩ := List.getElem?_eq_some_iff.1 h
  rw [List.drop_eq_getElem_cons hk, e]
theorem mst_end {tx root next : Int} {fs : List (Int × List Int)} {k : Nat} {seen : List Int} {last : Int} (h : MSt tx root next fs k seen last) (hk : fs.length ≤ k) : freesB tx next [root] 0 fs = true := by
  rw [← h.2.1, List.drop_eq_nil_of_le hk, freesB]
theorem mst_bad {tx root next : Int} {fs : List (Int × List Int)} {k : Nat} {seen : List Int} {last ftx : Int} {ps : List Int} (h : MSt tx root next fs k seen last) (hf : fs[k]? = some (ftx, ps)) (hb : ¬ (last < ftx ∧ ftx ≤ tx ∧ 1 ≤ ps.length ∧ ps.length ≤ 40)) : freesB tx next [root] 0 fs = false := by
  rw [← h.2.1, drop_at hf, freesB, if_neg hb]
theorem mst_none {tx root next : Int} {fs : List (Int × List Int)} {k : Nat} {seen : List Int} {last ftx : Int} {ps : List Int} (h : MSt tx root next fs k seen last) (hf : fs[k]? = some (ftx, ps)) (hb : pgsB next seen 1 ps = none) : freesB tx next [root] 0 fs = false := by
  rw [← h.2.1, drop_at hf, freesB]
  split
  · rw [hb]
  · rfl
theorem mst_next {tx root next : Int} {fs : List (Int × List Int)} {k : Nat} {seen s : List Int} {last ftx : Int} {ps : List Int} (h : MSt tx root next fs k seen last) (hf : fs[k]? = some (ftx, ps)) (hb : last < ftx ∧ ftx ≤ tx ∧ 1 ≤ ps.length ∧ ps.length ≤ 40)
    {prev : Int} (hp : PSt next seen ps ps.length s prev) : MSt tx root next fs (k + 1) s ftx := by
  obtain ⟨p1, p2, p3, p4, p5, p6, p7⟩ := hp
  rw [List.drop_length, pgsB] at p2
  refine ⟨by have := h.1; omega, ?_, by have := h.2.2.1; omega, fun e => by omega, fun f _ e => ?_, p6 _ h.2.2.2.2.2.1, fun x hx => ?_⟩
  · rw [← h.2.1, drop_at hf, freesB, if_pos hb]
    simp only [← p2]
  · rw [Nat.add_sub_cancel, hf] at e
    injection e with e
    rw [← e]
  · rcases p7 x hx with h1 | h1
    · exact h.2.2.2.2.2.2 x h1
    · exact Or.inr h1
theorem pst_start (next : Int) (seen ps : List Int) : PSt next seen ps 0 seen 1 := ⟨rfl, by simp, fun _ => rfl, fun x h => by omega, fun h => by omega, fun x h => h, fun x h => Or.inl h⟩
theorem pst_bad {next : Int} {seen0 ps : List Int} {j : Nat} {seen : List Int} {prev p : Int} (h : PSt next seen0 ps j seen prev) (hf : ps[j]? = some p) (hb : ¬ (2 ≤ p ∧ p < next ∧ prev < p ∧ p ∉ seen)) : pgsB next seen0 1 ps = none := by
  rw [← h.2.1, drop_at hf, pgsB, if_neg hb]
theorem pst_next {next : Int} {seen0 ps : List Int} {j : Nat} {seen : List Int} {prev p : Int} (h : PSt next seen0 ps j seen prev) (hf : ps[j]? = some p) (hb : 2 ≤ p ∧ p < next ∧ prev < p ∧ p ∉ seen) : PSt next seen0 ps (j + 1) (seen ++ [p]) p := by
  refine ⟨by rw [List.length_append]; have := h.1; simp; omega, ?_, fun e => by omega, fun x _ e => ?_, fun _ => by simp, fun x hx => List.mem_append_left _ (h.2.2.2.2.2.1 x hx), fun x hx => ?_⟩
  · rw [← h.2.1, drop_at hf, pgsB, if_pos hb]
  · rw [Nat.add_sub_cancel, hf] at e
    injection e with e
    exact e.symm
  · rcases List.mem_append.1 hx with h1 | h1
    · exact h.2.2.2.2.2.2 x h1
    · rw [List.mem_singleton] at h1
      subst h1
      exact Or.inr ⟨hb.1, hb.2.1⟩
theorem ok_head {m : Mt} (h : headOkB m.tx m.root m.next m.fs.length = false) : m.ok = false := by rw [Mt.ok, h]; rfl
theorem ok_frees {m : Mt} (h : headOkB m.tx m.root m.next m.fs.length = true) : m.ok = freesB m.tx m.next [m.root] 0 m.fs := by rw [Mt.ok, h]; rfl
open Go.RowKit
theorem in_dec (x a b : Int) (w : World) : Calls Tryd.prog 45 #[.int .i64 x, .int .i64 a, .int .i64 b] w fun e w' => e = .returned (.bool (decide (a ≤ x ∧ x ≤ b))) ∧ w = w' := by
  by_cases h : a ≤ x ∧ x ≤ b
  · rw [decide_eq_true h]; exact l01In_yes x a b w h.1 h.2
  · rw [decide_eq_false h]; exact l01In_no x a b w (by omega)
theorem bel_dn {B : Nat} {a b : World} {n : Nat} (h : Below B a b) : Below B a (b.drewN n) := below_drewN h n
set_option maxHeartbeats 1000000 in
theorem l06In_any (l : List Int) (hl : l.length ≤ 1048576) (x : Int) (v : Value) (w : World) (hr : RowAt w 1 v l.length (ints l)) :
    Calls Tryd.prog 75 #[v, .int .i64 x] w fun e w' => e = .returned (.bool (decide (x ∈ l))) ∧ w = w' := by
  obtain ⟨-, a, cap, rfl, h2⟩ := hr
  have HR := hide h2
  clear h2
  go_enter Tryd.func75, Tryd.ntmps75
  go_wp2
  go_loopg [5] l.length (fun q iv wr => ∃ k : Nat, k ≤ l.length ∧ iv = .int .i64 (k : Int) ∧ q + k = l.length ∧ Hid (x ∉ l.take k) ∧ w = wr)
  case atStart => exact ⟨0, Nat.zero_le _, rfl, rfl, hide (by simp), rfl⟩
  case round =>
    obtain ⟨k, hk, rfl, hg, HT, rfl⟩ := hrel
    have HG := hide hg
    clear hg
    by_cases hlt : k < l.length
    · rcases HR.out with hn0 | ⟨b, off, rfl, hbl, hc⟩
      · omega
      · obtain ⟨y, hy⟩ : ∃ y, y = l[k] := ⟨_, rfl⟩
        have hcx : w.cell? ⟨b, off + k, none⟩ = some (.int .i64 y) := by rw [hc k (by omega), ints_at l k hlt, hy]
        have HY := hide hy
        have hk0 : (0 : Int) ≤ (k : Int) := by omega
        have hk1 : (k : Int) < (l.length : Int) := by omega
        clear hc hy
        by_cases hxy : y = x
        · have HD : Hid (decide (x ∈ l) = true) := hide (decide_eq_true (by rw [← hxy, HY.out]; exact List.getElem_mem hlt))
          subst hxy
          go_wp2
          go_ret
          rw [HD.out]
          exact ⟨rfl, rfl⟩
        · have HT2 : Hid (x ∉ l.take (k + 1)) := hide (fun h => by
            rw [List.take_succ_eq_append_getElem hlt] at h
            rcases List.mem_append.1 h with h | h
            · exact HT.out h
            · rw [List.mem_singleton, ← HY.out] at h; exact hxy h.symm)
          have hbq : (y == x) = false := by simp [hxy]
          have hbd : decide (y = x) = false := decide_eq_false hxy
          clear hxy
          go_wp2
          go_roundg (gk - 1)
          case measure => have := HG.out; omega
          case rel => exact ⟨k + 1, by omega, by go_num, by have := HG.out; omega, HT2, rfl⟩
    · have HD : Hid (decide (x ∈ l) = false) := hide (decide_eq_false (by
        have h1 := HT.out
        rw [List.take_of_length_le (by omega)] at h1
        exact h1))
      go_wp2
      go_ret
      rw [HD.out]
      exact ⟨rfl, rfl⟩
end Go.Proofs.YtmmepgincbngeaaDoor
