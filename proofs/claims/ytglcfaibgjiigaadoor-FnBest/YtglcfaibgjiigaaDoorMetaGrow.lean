/-
  A meta that grows in a variable (at block gm, its rows behind it), and a free that grows in another (at block gf).
-/
import Derived.Test.YtglcfaibgjiigaaDoorMeta
namespace Go.Proofs.YtglcfaibgjiigaaDoor
open Go.RowKit

theorem apartM {u v : Value} (h : ∀ k, u.ownBlock = some k → v.ownBlock ≠ some k) : v.ownBlock = none ∨ v.ownBlock ≠ u.ownBlock := by
  cases hv : v.ownBlock with
  | none => exact Or.inl rfl
  | some k => exact Or.inr (fun e => h k e.symm hv)

theorem awayM {u : Value} {gn : Nat} (h : ∀ k, u.ownBlock = some k → gn < k) : some gn ≠ u.ownBlock := fun e => by have := h gn e.symm; omega

theorem blk_typeM {w : World} {B e sz n g : Nat} {v : Value} {xs : List Value} {cs : Array Value} {t : TypeId} {p : Nat × Nat} (h : w.ownsRow B e sz v n xs) (hb : w.heap[g]? = some (.cells cs t p)) (hne : e ≠ t) : some g ≠ v.ownBlock := by
  intro h2
  rcases h.2 with ⟨rfl, -⟩ | ⟨g', cap, cur, rfl, -, hh, -⟩
  · cases h2
  · injection h2 with h2
    have h2 : g = g' := h2
    subst h2
    rw [hh] at hb
    injection hb with hb
    injection hb with _ he _
    exact hne he

theorem grown_setM (w : World) (g j : Nat) (u : Value) : w.grownBy (w.setCell ⟨g, j, none⟩ u) (some g) :=
  ⟨rfl, rfl, rfl, by simp, fun k _ hn => heap_setCell_other w ⟨g, j, none⟩ k u (fun e => hn (by rw [e]))⟩

def MGr (w : World) (gm : Nat) (tx root next : Int) (vf : Value) (l : List (Int × Value)) (fs : List (Int × List Int)) : Prop :=
  w.heap[gm]? = some (.cells #[.int .i64 tx, .int .i64 root, .int .i64 next, vf] 40 (0, 0)) ∧ OwnF w (gm + 1) vf l fs

def FGr (w : World) (gm gf : Nat) (ftx : Int) (vp : Value) (ps : List Int) (vf : Value) (l : List (Int × Value)) : Prop :=
  w.heap[gf]? = some (.cells #[.int .i64 ftx, vp] 110 (0, 0)) ∧ w.ownsRow (gm + 1) 3 1 vp ps.length (ints ps) ∧ gm < gf ∧ some gf ≠ vf.ownBlock ∧ ∀ (i : Nat) (p : Int × Value) (b : Nat), l[i]? = some p → p.2.ownBlock = some b → vp.ownBlock ≠ some b

theorem mgr_lt {w : World} {gm : Nat} {tx root next : Int} {vf : Value} {l : List (Int × Value)} {fs : List (Int × List Int)} (h : MGr w gm tx root next vf l fs) : gm < w.heap.size := (Array.getElem?_eq_some_iff.1 h.1).1

theorem ownF_grown {w w' : World} {B : Nat} {v : Value} {m : List (Int × Value)} {fs : List (Int × List Int)} {r : Option Nat} (h : OwnF w B v m fs) (hg : w.grownBy w' r) (hr : ∀ b, freeBlocks v m b → r ≠ some b) : OwnF w' B v m fs :=
  ownF_kept h (S := fun k => r = some k) ⟨hg.os, hg.tape, hg.output, hg.size, fun k hk hn => hg.block k hk (fun e => hn e.symm)⟩ (fun b hb e => hr b hb e)

theorem mgr_grown {w w' : World} {g gm : Nat} {tx root next : Int} {vf : Value} {l : List (Int × Value)} {fs : List (Int × List Int)} (h : MGr w gm tx root next vf l fs) (hg : w.grownBy w' (some g)) (hlt : g < gm) : MGr w' gm tx root next vf l fs :=
  ⟨(hg.block gm (mgr_lt h) (fun e => by injection e with e; omega)).trans h.1, ownF_grown h.2 hg (fun b hb e => by injection e with e; have := (ownF_lt h.2 b hb).1; omega)⟩

theorem mgr_below {w w' : World} {gm : Nat} {tx root next : Int} {vf : Value} {l : List (Int × Value)} {fs : List (Int × List Int)} (h : MGr w gm tx root next vf l fs) (hb : Below w.heap.size w w') : MGr w' gm tx root next vf l fs :=
  ⟨(hb.block gm (mgr_lt h)).trans h.1, ownF_stays h.2 hb⟩

theorem fgr_grown {w w' : World} {g gm gf : Nat} {ftx : Int} {vp : Value} {ps : List Int} {vf : Value} {l : List (Int × Value)} (h : FGr w gm gf ftx vp ps vf l) (hg : w.grownBy w' (some g)) (hlt : g < gm) : FGr w' gm gf ftx vp ps vf l := by
  obtain ⟨h1, h2, h3, h4, h5⟩ := h
  exact ⟨(hg.block gf (Array.getElem?_eq_some_iff.1 h1).1 (fun e => by injection e with e; omega)).trans h1, h2.kept hg (Or.inr (fun e => by have := (h2.lt _ e).1; omega)), h3, h4, h5⟩

theorem fgr_below {w w' : World} {gm gf : Nat} {ftx : Int} {vp : Value} {ps : List Int} {vf : Value} {l : List (Int × Value)} (h : FGr w gm gf ftx vp ps vf l) (hb : Below w.heap.size w w') : FGr w' gm gf ftx vp ps vf l := by
  obtain ⟨h1, h2, h3, h4, h5⟩ := h
  exact ⟨(hb.block gf (Array.getElem?_eq_some_iff.1 h1).1).trans h1, own_stays h2 hb, h3, h4, h5⟩

theorem own_none (w : World) (B e sz : Nat) : w.ownsRow B e sz (.slice none 0 0) 0 [] := ⟨by simp, Or.inl ⟨rfl, rfl⟩⟩

/-- a new meta without frees -/
theorem mgr_new (w : World) (tx root next : Int) : MGr (w.alloc (.cells #[.int .i64 tx, .int .i64 root, .int .i64 next, .slice none 0 0] 40 (0, 0))) w.heap.size tx root next (.slice none 0 0) [] [] :=
  ⟨heap_alloc_new w _, own_none _ _ _ _, rfl, fun i p f h => by simp at h, fun i j p q b h => by simp at h⟩

/-- a new free without pages -/
theorem fgr_new {w : World} {gm : Nat} {tx root next : Int} {vf : Value} {l : List (Int × Value)} {fs : List (Int × List Int)} (h : MGr w gm tx root next vf l fs) (ftx : Int) :
    FGr (w.alloc (.cells #[.int .i64 ftx, .slice none 0 0] 110 (0, 0))) gm w.heap.size ftx (.slice none 0 0) [] vf l :=
  ⟨heap_alloc_new w _, own_none _ _ _ _, mgr_lt h, fun e => by have := (ownF_lt h.2 _ (Or.inl e.symm)).2; omega, fun i p b _ _ e => by cases e⟩

theorem ints_snocM (l : List Int) (x : Int) : ints l ++ [.int .i64 x] = ints (l ++ [x]) := by simp [ints]

/-- a page more -/
theorem page_step {w w' : World} {gm gf b cap : Nat} {tx root next ftx x : Int} {vf vp : Value} {l : List (Int × Value)} {fs : List (Int × List Int)} {ps : List Int} {o : Obj} (hM : MGr w gm tx root next vf l fs) (hF : FGr w gm gf ftx vp ps vf l)
    (hown : w'.ownsRow (gm + 1) 3 1 (.slice (some ⟨b, 0, none⟩) (ps.length + 1) cap) (ps.length + 1) (ints ps ++ [.int .i64 x])) (hg : (w.alloc o).grownBy w' vp.ownBlock) (hb : vp.ownBlock = some b ∨ b = (w.alloc o).heap.size) :
    MGr (w'.setCell ⟨gf, 1, none⟩ (.slice (some ⟨b, 0, none⟩) (ps.length + 1) cap)) gm tx root next vf l fs ∧ FGr (w'.setCell ⟨gf, 1, none⟩ (.slice (some ⟨b, 0, none⟩) (ps.length + 1) cap)) gm gf ftx (.slice (some ⟨b, 0, none⟩) (ps.length + 1) cap) (ps ++ [x]) vf l ∧
    Below (gm + 1) w (w'.setCell ⟨gf, 1, none⟩ (.slice (some ⟨b, 0, none⟩) (ps.length + 1) cap)) ∧ w'.cell? ⟨gf, 1, none⟩ = some vp ∧ w'.frozen? ⟨gf, 1, none⟩ = false := by
  have hba : Below w.heap.size w (w.alloc o) := (Below.refl _ _).alloc (Nat.le_refl _) _
  have hMl := mgr_lt hM
  obtain ⟨m1, m2⟩ := mgr_below hM hba
  obtain ⟨f1, f2, f3, f4, f5⟩ := fgr_below hF hba
  have hsA : w.heap.size < (w.alloc o).heap.size := by simp
  have r1 : w'.heap[gf]? = _ := (hg.block gf (Array.getElem?_eq_some_iff.1 f1).1 (blk_typeM f2 f1 Tryd.free_int.symm)).trans f1
  have r2 : w'.heap[gm]? = _ := (hg.block gm (Array.getElem?_eq_some_iff.1 m1).1 (awayM (fun k e => (f2.lt k e).1))).trans m1
  have hs := grown_setM w' gf 1 (.slice (some ⟨b, 0, none⟩) (ps.length + 1) cap)
  have o1 : OwnF w' (gm + 1) vf l fs := ownF_grown m2 hg (fun c hc => by
    rcases hc with hc | ⟨i, p, hp, hc⟩
    · exact fun e => one_type m2.1 f2 Tryd.free_int c hc e
    · exact f5 i p c hp hc)
  have o2 : OwnF (w'.setCell ⟨gf, 1, none⟩ (.slice (some ⟨b, 0, none⟩) (ps.length + 1) cap)) (gm + 1) vf l fs := ownF_grown o1 hs (fun c hc e => by
    injection e with e
    subst e
    rcases hc with hc | ⟨i, p, hp, hc⟩
    · exact f4 hc.symm
    · have hi : i < fs.length := by have := (List.getElem?_eq_some_iff.1 hp).1; have := o1.2.1; omega
      exact blk_typeM (o1.2.2.1 i p _ hi hp (List.getElem?_eq_getElem hi)).2 r1 Tryd.free_int.symm hc.symm)
  have hbe : Below (gm + 1) w w' := ((Below.refl (gm + 1) w).alloc (by omega) o).grown hg (by simp; omega) (fun k e => (f2.lt k e).1)
  refine ⟨⟨(hs.block gm (by have := (Array.getElem?_eq_some_iff.1 r2).1; exact this) (fun e => by injection e with e; omega)).trans r2, o2⟩, ⟨heap_setCell_same w' gf 1 _ _ _ r1, ?_, f3, f4, fun i p c hp hc e => ?_⟩, hbe.grown hs (by have := hbe.size; omega) (fun k e => by injection e with e; omega), (cell_at r1 1).1, (cell_at r1 1).2⟩
  · rw [List.length_append, ← ints_snocM]
    exact hown.kept hs (Or.inr (fun e => blk_typeM hown r1 Tryd.free_int.symm e.symm))
  · have e : b = c := by injection e
    subst e
    rcases hb with hb | hb
    · exact f5 i p b hp hc hb
    · have hi : i < fs.length := by have := (List.getElem?_eq_some_iff.1 hp).1; have := m2.2.1; omega
      have := ((m2.2.2.1 i p _ hi hp (List.getElem?_eq_getElem hi)).2.lt b hc).2
      omega

theorem frs_snoc (l : List (Int × Value)) (x : Int) (u : Value) : frs (l ++ [(x, u)]) = frs l ++ [.int .i64 x, u] := by simp [frs]

/-- a free more -/
theorem free_step {w w' : World} {gm gf : Nat} {tx root next ftx : Int} {vf vp v' : Value} {l : List (Int × Value)} {fs : List (Int × List Int)} {ps : List Int} {o : Obj} (hM : MGr w gm tx root next vf l fs) (hF : FGr w gm gf ftx vp ps vf l)
    (hown : w'.ownsRow (gm + 1) 110 2 v' (fs.length + 1) (frs l ++ [.int .i64 ftx, vp])) (hg : (w.alloc o).grownBy w' vf.ownBlock) :
    MGr (w'.setCell ⟨gm, 3, none⟩ v') gm tx root next v' (l ++ [(ftx, vp)]) (fs ++ [(ftx, ps)]) ∧ Below gm w (w'.setCell ⟨gm, 3, none⟩ v') ∧ w'.cell? ⟨gm, 3, none⟩ = some vf ∧ w'.frozen? ⟨gm, 3, none⟩ = false := by
  have hba : Below w.heap.size w (w.alloc o) := (Below.refl _ _).alloc (Nat.le_refl _) _
  have hMl := mgr_lt hM
  obtain ⟨m1, m2⟩ := mgr_below hM hba
  obtain ⟨f1, f2, f3, f4, f5⟩ := fgr_below hF hba
  have r2 : w'.heap[gm]? = _ := (hg.block gm (Array.getElem?_eq_some_iff.1 m1).1 (awayM (fun k e => (m2.1.lt k e).1))).trans m1
  have hs := grown_setM w' gm 3 v'
  have hbe : Below gm w w' := ((Below.refl gm w).alloc (by omega) o).grown hg (by simp; omega) (fun k e => by have := (m2.1.lt k e).1; omega)
  have p1 : w'.ownsRow (gm + 1) 3 1 vp ps.length (ints ps) := f2.kept hg (apartM (fun k e => one_type m2.1 f2 Tryd.free_int k e))
  have p2 := p1.kept hs (Or.inr (fun e => by have := (p1.lt _ e).1; omega))
  have hlen : l.length = fs.length := m2.2.1
  refine ⟨⟨heap_setCell_same w' gm 3 _ _ _ r2, ?_, ?_, ?_, ?_⟩, hbe.grown hs (by have := hbe.size; omega) (fun k e => by injection e with e; omega), (cell_at r2 3).1, (cell_at r2 3).2⟩
  · rw [List.length_append, frs_snoc]
    exact hown.kept hs (Or.inr (fun e => by have := (hown.lt _ e).1; omega))
  · simp [hlen]
  · intro i p f hi hp hf
    by_cases e : i < fs.length
    · rw [List.getElem?_append_left (by omega)] at hp
      rw [List.getElem?_append_left e] at hf
      obtain ⟨g1, g2⟩ := m2.2.2.1 i p f e hp hf
      have g3 := g2.kept hg (apartM (fun k e => one_type m2.1 g2 Tryd.free_int k e))
      exact ⟨g1, g3.kept hs (Or.inr (fun e => by have := (g3.lt _ e).1; omega))⟩
    · have hi2 : i = fs.length := by simp at hi; omega
      subst hi2
      rw [List.getElem?_append_right (by omega), hlen] at hp
      rw [List.getElem?_append_right (by omega)] at hf
      simp at hp hf
      subst hp hf
      exact ⟨rfl, p2⟩
  · intro i j p q b hi hj hp hq h1 h2
    by_cases ei : i < fs.length
    · rw [List.getElem?_append_left (by omega)] at hp
      by_cases ej : j < fs.length
      · rw [List.getElem?_append_left (by omega)] at hq
        exact m2.2.2.2 i j p q b ei ej hp hq h1 h2
      · have hj2 : j = fs.length := by simp at hj; omega
        subst hj2
        rw [List.getElem?_append_right (by omega), hlen] at hq
        simp at hq
        subst hq
        exact absurd h2 (f5 i p b hp h1)
    · have hi2 : i = fs.length := by simp at hi; omega
      by_cases ej : j < fs.length
      · rw [List.getElem?_append_left (by omega)] at hq
        subst hi2
        rw [List.getElem?_append_right (by omega), hlen] at hp
        simp at hp
        subst hp
        exact absurd h1 (f5 j q b hq h2)
      · simp at hj
        omega

theorem mgr_own {w : World} {gm : Nat} {m : Mt} {vf : Value} {l : List (Int × Value)} (h : MGr w gm m.tx m.root m.next vf l m.fs) : MetaOwn w (gm + 1) (.agg #[.int .i64 m.tx, .int .i64 m.root, .int .i64 m.next, vf]) m := ⟨vf, l, rfl, h.2⟩

/-- a meta stored into another variable -/
theorem ret_meta {w : World} {a B : Nat} {m : Mt} {vf c0 c1 c2 c3 : Value} (hq : w.heap[a]? = some (.cells #[c0, c1, c2, c3] 40 (0, 0))) (hn : MetaOwn w B (.agg #[.int .i64 m.tx, .int .i64 m.root, .int .i64 m.next, vf]) m) (hlt : a < B) :
    ((((w.setCell ⟨a, 0, none⟩ (.int .i64 m.tx)).setCell ⟨a, 1, none⟩ (.int .i64 m.root)).setCell ⟨a, 2, none⟩ (.int .i64 m.next)).setCell ⟨a, 3, none⟩ vf).heap[a]? = some (.cells #[.int .i64 m.tx, .int .i64 m.root, .int .i64 m.next, vf] 40 (0, 0)) ∧
    MetaOwn ((((w.setCell ⟨a, 0, none⟩ (.int .i64 m.tx)).setCell ⟨a, 1, none⟩ (.int .i64 m.root)).setCell ⟨a, 2, none⟩ (.int .i64 m.next)).setCell ⟨a, 3, none⟩ vf) B (.agg #[.int .i64 m.tx, .int .i64 m.root, .int .i64 m.next, vf]) m ∧
    Below a w ((((w.setCell ⟨a, 0, none⟩ (.int .i64 m.tx)).setCell ⟨a, 1, none⟩ (.int .i64 m.root)).setCell ⟨a, 2, none⟩ (.int .i64 m.next)).setCell ⟨a, 3, none⟩ vf) := by
  have hal : a < w.heap.size := (Array.getElem?_eq_some_iff.1 hq).1
  have g1 : w.grownBy ((((w.setCell ⟨a, 0, none⟩ (.int .i64 m.tx)).setCell ⟨a, 1, none⟩ (.int .i64 m.root)).setCell ⟨a, 2, none⟩ (.int .i64 m.next)).setCell ⟨a, 3, none⟩ vf) (some a) := by
    have t : ∀ {x y z : World}, x.grownBy y (some a) → y.grownBy z (some a) → x.grownBy z (some a) := fun h k => ⟨k.os.trans h.os, k.tape.trans h.tape, k.output.trans h.output, Nat.le_trans h.size k.size, fun j hj hne => (k.block j (Nat.lt_of_lt_of_le hj h.size) hne).trans (h.block j hj hne)⟩
    exact t (t (t (grown_setM w a 0 _) (grown_setM _ a 1 _)) (grown_setM _ a 2 _)) (grown_setM _ a 3 _)
  refine ⟨heap_setCell_same _ a 3 _ _ _ (heap_setCell_same _ a 2 _ _ _ (heap_setCell_same _ a 1 _ _ _ (heap_setCell_same w a 0 _ _ _ hq))), ?_, (Below.refl a w).grown g1 (by omega) (fun k e => by injection e with e; omega)⟩
  obtain ⟨uf, l, e, h⟩ := hn
  obtain ⟨-, -, -, rfl⟩ := agg4 e
  exact ⟨_, l, rfl, ownF_grown h g1 (fun b hb e => by injection e with e; have := (ownF_lt h b hb).1; omega)⟩
end Go.Proofs.YtglcfaibgjiigaaDoor
