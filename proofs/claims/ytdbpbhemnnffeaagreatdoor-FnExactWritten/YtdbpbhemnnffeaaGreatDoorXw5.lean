/-
  Facts and contracts that the law's own text rests on, by their texts' names: AlSpec, PairRow, PairTo.
-/
import Derived.Test.YtdbpbhemnnffeaaGreatDoorXw2
import Derived.Test.YtdbpbhemnnffeaaGreatDoorXw4
import Derived.Deep.RegionHeld3
namespace Go.Proofs.YtdbpbhemnnffeaaGreatDoor
open Go.RowKit
def prs (l : List (ByteArray × ByteArray)) : List Value := l.flatMap fun p => [.string p.1, .string p.2]
theorem prs_snoc (l : List (ByteArray × ByteArray)) (k v : ByteArray) : prs l ++ [.string k, .string v] = prs (l ++ [(k, v)]) := by simp [prs]
theorem prs_length (l : List (ByteArray × ByteArray)) : (prs l).length = l.length * 2 := by
  induction l with
  | nil => rfl
  | cons p l ih => simp only [prs, List.flatMap_cons, List.length_append, List.length_cons, List.length_nil] at ih ⊢; omega
theorem ints_snoc (l : List Int) (x : Int) : ints l ++ [.int .i64 x] = ints (l ++ [x]) := by simp [ints]
def AlIs (W : World) (ga : Nat) (a : Al) (vp vg vd : Value) : Prop :=
  W.heap[ga]? = some (.cells #[vp, vg, vd, .bool a.bad, .bool a.loose] 100 (0, 0)) ∧ W.ownsRow (ga + 1) 101 2 vp a.pairs.length (prs a.pairs) ∧ W.ownsRow (ga + 1) 3 1 vg a.pages.length (ints a.pages) ∧ W.ownsRow (ga + 1) 3 1 vd a.depths.length (ints a.depths) ∧ (∀ k, vg.ownBlock = some k → vd.ownBlock ≠ some k)
def AlF (ga : Nat) (vp vg vd : Value) (k : Nat) : Prop := k = ga ∨ vp.ownBlock = some k ∨ vg.ownBlock = some k ∨ vd.ownBlock = some k
theorem al_lt {W : World} {ga : Nat} {a : Al} {vp vg vd : Value} (h : AlIs W ga a vp vg vd) : ∀ k, AlF ga vp vg vd k → ga ≤ k ∧ k < W.heap.size := by
  obtain ⟨h1, h2, h3, h4, -⟩ := h
  rintro k (rfl | hk | hk | hk)
  · exact ⟨Nat.le_refl _, (Array.getElem?_eq_some_iff.1 h1).1⟩
  · have := h2.lt k hk; omega
  · have := h3.lt k hk; omega
  · have := h4.lt k hk; omega
theorem Tryz.pair_int : (101 : Nat) ≠ 3 := by decide
theorem al_kept {W W' : World} {ga : Nat} {a : Al} {vp vg vd : Value} {S : Nat → Prop} (h : AlIs W ga a vp vg vd) (hk : Kept W W' S) (hS : ∀ k, AlF ga vp vg vd k → ¬ S k) : AlIs W' ga a vp vg vd := by
  obtain ⟨h1, h2, h3, h4, h5⟩ := h
  exact ⟨(hk.2.2.2.2 ga (Array.getElem?_eq_some_iff.1 h1).1 (hS ga (Or.inl rfl))).trans h1, own_kept h2 hk (fun k e => hS k (Or.inr (Or.inl e))), own_kept h3 hk (fun k e => hS k (Or.inr (Or.inr (Or.inl e)))), own_kept h4 hk (fun k e => hS k (Or.inr (Or.inr (Or.inr e)))), h5⟩
theorem al_below {W W' : World} {ga : Nat} {a : Al} {vp vg vd : Value} (h : AlIs W ga a vp vg vd) (hb : Below W.heap.size W W') : AlIs W' ga a vp vg vd := al_kept h (kept_of_all hb (fun _ => False)) (fun _ _ h => h)
theorem al_bad {W : World} {ga : Nat} {a : Al} {vp vg vd : Value} (h : AlIs W ga a vp vg vd) (b : Bool) : AlIs (W.setCell ⟨ga, 3, none⟩ (.bool b)) ga { a with bad := b } vp vg vd := by
  obtain ⟨h1, h2, h3, h4, h5⟩ := h
  have hk := kept_setCell W ga 3 (.bool b)
  refine ⟨heap_setCell_same _ ga 3 _ _ _ h1, own_kept h2 hk (fun k e => ?_), own_kept h3 hk (fun k e => ?_), own_kept h4 hk (fun k e => ?_), h5⟩
  · have := (h2.lt k e).1; omega
  · have := (h3.lt k e).1; omega
  · have := (h4.lt k e).1; omega
theorem al_loose {W : World} {ga : Nat} {a : Al} {vp vg vd : Value} (h : AlIs W ga a vp vg vd) (b : Bool) : AlIs (W.setCell ⟨ga, 4, none⟩ (.bool b)) ga { a with loose := b } vp vg vd := by
  obtain ⟨h1, h2, h3, h4, h5⟩ := h
  have hk := kept_setCell W ga 4 (.bool b)
  refine ⟨heap_setCell_same _ ga 4 _ _ _ h1, own_kept h2 hk (fun k e => ?_), own_kept h3 hk (fun k e => ?_), own_kept h4 hk (fun k e => ?_), h5⟩
  · have := (h2.lt k e).1; omega
  · have := (h3.lt k e).1; omega
  · have := (h4.lt k e).1; omega
theorem kept_app {W w' : World} {o : Obj} {v : Value} (hg : (W.alloc o).grownBy w' v.ownBlock) : Kept W w' (fun k => v.ownBlock = some k) :=
  ⟨hg.os, hg.tape, hg.output, Nat.le_trans (by simp) hg.size, fun k hk hn => (hg.block k (by simp; omega) (fun e => hn e.symm)).trans (heap_alloc_old W o hk)⟩
theorem al_page {W w' : World} {ga b cap : Nat} {a : Al} {vp vg vd : Value} {p : Int} {o : Obj} (h : AlIs W ga a vp vg vd) (hown : w'.ownsRow (ga + 1) 3 1 (.slice (some ⟨b, 0, none⟩) (a.pages.length + 1) cap) (a.pages.length + 1) (ints a.pages ++ [.int .i64 p])) (hg : (W.alloc o).grownBy w' vg.ownBlock) (hb : vg.ownBlock = some b ∨ b = W.heap.size + 1) :
    AlIs (w'.setCell ⟨ga, 1, none⟩ (.slice (some ⟨b, 0, none⟩) (a.pages.length + 1) cap)) ga { a with pages := a.pages ++ [p] } vp (.slice (some ⟨b, 0, none⟩) (a.pages.length + 1) cap) vd ∧
    KeptC (AlF ga vp vg vd) W (w'.setCell ⟨ga, 1, none⟩ (.slice (some ⟨b, 0, none⟩) (a.pages.length + 1) cap)) ∧ (∀ k, AlF ga vp (.slice (some ⟨b, 0, none⟩) (a.pages.length + 1) cap) vd k → AlF ga vp vg vd k ∨ W.heap.size ≤ k) ∧
    w'.cell? ⟨ga, 1, none⟩ = some vg ∧ w'.frozen? ⟨ga, 1, none⟩ = false := by
  obtain ⟨h1, h2, h3, h4, h5⟩ := h
  have k1 : Kept W w' (fun k => vg.ownBlock = some k) := kept_app hg
  have hga : ga < W.heap.size := (Array.getElem?_eq_some_iff.1 h1).1
  have g1 := (k1.2.2.2.2 ga hga (fun e => by have := (h3.lt ga e).1; omega)).trans h1
  have k2 := kept_setCell w' ga 1 (.slice (some ⟨b, 0, none⟩) (a.pages.length + 1) cap)
  have hbe := hb
  refine ⟨⟨heap_setCell_same _ ga 1 _ _ _ g1, own_kept (own_kept h2 k1 (fun k e => one_type h2 h3 Tryz.pair_int k e)) k2 (fun k e => by have := (h2.lt k e).1; omega), ?_, own_kept (own_kept h4 k1 (fun k e e2 => h5 k e2 e)) k2 (fun k e => by have := (h4.lt k e).1; omega), fun k e => ?_⟩, ?_, fun k hk => ?_, (cell_at g1 1).1, (cell_at g1 1).2⟩
  · have ho := own_kept hown k2 (fun k e => by have := (hown.lt k e).1; omega)
    rw [ints_snoc] at ho
    rw [List.length_append, List.length_singleton]
    exact ho
  · injection e with e
    have e : b = k := e
    subst e
    rcases hbe with e2 | e2
    · exact h5 b e2
    · intro e3
      have := (h4.lt b e3).2
      omega
  · refine keptC_trans (C := AlF ga vp vg vd) (C' := fun k => k = ga) ⟨k1.1, k1.2.1, k1.2.2.1, k1.2.2.2.1, fun k hk hn => k1.2.2.2.2 k hk (fun e => hn (Or.inr (Or.inr (Or.inl e))))⟩ k2 (fun j e => Or.inl (Or.inl e))
  · rcases hk with hk | hk | hk | hk
    · exact Or.inl (Or.inl hk)
    · exact Or.inl (Or.inr (Or.inl hk))
    · injection hk with hk
      have hk : b = k := hk
      subst hk
      rcases hbe with e2 | e2
      · exact Or.inl (Or.inr (Or.inr (Or.inl e2)))
      · exact Or.inr (by omega)
    · exact Or.inl (Or.inr (Or.inr (Or.inr hk)))
theorem al_depth {W w' : World} {ga b cap : Nat} {a : Al} {vp vg vd : Value} {p : Int} {o : Obj} (h : AlIs W ga a vp vg vd) (hown : w'.ownsRow (ga + 1) 3 1 (.slice (some ⟨b, 0, none⟩) (a.depths.length + 1) cap) (a.depths.length + 1) (ints a.depths ++ [.int .i64 p])) (hg : (W.alloc o).grownBy w' vd.ownBlock) (hb : vd.ownBlock = some b ∨ b = W.heap.size + 1) :
    AlIs (w'.setCell ⟨ga, 2, none⟩ (.slice (some ⟨b, 0, none⟩) (a.depths.length + 1) cap)) ga { a with depths := a.depths ++ [p] } vp vg (.slice (some ⟨b, 0, none⟩) (a.depths.length + 1) cap) ∧
    KeptC (AlF ga vp vg vd) W (w'.setCell ⟨ga, 2, none⟩ (.slice (some ⟨b, 0, none⟩) (a.depths.length + 1) cap)) ∧ (∀ k, AlF ga vp vg (.slice (some ⟨b, 0, none⟩) (a.depths.length + 1) cap) k → AlF ga vp vg vd k ∨ W.heap.size ≤ k) ∧
    w'.cell? ⟨ga, 2, none⟩ = some vd ∧ w'.frozen? ⟨ga, 2, none⟩ = false := by
  obtain ⟨h1, h2, h3, h4, h5⟩ := h
  have k1 : Kept W w' (fun k => vd.ownBlock = some k) := kept_app hg
  have hga : ga < W.heap.size := (Array.getElem?_eq_some_iff.1 h1).1
  have g1 := (k1.2.2.2.2 ga hga (fun e => by have := (h4.lt ga e).1; omega)).trans h1
  have k2 := kept_setCell w' ga 2 (.slice (some ⟨b, 0, none⟩) (a.depths.length + 1) cap)
  have hbe := hb
  refine ⟨⟨heap_setCell_same _ ga 2 _ _ _ g1, own_kept (own_kept h2 k1 (fun k e => one_type h2 h4 Tryz.pair_int k e)) k2 (fun k e => by have := (h2.lt k e).1; omega), own_kept (own_kept h3 k1 (fun k e e2 => h5 k e e2)) k2 (fun k e => by have := (h3.lt k e).1; omega), ?_, fun k e e3 => ?_⟩, ?_, fun k hk => ?_, (cell_at g1 2).1, (cell_at g1 2).2⟩
  · have ho := own_kept hown k2 (fun k e => by have := (hown.lt k e).1; omega)
    rw [ints_snoc] at ho
    rw [List.length_append, List.length_singleton]
    exact ho
  · injection e3 with e3
    have e3 : b = k := e3
    subst e3
    rcases hbe with e2 | e2
    · exact h5 b e e2
    · have := (h3.lt b e).2
      omega
  · refine keptC_trans (C := AlF ga vp vg vd) (C' := fun k => k = ga) ⟨k1.1, k1.2.1, k1.2.2.1, k1.2.2.2.1, fun k hk hn => k1.2.2.2.2 k hk (fun e => hn (Or.inr (Or.inr (Or.inr e))))⟩ k2 (fun j e => Or.inl (Or.inl e))
  · rcases hk with hk | hk | hk | hk
    · exact Or.inl (Or.inl hk)
    · exact Or.inl (Or.inr (Or.inl hk))
    · exact Or.inl (Or.inr (Or.inr (Or.inl hk)))
    · injection hk with hk
      have hk : b = k := hk
      subst hk
      rcases hbe with e2 | e2
      · exact Or.inl (Or.inr (Or.inr (Or.inr e2)))
      · exact Or.inr (by omega)
theorem al_pair {W w' : World} {ga b cap : Nat} {a : Al} {vp vg vd : Value} {x y : ByteArray} {o : Obj} (h : AlIs W ga a vp vg vd) (hown : w'.ownsRow (ga + 1) 101 2 (.slice (some ⟨b, 0, none⟩) (a.pairs.length + 1) cap) (a.pairs.length + 1) (prs a.pairs ++ [.string x, .string y])) (hg : (W.alloc o).grownBy w' vp.ownBlock) (hb : vp.ownBlock = some b ∨ b = W.heap.size + 1) :
    AlIs (w'.setCell ⟨ga, 0, none⟩ (.slice (some ⟨b, 0, none⟩) (a.pairs.length + 1) cap)) ga { a with pairs := a.pairs ++ [(x, y)] } (.slice (some ⟨b, 0, none⟩) (a.pairs.length + 1) cap) vg vd ∧
    KeptC (AlF ga vp vg vd) W (w'.setCell ⟨ga, 0, none⟩ (.slice (some ⟨b, 0, none⟩) (a.pairs.length + 1) cap)) ∧ (∀ k, AlF ga (.slice (some ⟨b, 0, none⟩) (a.pairs.length + 1) cap) vg vd k → AlF ga vp vg vd k ∨ W.heap.size ≤ k) ∧
    w'.cell? ⟨ga, 0, none⟩ = some vp ∧ w'.frozen? ⟨ga, 0, none⟩ = false := by
  obtain ⟨h1, h2, h3, h4, h5⟩ := h
  have k1 : Kept W w' (fun k => vp.ownBlock = some k) := kept_app hg
  have hga : ga < W.heap.size := (Array.getElem?_eq_some_iff.1 h1).1
  have g1 := (k1.2.2.2.2 ga hga (fun e => by have := (h2.lt ga e).1; omega)).trans h1
  have k2 := kept_setCell w' ga 0 (.slice (some ⟨b, 0, none⟩) (a.pairs.length + 1) cap)
  have hbe := hb
  refine ⟨⟨heap_setCell_same _ ga 0 _ _ _ g1, ?_, own_kept (own_kept h3 k1 (fun k e => one_type h3 h2 (Ne.symm Tryz.pair_int) k e)) k2 (fun k e => by have := (h3.lt k e).1; omega), own_kept (own_kept h4 k1 (fun k e => one_type h4 h2 (Ne.symm Tryz.pair_int) k e)) k2 (fun k e => by have := (h4.lt k e).1; omega), h5⟩, ?_, fun k hk => ?_, (cell_at g1 0).1, (cell_at g1 0).2⟩
  · have ho := own_kept hown k2 (fun k e => by have := (hown.lt k e).1; omega)
    rw [prs_snoc] at ho
    rw [List.length_append, List.length_singleton]
    exact ho
  · refine keptC_trans (C := AlF ga vp vg vd) (C' := fun k => k = ga) ⟨k1.1, k1.2.1, k1.2.2.1, k1.2.2.2.1, fun k hk hn => k1.2.2.2.2 k hk (fun e => hn (Or.inr (Or.inl e)))⟩ k2 (fun j e => Or.inl (Or.inl e))
  · rcases hk with hk | hk | hk | hk
    · exact Or.inl (Or.inl hk)
    · injection hk with hk
      have hk : b = k := hk
      subst hk
      rcases hbe with e2 | e2
      · exact Or.inl (Or.inr (Or.inl e2))
      · exact Or.inr (by omega)
    · exact Or.inl (Or.inr (Or.inr (Or.inl hk)))
    · exact Or.inl (Or.inr (Or.inr (Or.inr hk)))
open Go.RowKit
theorem prs_cons (p : ByteArray × ByteArray) (l : List (ByteArray × ByteArray)) : prs (p :: l) = Value.string p.1 :: .string p.2 :: prs l := rfl
theorem prs_at (l : List (ByteArray × ByteArray)) : ∀ k (h : k < l.length), (prs l)[k * 2]? = some (.string l[k].1) ∧ (prs l)[k * 2 + 1]? = some (.string l[k].2) := by
  induction l with
  | nil => intro k h; simp at h
  | cons p l ih =>
    intro k h
    cases k with
    | zero => exact ⟨rfl, rfl⟩
    | succ k =>
      rw [prs_cons, show (k + 1) * 2 = k * 2 + 1 + 1 from by omega]
      exact ih k (by simpa using h)
theorem prs_set (l : List (ByteArray × ByteArray)) : ∀ (k : Nat) (p : ByteArray) (x : ByteArray), k < l.length → ((prs l).set (k * 2) (.string p)).set (k * 2 + 1) (.string x) = prs (l.set k (p, x)) := by
  induction l with
  | nil => intro k p x h; simp at h
  | cons q l ih =>
    intro k p x h
    cases k with
    | zero => rfl
    | succ k =>
      rw [prs_cons, show (k + 1) * 2 = k * 2 + 1 + 1 from by omega, List.set_cons_succ, List.set_cons_succ, List.set_cons_succ, List.set_cons_succ, ih k p x (by simpa using h), List.set_cons_succ, prs_cons]
set_option maxHeartbeats 2000000 in
set_option maxRecDepth 100000 in
theorem eqPair_any (p q t u : ByteArray) (w : World) :
    Calls Tryz.prog 54 #[.agg #[.string p, .string t], .agg #[.string q, .string u]] w fun e w' => e = .returned (.bool (decide ((p, t) = (q, u)))) ∧ Below w.heap.size w w' := by
  have hbB : ∀ o o' : Obj, Below w.heap.size w ((w.alloc o).alloc o') := fun o o' => ((Below.refl w.heap.size w).alloc (Nat.le_refl _) _).alloc (by simp) _
  have HB := hide hbB
  clear hbB
  have hbp := ba_beq p q
  have hbq := ba_beq t u
  by_cases hp : p = q
  · rw [decide_eq_true hp] at hbp
    by_cases ht : t = u
    · have HD : Hid (decide ((p, t) = (q, u)) = true) := hide (by subst ht hp; simp)
      rw [decide_eq_true ht] at hbq
      clear ht hp
      go_enter Tryz.func54, Tryz.ntmps54
      go_wp2
      go_ret
      rw [HD.out]
      exact ⟨rfl, HB.out _ _⟩
    · have HD : Hid (decide ((p, t) = (q, u)) = false) := hide (by simp [ht])
      rw [decide_eq_false ht] at hbq
      clear ht hp
      go_enter Tryz.func54, Tryz.ntmps54
      go_wp2
      go_ret
      rw [HD.out]
      exact ⟨rfl, HB.out _ _⟩
  · have HD : Hid (decide ((p, t) = (q, u)) = false) := hide (by simp [hp])
    rw [decide_eq_false hp] at hbp
    clear hp
    go_enter Tryz.func54, Tryz.ntmps54
    go_wp2
    go_ret
    rw [HD.out]
    exact ⟨rfl, HB.out _ _⟩
set_option maxHeartbeats 2000000 in
set_option maxRecDepth 100000 in
theorem eqPairS_row (l m : List (ByteArray × ByteArray)) (hl : l.length ≤ 9223372036854775807) (_hm : m.length ≤ 9223372036854775807) (v u : Value) (w : World) (hr : RowAt w 2 v l.length (prs l)) (hq : RowAt w 2 u m.length (prs m)) :
    Calls Tryz.prog 29 #[v, u] w fun e w' => e = .returned (.bool (decide (l = m))) ∧ Below w.heap.size w w' := by
  obtain ⟨-, a, cap, rfl, h2⟩ := hr
  obtain ⟨-, a', cap', rfl, h3⟩ := hq
  have HR := hide h2
  have HQ := hide h3
  clear h2 h3
  by_cases hne : l.length = m.length
  · have HN := hide hne
    rw [← hne]
    clear hne
    go_enter Tryz.func29, Tryz.ntmps29
    go_wp2
    go_loopg [5] l.length (fun q iv wr => ∃ k : Nat, k ≤ l.length ∧ iv = .int .i64 (k : Int) ∧ q + k = l.length ∧ Hid (l.take k = m.take k) ∧ Below w.heap.size w wr)
    case atStart => exact ⟨0, Nat.zero_le _, rfl, rfl, hide (by simp), Below.refl _ _⟩
    case round =>
      obtain ⟨k, hk, rfl, hg, HT, hb⟩ := hrel
      have HG := hide hg
      clear hg
      by_cases hlt : k < l.length
      · rcases HR.out with hn0 | ⟨b, off, rfl, hbl, hc⟩
        · omega
        · rcases HQ.out with hn0 | ⟨b', off', rfl, hbl', hc'⟩
          · have := HN.out; omega
          · have hltm : k < m.length := by have := HN.out; omega
            obtain ⟨p, x, hx⟩ : ∃ p x, (p, x) = l[k] := ⟨_, _, rfl⟩
            obtain ⟨q, y, hy⟩ : ∃ q y, (q, y) = m[k] := ⟨_, _, rfl⟩
            have hc0 : wr.cell? ⟨b, off + k * 2, none⟩ = some (.string p) := by rw [hb.cell (by exact hbl), hc (k * 2) (by omega), (prs_at l k hlt).1, ← hx]
            have hc1 : wr.cell? ⟨b, off + k * 2 + 1, none⟩ = some (.string x) := by rw [hb.cell (by exact hbl), Nat.add_assoc, hc (k * 2 + 1) (by omega), (prs_at l k hlt).2, ← hx]
            have hd0 : wr.cell? ⟨b', off' + k * 2, none⟩ = some (.string q) := by rw [hb.cell (by exact hbl'), hc' (k * 2) (by omega), (prs_at m k hltm).1, ← hy]
            have hd1 : wr.cell? ⟨b', off' + k * 2 + 1, none⟩ = some (.string y) := by rw [hb.cell (by exact hbl'), Nat.add_assoc, hc' (k * 2 + 1) (by omega), (prs_at m k hltm).2, ← hy]
            have HX := hide hx
            have HY := hide hy
            have hk0 : (0 : Int) ≤ (k : Int) := by omega
            have hk1 : (k : Int) < (l.length : Int) := by omega
            have hbw : b < wr.heap.size := Nat.lt_of_lt_of_le hbl hb.size
            have hbw' : b' < wr.heap.size := Nat.lt_of_lt_of_le hbl' hb.size
            clear hc hc' hx hy
            by_cases hxy : (p, x) = (q, y)
            · have HT2 : Hid (l.take (k + 1) = m.take (k + 1)) := hide (by rw [List.take_succ_eq_append_getElem hlt, List.take_succ_eq_append_getElem hltm, HT.out, ← HX.out, ← HY.out, hxy])
              have HC := hide (eqPair_any p q x y)
              rw [decide_eq_true hxy] at HC
              clear hxy
              go_wp2_with fail
              go_region_held3 (fun wx => wx.cell? ⟨b, off + k * 2, none⟩ = some (.string p) ∧ wx.cell? ⟨b, off + k * 2 + 1, none⟩ = some (.string x) ∧ wx.cell? ⟨b', off' + k * 2, none⟩ = some (.string q) ∧ wx.cell? ⟨b', off' + k * 2 + 1, none⟩ = some (.string y)) (first | exact ⟨hc0, hc1, hd0, hd1⟩ | exact hS2) ((go_at_call 54; refine (HC.out _).mono ?_; rintro e w2 ⟨rfl, hb2⟩; have hS2 : w2.cell? ⟨b, off + k * 2, none⟩ = some (.string p) ∧ w2.cell? ⟨b, off + k * 2 + 1, none⟩ = some (.string x) ∧ w2.cell? ⟨b', off' + k * 2, none⟩ = some (.string q) ∧ w2.cell? ⟨b', off' + k * 2 + 1, none⟩ = some (.string y) := ⟨(hb2.cell (by exact hbw)).trans hc0, (hb2.cell (by exact hbw)).trans hc1, (hb2.cell (by exact hbw')).trans hd0, (hb2.cell (by exact hbw')).trans hd1⟩))
              all_goals
                have hb3 : Below w.heap.size w w2 := hb.trans ((Below.refl _ _).drew.trans (hb2.mono hb.size))
                clear hb2
                go_wp2_with fail
                go_roundg (gk - 1)
                case measure => have := HG.out; omega
                case rel => exact ⟨k + 1, by omega, by go_num, by have := HG.out; omega, HT2, hb3⟩
            · have HD := hide (list_ne hlt hltm (by rw [← HX.out, ← HY.out]; exact hxy))
              have HC := hide (eqPair_any p q x y)
              rw [decide_eq_false hxy] at HC
              clear hxy
              go_wp2_with fail
              go_region_held3 (fun wx => wx.cell? ⟨b, off + k * 2, none⟩ = some (.string p) ∧ wx.cell? ⟨b, off + k * 2 + 1, none⟩ = some (.string x) ∧ wx.cell? ⟨b', off' + k * 2, none⟩ = some (.string q) ∧ wx.cell? ⟨b', off' + k * 2 + 1, none⟩ = some (.string y)) (first | exact ⟨hc0, hc1, hd0, hd1⟩ | exact hS2) ((go_at_call 54; refine (HC.out _).mono ?_; rintro e w2 ⟨rfl, hb2⟩; have hS2 : w2.cell? ⟨b, off + k * 2, none⟩ = some (.string p) ∧ w2.cell? ⟨b, off + k * 2 + 1, none⟩ = some (.string x) ∧ w2.cell? ⟨b', off' + k * 2, none⟩ = some (.string q) ∧ w2.cell? ⟨b', off' + k * 2 + 1, none⟩ = some (.string y) := ⟨(hb2.cell (by exact hbw)).trans hc0, (hb2.cell (by exact hbw)).trans hc1, (hb2.cell (by exact hbw')).trans hd0, (hb2.cell (by exact hbw')).trans hd1⟩))
              all_goals
                have hb3 : Below w.heap.size w w2 := hb.trans ((Below.refl _ _).drew.trans (hb2.mono hb.size))
                clear hb2
                go_wp2_with fail
                go_ret
                rw [HD.out]
                exact ⟨rfl, hb3⟩
      · have HD : Hid (decide (l = m) = true) := hide (decide_eq_true (by
          have h1 := HT.out
          rw [List.take_of_length_le (by omega), List.take_of_length_le (by have := HN.out; omega)] at h1
          exact h1))
        go_wp2
        go_ret
        rw [HD.out]
        exact ⟨rfl, hb⟩
  · have HD : Hid (decide (l = m) = false) := hide (decide_eq_false (fun e => hne (by rw [e])))
    have hq1 : ¬ ((l.length : Int) = (m.length : Int)) := by omega
    clear hne
    go_enter Tryz.func29, Tryz.ntmps29
    go_wp2
    go_ret
    rw [HD.out]
    exact ⟨rfl, Below.refl _ _⟩
open Go.RowKit
def pSum (l : List (ByteArray × ByteArray)) (k : Nat) : Nat := ((l.take k).map fun p => p.1.size + p.2.size).sum
theorem pSum_succ (l : List (ByteArray × ByteArray)) (k : Nat) (h : k < l.length) : pSum l (k + 1) = pSum l k + ((l[k]).1.size + (l[k]).2.size) := by
  unfold pSum
  rw [List.take_succ_eq_append_getElem h, List.map_append, List.sum_append]
  simp
theorem pSum_zero (l : List (ByteArray × ByteArray)) : pSum l 0 = 0 := by simp [pSum]
theorem pSum_mono (l : List (ByteArray × ByteArray)) (k : Nat) : pSum l k ≤ pSum l l.length := by
  unfold pSum
  conv => rhs; rw [List.take_length, ← List.take_append_drop k l, List.map_append, List.sum_append]
  omega
def pBulk (l : List (ByteArray × ByteArray)) : Nat := l.length + pSum l l.length
set_option maxHeartbeats 1000000 in
theorem szPair_any (p : ByteArray) (t : ByteArray) (ht : t.size ≤ 9223372036854775807) (hq : p.size ≤ 9223372036854775807) (left : Nat) (hleft : left ≤ 1048576) (w : World) :
    Calls Tryz.prog 39 #[.agg #[.string t, .string p], .int .i64 (left : Int)] w fun e w' => e = .returned (.int .i64 (szOut left (t.size + p.size))) ∧ Below w.heap.size w w' := by
  by_cases h1 : t.size ≤ left
  · by_cases h : t.size + p.size ≤ left
    · have HO := hide (szOut_yes h)
      go_enter Tryz.func39, Tryz.ntmps39
      go_wp2
      go_ret
      refine ⟨?_, (Below.refl _ _).alloc (Nat.le_refl _) _⟩
      rw [HO.out]
      simp
      omega
    · have HO := hide (szOut_no (Nat.lt_of_not_le h))
      go_enter Tryz.func39, Tryz.ntmps39
      go_wp2
      go_ret
      rw [HO.out]
      exact ⟨rfl, (Below.refl _ _).alloc (Nat.le_refl _) _⟩
  · have HO := hide (szOut_no (show left < t.size + p.size by omega))
    go_enter Tryz.func39, Tryz.ntmps39
    go_wp2
    go_ret
    rw [HO.out]
    exact ⟨rfl, (Below.refl _ _).alloc (Nat.le_refl _) _⟩
set_option maxHeartbeats 1000000 in
theorem szPairS_any (l : List (ByteArray × ByteArray)) (hl : l.length ≤ maxLen) (hs : ∀ p ∈ l, p.1.size ≤ maxLen ∧ p.2.size ≤ maxLen) (v : Value) (left : Nat) (hleft : left ≤ 1048576) (w : World) (hr : RowAt w 2 v l.length (prs l)) :
    Calls Tryz.prog 16 #[v, .int .i64 (left : Int)] w fun e w' => e = .returned (.int .i64 (szOut left (pBulk l))) ∧ Below w.heap.size w w' := by
  obtain ⟨-, a, cap, rfl, h2⟩ := hr
  have HR := hide h2
  have HS := hide hs
  clear h2 hs
  unfold maxLen at hl
  have HBk : Hid (pBulk l = l.length + pSum l l.length) := hide rfl
  by_cases h0 : left < l.length
  · have HO : Hid (szOut left (pBulk l) = -1) := hide (szOut_no (by rw [HBk.out]; omega))
    go_enter Tryz.func16, Tryz.ntmps16
    go_wp2
    go_ret
    rw [HO.out]
    exact ⟨rfl, Below.refl _ _⟩
  · go_enter Tryz.func16, Tryz.ntmps16
    go_wp2
    go_loopg [1, 5] l.length (fun g lv iv wr => ∃ k m : Nat, k ≤ l.length ∧ iv = .int .i64 (k : Int) ∧ g + k = l.length ∧ lv = .int .i64 (m : Int) ∧ m ≤ 1048576 ∧ Hid (m + l.length + pSum l k = left) ∧ Below w.heap.size w wr)
    case atStart => exact ⟨0, left - l.length, Nat.zero_le _, rfl, rfl, by go_num, by omega, hide (by rw [pSum_zero]; omega), Below.refl _ _⟩
    case round =>
      obtain ⟨k, m, hk, rfl, hg, rfl, hm, HM, hb⟩ := hrel
      have HG := hide hg
      clear hg
      by_cases hlt : k < l.length
      · rcases HR.out with hn0 | ⟨b, off, rfl, hbl, hc⟩
        · omega
        · obtain ⟨p, hp⟩ : ∃ p, p = l[k].2 := ⟨_, rfl⟩
          obtain ⟨x, hx⟩ : ∃ x, x = l[k].1 := ⟨_, rfl⟩
          have hc0 : wr.cell? ⟨b, off + k * 2, none⟩ = some (.string x) := by rw [hb.cell (by exact hbl), hc (k * 2) (by omega), (prs_at l k hlt).1, hx]
          have hc1 : wr.cell? ⟨b, off + k * 2 + 1, none⟩ = some (.string p) := by rw [hb.cell (by exact hbl), Nat.add_assoc, hc (k * 2 + 1) (by omega), (prs_at l k hlt).2, hp]
          obtain ⟨hxs, hps⟩ : x.size ≤ 9223372036854775807 ∧ p.size ≤ 9223372036854775807 := by
            have := HS.out l[k] (List.getElem_mem hlt)
            rw [← hx, ← hp] at this
            unfold maxLen at this
            exact this
          have hsum : pSum l (k + 1) = pSum l k + (x.size + p.size) := by rw [hx, hp]; exact pSum_succ l k hlt
          have HSum := hide hsum
          have hk0 : (0 : Int) ≤ (k : Int) := by omega
          have hk1 : (k : Int) < (l.length : Int) := by omega
          clear hc hx hp hsum
          by_cases hneg : m < x.size + p.size
          · have HO : Hid (szOut left (pBulk l) = -1) := hide (szOut_no (by have h1 := HBk.out; have h2 := HM.out; have h3 := HSum.out; have h4 := pSum_mono l (k + 1); omega))
            have HC := hide (szPair_any p x hxs hps m hm)
            rw [szOut_no hneg] at HC
            go_wp2_with fail
            refine (HC.out _).mono ?_
            rintro e w2 ⟨rfl, hb2⟩
            go_wp2_with fail
            go_ret
            rw [HO.out]
            exact ⟨rfl, hb.trans (hb2.mono hb.size)⟩
          · have HC := hide (szPair_any p x hxs hps m hm)
            rw [szOut_yes (by omega)] at HC
            obtain ⟨m', hm'⟩ : ∃ m', m' = m - (x.size + p.size) := ⟨_, rfl⟩
            rw [← hm'] at HC
            have hml : m' ≤ 1048576 := by omega
            have HM2 : Hid (m' + l.length + pSum l (k + 1) = left) := hide (by have h2 := HM.out; have h3 := HSum.out; omega)
            clear hm' hneg
            go_wp2_with fail
            refine (HC.out _).mono ?_
            rintro e w2 ⟨rfl, hb2⟩
            go_wp2_with fail
            go_roundg (gk - 1)
            case measure => have := HG.out; omega
            case rel => exact ⟨k + 1, m', by omega, by go_num, by have := HG.out; omega, rfl, hml, HM2, hb.trans (hb2.mono hb.size)⟩
      · have HO : Hid (szOut left (pBulk l) = (m : Int)) := hide (by
          have h1 := HBk.out
          have h2 := HM.out
          obtain rfl : k = l.length := by omega
          rw [szOut_yes (by omega)]
          congr 1
          omega)
        go_wp2
        go_ret
        rw [HO.out]
        exact ⟨rfl, hb⟩
set_option maxHeartbeats 400000 in
theorem toPair_any (p : ByteArray) (t : ByteArray) (w : World) :
    Calls Tryz.prog 46 #[.agg #[.string t, .string p]] w fun e w' => e = .returned (.agg #[.string t, .string p]) ∧ Below w.heap.size w w' := by
  go_enter Tryz.func46, Tryz.ntmps46
  go_wp2
  refine bodyPost_ret (v := .agg #[.string t, .string p]) (by simp [results, Tryz.results46, go_sem]) rfl ⟨rfl, ?_⟩
  exact (((Below.refl w.heap.size w).alloc (Nat.le_refl _) _).alloc (by simp) _).alloc (by simp; omega) _
theorem Tryz.infoPrT : (Tryz.prog.info? 101).map (fun i => (i.zero, i.size, i.bytes)) = some (some (.agg #[.string ⟨#[]⟩, .string ⟨#[]⟩]), 2, 32) := by kernel_rfl
theorem prs_made (n : Nat) : (madeCells #[Value.string ⟨#[]⟩, .string ⟨#[]⟩] (n * 2)).toList = prs (List.replicate n (⟨#[]⟩, ⟨#[]⟩)) := by
  have hlen : (prs (List.replicate n ((⟨#[]⟩ : ByteArray), (⟨#[]⟩ : ByteArray)))).length = n * 2 := by rw [prs_length, List.length_replicate]
  apply List.ext_getElem?
  intro i
  by_cases hi : i < n * 2
  · have h1 : (madeCells #[Value.string ⟨#[]⟩, .string ⟨#[]⟩] (n * 2)).toList[i]? = some (#[Value.string ⟨#[]⟩, .string ⟨#[]⟩][i % 2]!) := by
      simp [madeCells, hi]
    have hk : i / 2 < (List.replicate n ((⟨#[]⟩ : ByteArray), (⟨#[]⟩ : ByteArray))).length := by rw [List.length_replicate]; omega
    have h2 := prs_at _ (i / 2) hk
    rw [h1]
    rcases Nat.mod_two_eq_zero_or_one i with h | h
    · rw [h, show i = i / 2 * 2 from by omega, h2.1]; simp
    · rw [h, show i = i / 2 * 2 + 1 from by omega, h2.2]; simp
  · rw [List.getElem?_eq_none (by simp [madeCells]; omega), List.getElem?_eq_none (by rw [hlen]; omega)]
set_option maxHeartbeats 1000000 in
set_option maxRecDepth 100000 in
theorem toPairS_any (l : List (ByteArray × ByteArray)) (hl : l.length ≤ 1048576) (v : Value) (w : World) (hr : RowAt w 2 v l.length (prs l)) :
    Calls Tryz.prog 23 #[v] w fun e w' => ∃ v', e = .returned v' ∧ w'.ownsRow w.heap.size 101 2 v' l.length (prs l) ∧ Below w.heap.size w w' := by
  obtain ⟨i0, hi, hz0, hz1, hz2⟩ := info_parts Tryz.infoPrT
  obtain ⟨-, a, cap, rfl, h2⟩ := hr
  have HR := hide h2
  clear h2
  go_enter Tryz.func23, Tryz.ntmps23
  go_wp2_with (at_make; refine wpList_make_full _ rfl _ _ 56 rfl w.heap.size 101 i0 (.agg #[.string ⟨#[]⟩, .string ⟨#[]⟩]) 2 Tryz.underlying56 hi hz0 hz1 .i64 .i64 _ _ l.length rfl rfl rfl rfl (by rw [hz2]; omega) (by unfold maxLen; omega) (Nat.le_refl _) ?_)
  intro w1 hown1 hg1
  have hb1 : Below w.heap.size w w1 := (Below.refl _ _).grown hg1 (Nat.le_refl _) (fun k hk => by cases hk)
  have hown2 : w1.ownsRow w.heap.size 101 2 (.slice (some ⟨w.heap.size, 0, none⟩) l.length l.length) l.length (prs (List.replicate l.length (⟨#[]⟩, ⟨#[]⟩))) := own_n hown1 rfl (prs_made _)
  clear hg1 hown1
  go_wp2
  go_loopg [4] l.length (fun q iv wr => ∃ (k : Nat) (m : List (ByteArray × ByteArray)), k ≤ l.length ∧ iv = .int .i64 (k : Int) ∧ q + k = l.length ∧ wr.ownsRow w.heap.size 101 2 (.slice (some ⟨w.heap.size, 0, none⟩) l.length l.length) l.length (prs m) ∧ Hid (m.length = l.length ∧ m.take k = l.take k) ∧ Below w.heap.size w wr)
  case atStart => exact ⟨0, _, Nat.zero_le _, rfl, rfl, hown2, hide ⟨by simp, by simp⟩, hb1⟩
  case round =>
    obtain ⟨k, m, hk, rfl, hg, hown, HM, hb⟩ := hrel
    have HG := hide hg
    clear hg hown2 hb1
    by_cases hlt : k < l.length
    · rcases HR.out with hn0 | ⟨b, off, rfl, hbl, hc⟩
      · omega
      · obtain ⟨p, hp⟩ : ∃ p, p = l[k].2 := ⟨_, rfl⟩
        obtain ⟨x, hx⟩ : ∃ x, x = l[k].1 := ⟨_, rfl⟩
        have hc0 : wr.cell? ⟨b, off + k * 2, none⟩ = some (.string x) := by rw [hb.cell (by exact hbl), hc (k * 2) (by omega), (prs_at l k hlt).1, hx]
        have hc1 : wr.cell? ⟨b, off + k * 2 + 1, none⟩ = some (.string p) := by rw [hb.cell (by exact hbl), Nat.add_assoc, hc (k * 2 + 1) (by omega), (prs_at l k hlt).2, hp]
        have hkm : k < m.length := by rw [HM.out.1]; exact hlt
        have HM2 : Hid ((m.set k (x, p)).length = l.length ∧ (m.set k (x, p)).take (k + 1) = l.take (k + 1)) := hide (by
          refine ⟨by rw [List.length_set]; exact HM.out.1, ?_⟩
          rw [List.take_succ_eq_append_getElem (by rw [List.length_set]; exact hkm), List.take_succ_eq_append_getElem hlt, List.getElem_set_self, List.take_set_of_le (by omega), HM.out.2, hp, hx])
        obtain ⟨u0, u1, hu⟩ : ∃ (u0 : ByteArray) (u1 : ByteArray), (prs m)[k * 2]? = some (.string u0) ∧ (prs m)[k * 2 + 1]? = some (.string u1) := ⟨_, _, prs_at m k hkm⟩
        have HU := hide hu
        have HKm := hide hkm
        have hk0 : (0 : Int) ≤ (k : Int) := by omega
        have hk1 : (k : Int) < (l.length : Int) := by omega
        clear hx hp hc hkm hu
        go_wp2_with fail
        refine (toPair_any p x _).mono ?_
        rintro e w2 ⟨rfl, hb2⟩
        have hown2 := own_stays hown hb2
        have hd0 : w2.cell? ⟨w.heap.size, k * 2, none⟩ = some (.string u0) := by rw [hown2.cellAt (k * 2) (by omega), HU.out.1]
        have hd1 : w2.cell? ⟨w.heap.size, k * 2 + 1, none⟩ = some (.string u1) := by rw [hown2.cellAt (k * 2 + 1) (by omega), HU.out.2]
        have hf0 : w2.frozen? ⟨w.heap.size, k * 2, none⟩ = false := hown2.frozenAt _
        have hf1 : w2.frozen? ⟨w.heap.size, k * 2 + 1, none⟩ = false := hown2.frozenAt _
        have hb3 : Below w.heap.size w w2 := hb.trans (hb2.mono hb.size)
        have HO := hide (((hown2.stored (k * 2) (.string x)).1.stored (k * 2 + 1) (.string p)).1)
        rw [prs_set m k x p HKm.out] at HO
        clear hown hb2
        go_wp2_with fail
        go_roundg (gk - 1)
        case measure => have := HG.out; omega
        case rel => exact ⟨k + 1, m.set k (x, p), by omega, by go_num, by have := HG.out; omega, HO.out, HM2, (hb3.setCell (Nat.le_refl _) _).setCell (Nat.le_refl _) _⟩
    · have hml : m = l := by
        have h1 := HM.out.2
        rw [List.take_of_length_le (by rw [HM.out.1]; omega), List.take_of_length_le (by omega)] at h1
        exact h1
      subst hml
      go_wp2
      go_ret
      exact ⟨_, rfl, hown, hb⟩
end Go.Proofs.YtdbpbhemnnffeaaGreatDoor
