/-
  A work in a variable while GivePage of the specification turns it: its cells, its rows, what lies beside it. No function of the program.
-/
import Derived.Test.YtghjbfdbheokcaaGivePlain
import Derived.Test.YtghjbfdbheokcaaDiskRetN
namespace Go.Proofs.Ytghjbfdbheokcaa
open Go.RowKit

/-- the variable g of a work k, its rows u0 .. u5; the box and the answer's variable beside it -/
structure GV (w W : World) (a0 g B : Nat) (bx rs : Obj) (u0 u1 u3 u4 u5 : Value) (k : Wk) : Prop where
  var : W.heap[g]? = some (Obj.cells #[u0, u1, .int .i64 k.next, u3, u4, u5] 47)
  res : W.heap[a0 + 1]? = some rs
  box : W.heap[a0]? = some bx
  low : Below w.heap.size w W
  ha : a0 = w.heap.size
  hB : a0 + 2 ≤ B
  hg : a0 + 2 ≤ g
  hBW : B ≤ W.heap.size
  nw : WorkNw W B (.agg #[u0, u1, .int .i64 k.next, u3, u4, u5]) k

theorem gv_away {w W : World} {a0 g B : Nat} {bx rs : Obj} {u0 u1 u3 u4 u5 : Value} {k : Wk} (h : GV w W a0 g B bx rs u0 u1 u3 u4 u5 k) : ∀ j, workBlocks (.agg #[u0, u1, .int .i64 k.next, u3, u4, u5]) j → j ≠ g ∧ j ≠ a0 ∧ j ≠ a0 + 1 ∧ B ≤ j ∧ j < W.heap.size := fun j hj => by
  have hl := workOwn_lt (nw_own h.nw) j hj
  have hB := h.hB
  refine ⟨fun e => ?_, by omega, by omega, hl.1, hl.2⟩
  subst e
  obtain ⟨vp, vl, n, vu, vg, vf, e, hj⟩ := hj
  obtain ⟨rfl, rfl, rfl, rfl, rfl, rfl⟩ := agg6 e
  obtain ⟨hd, -, h3, h4, h5, -⟩ := nw_rows h.nw
  obtain ⟨vp', vl', e, d1, d2⟩ := hd
  injection e with e
  injection e with e
  injection e with e1 e
  injection e with e2
  subst e1 e2
  rcases hj with ⟨vp2, vl2, e, hj⟩ | hj | hj | hj
  · injection e with e
    injection e with e
    injection e with e1 e
    injection e with e2
    subst e1 e2
    rcases hj with hj | hj
    · exact own_ne_type d1 h.var (by decide) hj
    · exact own_ne_type d2 h.var (by decide) hj
  · exact own_ne_type h3 h.var (by decide) hj
  · exact own_ne_type h4 h.var (by decide) hj
  · exact own_ne_type h5 h.var (by decide) hj

theorem gv_below {w W W' : World} {a0 g B : Nat} {bx rs : Obj} {u0 u1 u3 u4 u5 : Value} {k : Wk} (h : GV w W a0 g B bx rs u0 u1 u3 u4 u5 k) (hb : Below W.heap.size W W') : GV w W' a0 g B bx rs u0 u1 u3 u4 u5 k :=
  ⟨staysW h.var hb, staysW h.res hb, staysW h.box hb, h.low.trans (hb.mono h.low.size), h.ha, h.hB, h.hg, Nat.le_trans h.hBW hb.size, nw_below h.nw hb⟩

/-- the row of the usable ones is another -/
theorem gv_us {w W W' : World} {a0 g B e b c : Nat} {bx rs : Obj} {u0 u1 u3 u4 u5 : Value} {k : Wk} {l : List Int} (h : GV w W a0 g B bx rs u0 u1 u3 u4 u5 k) (he : W.heap.size ≤ e) (hgr : (W.alloc (Obj.cells #[] 3)).grownBy W' (some e)) (hown : W'.ownsRow e 3 1 (.slice (some ⟨b, 0, none⟩) l.length c) l.length (ints l)) :
    W'.heap[g]? = some (Obj.cells #[u0, u1, .int .i64 k.next, u3, u4, u5] 47) ∧ GV w (W'.setCell ⟨g, 3, none⟩ (.slice (some ⟨b, 0, none⟩) l.length c)) a0 g B bx rs u0 u1 (.slice (some ⟨b, 0, none⟩) l.length c) u4 u5 { k with us := l } := by
  have hb1 : Below W.heap.size W (W.alloc (Obj.cells #[] 3)) := (Below.refl _ _).alloc (Nat.le_refl _) _
  have hb2 : Below W.heap.size W W' := ⟨hgr.os.trans hb1.os, hgr.tape.trans hb1.tape, hgr.output.trans hb1.output, Nat.le_trans hb1.size hgr.size, fun j hj => (hgr.block j (Nat.lt_of_lt_of_le hj hb1.size) (by intro e'; injection e' with e'; omega)).trans (hb1.block j hj)⟩
  have h2 := gv_below h hb2
  have aw := gv_away h
  have hk : Kept W' (W'.setCell ⟨g, 3, none⟩ (.slice (some ⟨b, 0, none⟩) l.length c)) (fun j => j = g) := kept_setCell _ _ _ _
  have hgl : g < W.heap.size := (Array.getElem?_eq_some_iff.1 h.var).1
  have hal : a0 + 1 < W.heap.size := (Array.getElem?_eq_some_iff.1 h.res).1
  have hbl : a0 < W.heap.size := (Array.getElem?_eq_some_iff.1 h.box).1
  have hg2 := h.hg
  obtain ⟨hd, -, h3, h4, h5, n1, n2, n3⟩ := nw_rows h2.nw
  have hbe : ∀ j, (Value.slice (some (⟨b, 0, none⟩ : Addr)) l.length c).ownBlock = some j → W.heap.size ≤ j := fun j e' => Nat.le_trans he (hown.lt j e').1
  refine ⟨h2.var, heap_setCell_same W' g 3 _ _ _ h2.var, (hk.2.2.2.2 _ (Nat.lt_of_lt_of_le hal hb2.size) (by omega)).trans h2.res, (hk.2.2.2.2 _ (Nat.lt_of_lt_of_le hbl hb2.size) (by omega)).trans h2.box, h2.low.trans (below_of_kept hk h2.low.size (fun j e' => by have := h.ha; omega)), h.ha, h.hB, h.hg, Nat.le_trans h2.hBW hk.2.2.2.1, ⟨u0, u1, _, u4, u5, rfl, ?_, ?_, ?_, ?_, ?_, ?_, n3⟩⟩
  · exact diskOwn_kept hd hk (fun j e' => (aw j ⟨_, _, _, _, _, _, rfl, Or.inl e'⟩).1)
  · exact own_kept (own_down hown (Nat.le_trans h.hBW he)) hk (fun j e' h' => by have := hbe j e'; omega)
  · exact own_kept h4 hk (fun j e' => (aw j ⟨_, _, _, _, _, _, rfl, Or.inr (Or.inr (Or.inl e'))⟩).1)
  · exact own_kept h5 hk (fun j e' => (aw j ⟨_, _, _, _, _, _, rfl, Or.inr (Or.inr (Or.inr e'))⟩).1)
  · intro j e1 e2
    have := hbe j e1
    have := (aw j ⟨_, _, _, _, _, _, rfl, Or.inr (Or.inr (Or.inl e2))⟩).2.2.2.2
    omega
  · intro j e1 e2
    have := hbe j e1
    have := (aw j ⟨_, _, _, _, _, _, rfl, Or.inr (Or.inr (Or.inr e2))⟩).2.2.2.2
    omega

/-- a page goes behind the fresh ones -/
theorem gv_fs {w W W' : World} {a0 g B b d : Nat} {bx rs : Obj} {u0 u1 u3 u4 u5 : Value} {k : Wk} {p : Int} (h : GV w W a0 g B bx rs u0 u1 u3 u4 u5 k) (hgr : (W.alloc (Obj.cells #[.int .i64 p] 3)).grownBy W' u5.ownBlock) (hown : W'.ownsRow B 3 1 (.slice (some ⟨b, 0, none⟩) (k.fs.length + 1) d) (k.fs.length + 1) (ints k.fs ++ [.int .i64 p])) (hb : u5.ownBlock = some b ∨ b = W.heap.size + 1) :
    W'.heap[g]? = some (Obj.cells #[u0, u1, .int .i64 k.next, u3, u4, u5] 47) ∧ GV w (W'.setCell ⟨g, 5, none⟩ (.slice (some ⟨b, 0, none⟩) (k.fs.length + 1) d)) a0 g B bx rs u0 u1 u3 u4 (.slice (some ⟨b, 0, none⟩) (k.fs.length + 1) d) { k with fs := k.fs ++ [p] } := by
  have hb1 : Below W.heap.size W (W.alloc (Obj.cells #[.int .i64 p] 3)) := (Below.refl _ _).alloc (Nat.le_refl _) _
  have aw := gv_away h
  obtain ⟨hd, -, h3, h4, h5, n1, n2, n3⟩ := nw_rows h.nw
  have hk0 : Kept W W' (fun j => u5.ownBlock = some j) := ⟨hgr.os.trans hb1.os, hgr.tape.trans hb1.tape, hgr.output.trans hb1.output, Nat.le_trans hb1.size hgr.size, fun j hj hn => (hgr.block j (Nat.lt_of_lt_of_le hj hb1.size) (fun e => hn e.symm)).trans (hb1.block j hj)⟩
  have hk1 : Kept W' (W'.setCell ⟨g, 5, none⟩ (.slice (some ⟨b, 0, none⟩) (k.fs.length + 1) d)) (fun j => j = g) := kept_setCell _ _ _ _
  have hk : Kept W (W'.setCell ⟨g, 5, none⟩ (.slice (some ⟨b, 0, none⟩) (k.fs.length + 1) d)) (fun j => j = g ∨ u5.ownBlock = some j) := kept_trans (kept_mono hk0 (fun j _ e => Or.inr e)) hk1 (fun j _ e => Or.inl e)
  have hgl : g < W.heap.size := (Array.getElem?_eq_some_iff.1 h.var).1
  have hal : a0 + 1 < W.heap.size := (Array.getElem?_eq_some_iff.1 h.res).1
  have hbl : a0 < W.heap.size := (Array.getElem?_eq_some_iff.1 h.box).1
  have w5 : ∀ j, u5.ownBlock = some j → j ≠ g ∧ j ≠ a0 ∧ j ≠ a0 + 1 ∧ B ≤ j ∧ j < W.heap.size := fun j e => aw j ⟨_, _, _, _, _, _, rfl, Or.inr (Or.inr (Or.inr e))⟩
  have hv : W'.heap[g]? = some (Obj.cells #[u0, u1, .int .i64 k.next, u3, u4, u5] 47) := (hk0.2.2.2.2 g hgl (fun e => (w5 g e).1 rfl)).trans h.var
  have hg2 := h.hg
  have hB := h.hB
  refine ⟨hv, heap_setCell_same W' g 5 _ _ _ hv, (hk.2.2.2.2 _ hal (fun e => by rcases e with e | e; omega; exact (w5 _ e).2.2.1 rfl)).trans h.res, (hk.2.2.2.2 _ hbl (fun e => by rcases e with e | e; omega; exact (w5 _ e).2.1 rfl)).trans h.box, h.low.trans (below_of_kept hk h.low.size (fun j e => by have := h.ha; rcases e with e | e; omega; have := (w5 j e).2.2.2.1; omega)), h.ha, h.hB, h.hg, Nat.le_trans h.hBW hk.2.2.2.1, ⟨u0, u1, u3, u4, _, rfl, ?_, ?_, ?_, ?_, n1, ?_, ?_⟩⟩
  · exact diskOwn_kept hd hk (fun j e h' => by rcases h' with h' | h'; exact (aw j ⟨_, _, _, _, _, _, rfl, Or.inl e⟩).1 h'; exact disk_int_apart hd (intOwn_of_own h5) j e h')
  · exact own_kept h3 hk (fun j e h' => by rcases h' with h' | h'; exact (aw j ⟨_, _, _, _, _, _, rfl, Or.inr (Or.inl e)⟩).1 h'; exact n2 j e h')
  · exact own_kept h4 hk (fun j e h' => by rcases h' with h' | h'; exact (aw j ⟨_, _, _, _, _, _, rfl, Or.inr (Or.inr (Or.inl e))⟩).1 h'; exact n3 j e h')
  · have e1 : (k.fs ++ [p]).length = k.fs.length + 1 := by simp
    have e2 : ints (k.fs ++ [p]) = ints k.fs ++ [.int .i64 p] := by simp [ints]
    show World.ownsRow _ B _ 1 _ (k.fs ++ [p]).length (ints (k.fs ++ [p]))
    rw [e1, e2]
    refine own_kept hown hk1 (fun j e h' => ?_)
    injection e with e
    have e : b = j := e
    rcases hb with hb | hb
    · exact (w5 b hb).1 (by omega)
    · omega
  · intro j e1 e2
    injection e2 with e2
    have e2 : b = j := e2
    rcases hb with hb | hb
    · exact n2 j e1 (by rw [← e2]; exact hb)
    · have := (aw j ⟨_, _, _, _, _, _, rfl, Or.inr (Or.inl e1)⟩).2.2.2.2; omega
  · intro j e1 e2
    injection e2 with e2
    have e2 : b = j := e2
    rcases hb with hb | hb
    · exact n3 j e1 (by rw [← e2]; exact hb)
    · have := (aw j ⟨_, _, _, _, _, _, rfl, Or.inr (Or.inr (Or.inl e1))⟩).2.2.2.2; omega

theorem nfrow {W : World} {B nf c5 : Nat} {a5 : Option Addr} {l : List Int} (hn : nf = l.length) (h : W.ownsRow B 3 1 (.slice a5 nf c5) l.length (ints l)) : W.ownsRow B 3 1 (.slice a5 nf c5) nf (ints l) := by
  subst hn; exact h

theorem gv_fs_kept {w W W' : World} {a0 g B : Nat} {bx rs : Obj} {u0 u1 u3 u4 u5 : Value} {k : Wk} {o : Obj} (h : GV w W a0 g B bx rs u0 u1 u3 u4 u5 k) (hgr : (W.alloc o).grownBy W' u5.ownBlock) : Kept W W' (fun j => u5.ownBlock = some j) ∧ ∀ j, u5.ownBlock = some j → j ≠ a0 ∧ B ≤ j := by
  have hb1 : Below W.heap.size W (W.alloc o) := (Below.refl _ _).alloc (Nat.le_refl _) _
  refine ⟨⟨hgr.os.trans hb1.os, hgr.tape.trans hb1.tape, hgr.output.trans hb1.output, Nat.le_trans hb1.size hgr.size, fun j hj hn => (hgr.block j (Nat.lt_of_lt_of_le hj hb1.size) (fun e => hn e.symm)).trans (hb1.block j hj)⟩, fun j e => ?_⟩
  have := gv_away h j ⟨_, _, _, _, _, _, rfl, Or.inr (Or.inr (Or.inr e))⟩
  exact ⟨this.2.1, this.2.2.2.1⟩

theorem gv_fs_box {w W W' : World} {a0 g B : Nat} {bx rs : Obj} {u0 u1 u3 u4 u5 : Value} {k : Wk} {o : Obj} (h : GV w W a0 g B bx rs u0 u1 u3 u4 u5 k) (hgr : (W.alloc o).grownBy W' u5.ownBlock) : W'.heap[a0]? = some bx := by
  obtain ⟨hk, hn⟩ := gv_fs_kept h hgr
  exact (hk.2.2.2.2 a0 (Array.getElem?_eq_some_iff.1 h.box).1 (fun e => (hn a0 e).1 rfl)).trans h.box

theorem gv_fs_low {w W W' : World} {a0 g B : Nat} {bx rs : Obj} {u0 u1 u3 u4 u5 : Value} {k : Wk} {o : Obj} (h : GV w W a0 g B bx rs u0 u1 u3 u4 u5 k) (hgr : (W.alloc o).grownBy W' u5.ownBlock) : Below w.heap.size w W' := by
  obtain ⟨hk, hn⟩ := gv_fs_kept h hgr
  exact h.low.trans (below_of_kept hk h.low.size (fun j e => by have := (hn j e).2; have := h.hB; have := h.ha; omega))

theorem keep6 {W : World} {g a : Nat} {o : Obj} {u0 u1 u2 u3 u4 u5 : Value} (h : W.heap[g]? = some o) (hne : g ≠ a) : (set6 W a u0 u1 u2 u3 u4 u5).heap[g]? = some o :=
  ((set6_kept W a u0 u1 u2 u3 u4 u5).2.2.2.2 g (Array.getElem?_eq_some_iff.1 h).1 hne).trans h

theorem s8 {W : World} {g a0 : Nat} {c0 c1 c2 c3 c4 c5 d0 d1 d2 d3 d4 d5 : Value} {t t' : TypeId} (h : W.heap[g]? = some (Obj.cells #[c0, c1, c2, c3, c4, c5] t)) (hb : W.heap[a0]? = some (Obj.cells #[d0, d1, d2, d3, d4, d5] t')) :
    W.cell? ⟨g, 0, none⟩ = some c0 ∧ W.cell? ⟨g, 1, none⟩ = some c1 ∧ W.cell? ⟨g, 2, none⟩ = some c2 ∧ W.cell? ⟨g, 3, none⟩ = some c3 ∧ W.cell? ⟨g, 4, none⟩ = some c4 ∧ W.cell? ⟨g, 5, none⟩ = some c5 ∧ W.cell? ⟨a0, 2, none⟩ = some d2 ∧ W.cell? ⟨a0, 3, none⟩ = some d3 :=
  ⟨(cell_at h 0).1, (cell_at h 1).1, (cell_at h 2).1, (cell_at h 3).1, (cell_at h 4).1, (cell_at h 5).1, (cell_at hb 2).1, (cell_at hb 3).1⟩

theorem s3 {W : World} {a0 b off : Nat} {d0 d1 d2 d3 d4 d5 x : Value} {t' : TypeId} (hb : W.heap[a0]? = some (Obj.cells #[d0, d1, d2, d3, d4, d5] t')) (hr : W.cell? ⟨b, off, none⟩ = some x) : W.cell? ⟨a0, 3, none⟩ = some d3 ∧ W.cell? ⟨b, off, none⟩ = some x := ⟨(cell_at hb 3).1, hr⟩

theorem wpList_copy {P : Program} (w : World) {ops : Array Oper} {rest : List Oper} {o : Oper} {a : Act} {Q : Exit → Act → World → Prop} (hgd : o.guard = none) (s x : Operand) (t : TypeId) (ho : o.op = .call { callee := .builtin .append, args := #[s, x], argTypes := #[t, t] })
    (e : TypeId) (i : TypeInfo) (z : Value) (ht : P.underlying t = some (.slice e)) (hi : P.info? e = some i) (hz : i.zero = some z) (hsize : i.size = 1) (hby : i.bytes = 8) (hzs : z.cells.size = 1)
    (g : Nat) (hs : a.eval s = .slice (some ⟨g, 0, none⟩) 0 0) (hge : w.heap[g]? = some (.cells #[] e (0, 0))) (u : Value) (m : Nat) (ys : List Value) (hx : a.eval x = u) (hrow : RowAt w 1 u m ys) (h1 : ∀ y ∈ ys, y.oneCell' = true) (hm : m ≤ 2000000)
    (h : ∀ b c w', w'.ownsRow g e 1 (.slice (some ⟨b, 0, none⟩) m c) m ys → w.grownBy w' (some g) → (b = g ∨ b = w.heap.size) → wpList P ops Q rest (a.put o.dst (.slice (some ⟨b, 0, none⟩) m c)) w') : wpList P ops Q (o :: rest) a w :=
  wpList_plain hgd fun _ hK => by
    obtain ⟨b, c, w', hr, q2, q3, q4⟩ := run_copy (P := P) w t o.type e i z ht hi hz hsize hby hzs g hge u m ys hrow h1 hm
    unfold Oper.wp execOp
    simp only [ho, resolve, invoke, builtin, Sem.run_bind, Sem.run_pure, Result.andThen_ok, List.map_toArray, List.map_cons, List.map_nil, hs, hx, hr]
    exact hK _ _ (h b c w' q2 q3 q4)

/-- the row without its first one, as a slice from 1 on tells it -/
theorem row_tail {w : World} {b off n c c' : Nat} {x : Int} {l : List Int} {y : Option Addr} (hn : n = l.length + 1) (h : RowAt w 1 (.slice (some ⟨b, off, none⟩) n c) n (ints (x :: l))) (hy : y = some ⟨b, off + 1, none⟩ ∨ l.length = 0) : RowAt w 1 (.slice y (n - 1) c') (n - 1) (ints l) := by
  obtain ⟨-, a, cap, e, h2⟩ := h
  injection e with e1 e2 e3
  subst e1
  refine ⟨by rw [ints_length]; omega, _, _, rfl, ?_⟩
  rcases hy with rfl | hy
  · rcases h2 with h0 | ⟨b', off', e, hlt, hc⟩
    · omega
    · injection e with e
      injection e with e1 e2
      subst e1 e2
      refine Or.inr ⟨b, off + 1, rfl, hlt, fun j hj => ?_⟩
      have := hc (j + 1) (by omega)
      rw [Nat.add_assoc, Nat.add_comm 1 j, this]
      simp [ints]
  · exact Or.inl (by omega)
end Go.Proofs.Ytghjbfdbheokcaa
