/-
  A disk and a work among things that lie side by side. No function of the program.
-/
import Derived.Test.YtbokjfjdjgopeaaDoorSepApp
import Derived.Test.YtbokjfjdjgopeaaDoorWorkCp
namespace Go.Proofs.YtbokjfjdjgopeaaDoor
open Go.RowKit

def diskA (B : Nat) (v : Value) (ps : List ByteArray) (ls : List (Int × ByteArray)) : Ast := ⟨diskBlocks v, fun W => DiskOwn W B v ps ls, fun W W' h hk => by
  obtain ⟨vp, vl, rfl, h1, h2⟩ := h
  exact ⟨vp, vl, rfl, (rowA B 9 1 vp ps.length (strs ps)).loc W W' h1 (fun k e => hk k ⟨_, _, rfl, Or.inl e⟩), (rowA B 52 2 vl ls.length (puts ls)).loc W W' h2 (fun k e => hk k ⟨_, _, rfl, Or.inr e⟩)⟩⟩

/-- the rows of a work -/
def workL (B : Nat) (u0 u1 u3 u4 u5 : Value) (k : Wk) : List Ast := [diskA B (.agg #[u0, u1]) k.ps k.ls, rowA B 3 1 u3 k.us.length (ints k.us), rowA B 3 1 u4 k.gs.length (ints k.gs), rowA B 3 1 u5 k.fs.length (ints k.fs)]

theorem nw_sep {W : World} {B : Nat} {u0 u1 u2 u3 u4 u5 : Value} {k : Wk} (h : WorkNw W B (.agg #[u0, u1, u2, u3, u4, u5]) k) : u2 = .int .i64 k.next ∧ Sep B W (workL B u0 u1 u3 u4 u5 k) := by
  have hlt := workOwn_lt (nw_own h)
  obtain ⟨vp, vl, vu, vg, vf, e, h1, h2, h3, h4, n1, n2, n3⟩ := h
  obtain ⟨rfl, rfl, rfl, rfl, rfl, rfl⟩ := agg6 e
  refine ⟨rfl, ?_⟩
  refine sep_cons.2 ⟨⟨h1, fun j hj => hlt j ⟨_, _, _, _, _, _, rfl, Or.inl hj⟩⟩, fun A hA j hj hj' => ?_, ?_⟩
  · rcases List.mem_cons.1 hA with rfl | hA
    · exact disk_int_apart h1 (intOwn_of_own h2) j hj hj'
    rcases List.mem_cons.1 hA with rfl | hA
    · exact disk_int_apart h1 (intOwn_of_own h3) j hj hj'
    rcases List.mem_cons.1 hA with rfl | hA
    · exact disk_int_apart h1 (intOwn_of_own h4) j hj hj'
    · cases hA
  refine sep_cons.2 ⟨⟨h2, fun j hj => hlt j ⟨_, _, _, _, _, _, rfl, Or.inr (Or.inl hj)⟩⟩, fun A hA j hj hj' => ?_, ?_⟩
  · rcases List.mem_cons.1 hA with rfl | hA
    · exact n1 j hj hj'
    rcases List.mem_cons.1 hA with rfl | hA
    · exact n2 j hj hj'
    · cases hA
  refine sep_cons.2 ⟨⟨h3, fun j hj => hlt j ⟨_, _, _, _, _, _, rfl, Or.inr (Or.inr (Or.inl hj))⟩⟩, fun A hA j hj hj' => ?_, ?_⟩
  · rcases List.mem_cons.1 hA with rfl | hA
    · exact n3 j hj hj'
    · cases hA
  exact sep_cons.2 ⟨⟨h4, fun j hj => hlt j ⟨_, _, _, _, _, _, rfl, Or.inr (Or.inr (Or.inr hj))⟩⟩, fun A hA => (by cases hA), sep_nil _ _⟩

theorem sep_nw {W : World} {B B' : Nat} {u0 u1 u3 u4 u5 : Value} {k : Wk} (h : Sep B W (workL B' u0 u1 u3 u4 u5 k)) : WorkNw W B' (.agg #[u0, u1, .int .i64 k.next, u3, u4, u5]) k :=
  ⟨u0, u1, u3, u4, u5, rfl, sep_get h 0 rfl, sep_get h 1 rfl, sep_get h 2 rfl, sep_get h 3 rfl, fun j => sep_apart h 1 2 rfl rfl (by decide) j, fun j => sep_apart h 1 3 rfl rfl (by decide) j, fun j => sep_apart h 2 3 rfl rfl (by decide) j⟩

/-- the rows of a work, their lengths as letters -/
abbrev workN (B : Nat) (u0 u1 u3 u4 u5 : Value) (k : Wk) (nu ng nf : Nat) : List Ast := [diskA B (.agg #[u0, u1]) k.ps k.ls, rowA B 3 1 u3 nu (ints k.us), rowA B 3 1 u4 ng (ints k.gs), rowA B 3 1 u5 nf (ints k.fs)]

theorem row_n {W : World} {B e n : Nat} {v : Value} {l : List Int} (h : W.ownsRow B e 1 v n (ints l)) : n = l.length := by
  have := h.1
  rw [ints_length] at this
  omega

theorem sep_nwN {W : World} {B B' : Nat} {u0 u1 u3 u4 u5 : Value} {k : Wk} {nu ng nf : Nat} (h : Sep B W (workN B' u0 u1 u3 u4 u5 k nu ng nf)) : WorkNw W B' (.agg #[u0, u1, .int .i64 k.next, u3, u4, u5]) k := by
  have h1 : W.ownsRow B' 3 1 u3 nu (ints k.us) := sep_get h 1 rfl
  have h2 : W.ownsRow B' 3 1 u4 ng (ints k.gs) := sep_get h 2 rfl
  have h3 : W.ownsRow B' 3 1 u5 nf (ints k.fs) := sep_get h 3 rfl
  exact ⟨u0, u1, u3, u4, u5, rfl, sep_get h 0 rfl, by rw [← row_n h1]; exact h1, by rw [← row_n h2]; exact h2, by rw [← row_n h3]; exact h3, fun j => sep_apart h 1 2 rfl rfl (by decide) j, fun j => sep_apart h 1 3 rfl rfl (by decide) j, fun j => sep_apart h 2 3 rfl rfl (by decide) j⟩

/-- an answer that is a work: it is laid into the answer's variable -/
theorem ret_sep {w wr : World} {b0 a1 B : Nat} {r0 r1 r2 r3 r4 r5 u0 u1 u3 u4 u5 : Value} {t : TypeId} {k : Wk} {nu ng nf : Nat} {l : List Ast} (h : Sep b0 wr l) (r : Nat) (hr : l[r]? = some (cellA a1 (Obj.cells #[r0, r1, r2, r3, r4, r5] t))) (hs : (workN B u0 u1 u3 u4 u5 k nu ng nf).Sublist l) (hB : a1 < B) (hw : w.heap.size ≤ a1) (hb : Below w.heap.size w wr) :
    (set6 wr a1 u0 u1 (.int .i64 k.next) u3 u4 u5).heap[a1]? = some (Obj.cells #[u0, u1, .int .i64 k.next, u3, u4, u5] t) ∧ WorkNw (set6 wr a1 u0 u1 (.int .i64 k.next) u3 u4 u5) w.heap.size (.agg #[u0, u1, .int .i64 k.next, u3, u4, u5]) k ∧ Below w.heap.size w (set6 wr a1 u0 u1 (.int .i64 k.next) u3 u4 u5) :=
  ret_nw (sep_get h r hr) (sep_nwN (sep_take h _ hs)) hB hw hb

theorem rowat_some {w : World} {n c : Nat} {a : Option Addr} {xs : List Value} (h : RowAt w 1 (.slice a n c) n xs) (hn : 0 < n) : ∃ b off, a = some ⟨b, off, none⟩ := by
  obtain ⟨-, a', cap, e, h⟩ := h
  injection e with e1
  rcases h with h0 | ⟨b, off, e, -⟩
  · omega
  · exact ⟨b, off, by rw [e1, e]⟩

theorem rowat_cell {w wx : World} {n c b off : Nat} {l : List Int} (h : RowAt w 1 (.slice (some ⟨b, off, none⟩) n c) n (ints l)) (hb : Below w.heap.size w wx) (i : Nat) (hi : i < n) (hn : n = l.length) : wx.cell? ⟨b, off + i, none⟩ = some (.int .i64 (l.getD i 0)) := by
  obtain ⟨-, a', cap, e, h⟩ := h
  injection e with e1 e2 e3
  subst e1
  rcases h with h0 | ⟨b', off', e, hlt, hc⟩
  · omega
  · injection e with e
    injection e with e e'
    subst e e'
    rw [hb.cell (by exact hlt), hc i (by omega), ints_at l i (by omega)]
    simp [List.getD_eq_getElem?_getD, show i < l.length by omega]

theorem ints_snocW (l : List Int) (x : Int) : ints l ++ [.int .i64 x] = ints (l ++ [x]) := by simp [ints]

/-- an append of a number -/
theorem wpList_int1 {ops : Array Oper} {rest : List Oper} {o : Oper} {a : Act} {Q : Exit → Act → World → Prop} {B : Nat} {W : World} {l : List Ast} (h : Sep B W l) (i : Nat) {B' n : Nat} {v : Value} {xs : List Int} (hi : l[i]? = some (rowA B' 3 1 v n (ints xs))) (hBB : B ≤ B') (hBW : B ≤ W.heap.size) (hBW' : B' ≤ W.heap.size)
    (hgd : o.guard = none) (s x : Operand) (ho : o.op = .call { callee := .builtin .append, args := #[s, x], argTypes := #[46, 46] }) (hs : a.eval s = v) (p : Int) {H : Nat} (hH : H = W.heap.size) (hx : a.eval x = .slice (some ⟨H, 0, none⟩) 1 1) (hn : n ≤ 3000000)
    (hK : ∀ b c w', Sep B w' (l.set i (rowA B' 3 1 (.slice (some ⟨b, 0, none⟩) (n + 1) c) (n + 1) (ints (xs ++ [p])))) → Below B W w' → wpList Tryd.prog ops Q rest (a.put o.dst (.slice (some ⟨b, 0, none⟩) (n + 1) c)) w') :
    wpList Tryd.prog ops Q (o :: rest) a (W.alloc (Obj.cells #[.int .i64 p] 3)) := by
  obtain ⟨i0, hinf, hz0, hz1, hz2⟩ := info_parts Tryd.infoIntC
  refine wpList_sep1 h i hi hBB hBW hBW' hgd s x 46 ho i0 (.int .i64 0) 8 Tryd.underlying46 hinf hz0 hz1 hz2 rfl (by decide) hs #[.int .i64 p] hH hx rfl (fun u hu => by simp at hu; subst hu; rfl) (by unfold maxLen; omega) (by omega) (fun b c w' k1 k2 => hK b c w' ?_ k2)
  rw [← ints_snocW]
  exact k1

theorem step_int1 {ops : Array Oper} {o : Oper} {a : Act} {K : Act → World → Prop} {Q : Exit → Act → World → Prop} {E : Prop} {B : Nat} {W : World} {l : List Ast} (h : Sep B W l) (i : Nat) {B' n : Nat} {v : Value} {xs : List Int} (hi : l[i]? = some (rowA B' 3 1 v n (ints xs))) (hBB : B ≤ B') (hBW : B ≤ W.heap.size) (hBW' : B' ≤ W.heap.size)
    (hgd : o.guard = none) (s x : Operand) (ho : o.op = .call { callee := .builtin .append, args := #[s, x], argTypes := #[46, 46] }) (hs : a.eval s = v) (p : Int) {H : Nat} (hH : H = W.heap.size) (hx : a.eval x = .slice (some ⟨H, 0, none⟩) 1 1) (hn : n ≤ 3000000)
    (hK : ∀ b c w', Sep B w' (l.set i (rowA B' 3 1 (.slice (some ⟨b, 0, none⟩) (n + 1) c) (n + 1) (ints (xs ++ [p])))) → Below B W w' → K (a.put o.dst (.slice (some ⟨b, 0, none⟩) (n + 1) c)) w') :
    if Region.wanted o (yielded ops a.tmps) = true then Oper.wp Tryd.prog o a (W.alloc (Obj.cells #[.int .i64 p] 3)) K Q else E := by
  obtain ⟨i0, hinf, hz0, hz1, hz2⟩ := info_parts Tryd.infoIntC
  refine step_sep1 h i hi hBB hBW hBW' hgd s x 46 ho i0 (.int .i64 0) 8 Tryd.underlying46 hinf hz0 hz1 hz2 rfl (by decide) hs #[.int .i64 p] hH hx rfl (fun u hu => by simp at hu; subst hu; rfl) (by unfold maxLen; omega) (by omega) (fun b c w' k1 k2 => hK b c w' ?_ k2)
  rw [← ints_snocW]
  exact k1
end Go.Proofs.YtbokjfjdjgopeaaDoor
