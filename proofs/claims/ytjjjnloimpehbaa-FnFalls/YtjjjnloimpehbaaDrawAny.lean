/-
  l03Any by a contract: a disk that reads so, right or not, of few pages and short texts.
-/
import Derived.Test.YtjjjnloimpehbaaDrawDisk3
import Derived.Test.YtjjjnloimpehbaaDraw3
import Derived.Test.YtjjjnloimpehbaaStepCall
import Derived.Deep.RegionWith
import Derived.Deep.RegionLaw
namespace Go.Proofs.Ytjjjnloimpehbaa
open Go.RowKit

/-- small enough for every function of the chapter -/
def Small (ps : List ByteArray) (ls : List (Int × ByteArray)) : Prop := ps.length ≤ 7 ∧ ls.length ≤ 9 ∧ (∀ s ∈ ps, s.size ≤ 241) ∧ ∀ p ∈ ls, p.2.size ≤ 240

theorem small_ok {ps : List ByteArray} {ls : List (Int × ByteArray)} (h : diskOkB ps ls = true) (hp : ps.length ≤ 7) (hl : ls.length ≤ 8) : Small ps ls := by
  obtain ⟨h1, h2, -⟩ := diskOk_yes h
  exact ⟨hp, by omega, fun s hs => by have := h1 s hs; omega, fun p hp => (h2 p hp).2.2⟩

theorem own_cap {w : World} {B e n c : Nat} {x : Option Addr} {xs : List Value} (h : w.ownsRow B e 1 (.slice x n c) n xs) : n ≤ c := by
  rcases h.2 with ⟨e, h0⟩ | ⟨g, cp, cur, e, hg, hh, h1, h2, h3, h4⟩
  · omega
  · injection e with e1 e2 e3
    omega

theorem le_four {k n c : Nat} (h : k < 4) (h4 : 4 ≤ n) (hc : n ≤ c) : k ≤ c := by omega

theorem wrap_small {k : Nat} (h : k < 2) : IntKind.i64.wrap (240 + (k : Int)) = 240 + (k : Int) := IntWalk.i64_in _ ⟨by omega, by omega⟩

theorem first_cell {w : World} {B b n c : Nat} {u1 : Value} {ps : List ByteArray} {ls : List (Int × ByteArray)} (h : DiskOwn w B (.agg #[.slice (some ⟨b, 0, none⟩) n c, u1]) ps ls) (h4 : 4 ≤ ps.length) : (∃ s, w.cell? ⟨b, 0, none⟩ = some (.string s)) ∧ w.frozen? ⟨b, 0, none⟩ = false := by
  obtain ⟨o1, -⟩ := disk_rows h
  have e : n = ps.length := by
    rcases o1.2 with ⟨e, h0⟩ | ⟨g, cp, cur, e, _⟩
    · omega
    · injection e with e1 e2 e3
  subst e
  exact ⟨⟨ps[0], by rw [o1.cellAt 0 (by omega), strs_at _ 0 (by omega)]⟩, o1.frozenAt 0⟩

theorem cur_heap {w wx : World} {g : Nat} {a : Option Addr} {len cap : Nat} (h : CurAt w g a len cap) (e : wx.heap = w.heap) : CurAt wx g a len cap := by
  obtain ⟨i, x, hi, hb⟩ := h
  exact ⟨i, x, hi, by rw [e]; exact hb⟩

theorem code_heap {w wx : World} {B : Nat} {a : Option Addr} {len : Nat} (h : CodeIn w B a len) (e : wx.heap = w.heap) : CodeIn wx B a len := by
  refine ⟨h.1, h.2.imp id (fun ⟨b, off, e1, hlt, hz⟩ => ⟨b, off, e1, hlt, fun j hj => ?_⟩)⟩
  obtain ⟨z, h1, h2⟩ := hz j hj
  exact ⟨z, h1, by rw [World.cell?_of_block (congrArg (·[b]?) e)]; exact h2⟩

theorem row_new (w : World) (z : Int) (t : ByteArray) : RowAt (w.alloc (Obj.cells #[.int .i64 z, .string t] 40)) 2 (.slice (some ⟨w.heap.size, 0, none⟩) 1 1) 1 (puts [(z, t)]) :=
  row_of_own (B := w.heap.size) (e := 40) ⟨rfl, Or.inr ⟨w.heap.size, 1, _, rfl, Nat.le_refl _, heap_alloc_new w _, Nat.le_refl _, by unfold maxLen; omega, rfl, rfl⟩⟩

theorem low_var {w wr : World} {g B : Nat} {a : Option Addr} {len cap a1 a2 : Nat} {ps : List ByteArray} {ls : List (Int × ByteArray)} {u0 u1 : Value} (h : DrawIn w wr g B a len cap a1 a2 ps ls u0 u1) : a1 ≤ wr.heap.size := Nat.le_of_lt (Array.getElem?_eq_some_iff.1 h.res).1

theorem put_end {w : World} {B c : Nat} {x : Option Addr} {ls : List (Int × ByteArray)} {z : Int} {t : ByteArray} (h : w.ownsRow B 40 2 (.slice x (ls.length + 1) c) (ls.length + 1) (puts ls ++ puts [(z, t)])) : w.ownsRow B 40 2 (.slice x (ls.length + 1) c) (ls ++ [(z, t)]).length (puts (ls ++ [(z, t)])) := by
  have e : puts ls ++ puts [(z, t)] = puts (ls ++ [(z, t)]) := puts_snoc ls z t
  rw [e] at h
  rw [List.length_append]
  exact h

/-- the disk's variable at the end -/
structure AnyFin (w wr : World) (g B : Nat) (a : Option Addr) (len cap a1 a2 : Nat) (ps : List ByteArray) (ls : List (Int × ByteArray)) (u0 u1 : Value) : Prop where
  drawn : Drawn w wr g B a len cap
  res : wr.heap[a1]? = some (Obj.cells #[.slice none 0 0, .slice none 0 0] 27)
  var : wr.heap[a2]? = some (Obj.cells #[u0, u1] 27)
  disk : DiskOwn wr (a1 + 1) (.agg #[u0, u1]) ps ls
  at1 : a1 = w.heap.size
  cur : g < w.heap.size

theorem any_base {w wr wz : World} {g B : Nat} {a : Option Addr} {len cap a1 a2 : Nat} {ps : List ByteArray} {ls : List (Int × ByteArray)} {u0 u1 : Value} (h : DrawIn w wr g B a len cap a1 a2 ps ls u0 u1) (hB : B ≤ g) (hk : Kept wr wz (fun j => a1 < j)) :
    Drawn w wz g B a len cap ∧ wz.heap[a1]? = some (Obj.cells #[.slice none 0 0, .slice none 0 0] 27) := by
  have e1 := h.at1
  have e3 := h.cur
  have l1 : a1 < wr.heap.size := (Array.getElem?_eq_some_iff.1 h.res).1
  refine ⟨⟨?_, ?_, ?_⟩, (hk.2.2.2.2 a1 l1 (by omega)).trans h.res⟩
  · obtain ⟨i, x, hi, hblk⟩ := h.drawn.1
    exact ⟨i, x, hi, (hk.2.2.2.2 g (by omega) (by omega)).trans hblk⟩
  · exact ⟨hk.1.trans h.drawn.2.1.os, hk.2.1.trans h.drawn.2.1.tape, hk.2.2.1.trans h.drawn.2.1.output, Nat.le_trans h.drawn.2.1.size hk.2.2.2.1, fun k hlt hn => (hk.2.2.2.2 k (by omega) (by omega)).trans (h.drawn.2.1.block k hlt hn)⟩
  · refine ⟨h.drawn.2.2.1, h.drawn.2.2.2.imp id (fun ⟨b, off, e, hlt, hz⟩ => ⟨b, off, e, hlt, fun j hj => ?_⟩)⟩
    obtain ⟨z, h1, h2⟩ := hz j hj
    exact ⟨z, h1, by rw [World.cell?_of_block (hk.2.2.2.2 b (by omega) (by omega))]; exact h2⟩

theorem drawIn_below {w wr wz : World} {g B : Nat} {a : Option Addr} {len cap a1 a2 : Nat} {ps : List ByteArray} {ls : List (Int × ByteArray)} {u0 u1 : Value} (h : DrawIn w wr g B a len cap a1 a2 ps ls u0 u1) (hB : B ≤ g) (hb : Below wr.heap.size wr wz) : DrawIn w wz g B a len cap a1 a2 ps ls u0 u1 :=
  ⟨drawn_trans h.drawn (drawn_below h.drawn.1 h.drawn.2.2 hB hb), (hb.block a1 (Array.getElem?_eq_some_iff.1 h.res).1).trans h.res, (hb.block a2 (Array.getElem?_eq_some_iff.1 h.var).1).trans h.var, diskOwn_below h.disk hb, h.ok, h.at1, h.at2, h.cur⟩

theorem own_take {w : World} {B n c k : Nat} {x : Option Addr} {ps : List ByteArray} (h : w.ownsRow B 9 1 (.slice x n c) n (strs ps)) (hk : k ≤ n) : w.ownsRow B 9 1 (.slice x k c) k (strs (ps.take k)) := by
  have hl : ps.length = n := by have := h.1; simpa [strs] using this
  refine ⟨by simp [strs]; omega, ?_⟩
  rcases h.2 with ⟨e, h0⟩ | ⟨g, cp, cur, e, hg, hh, h1, h2, h3, h4⟩
  · injection e with e1 e2 e3
    subst e1 e3
    exact Or.inl ⟨by rw [show k = 0 by omega], by omega⟩
  · injection e with e1 e2 e3
    subst e1 e3
    refine Or.inr ⟨g, c, cur, rfl, hg, hh, by omega, h2, h3, ?_⟩
    rw [Nat.mul_one] at h4 ⊢
    have e5 : List.take k cur.toList = List.take k (List.take n cur.toList) := by rw [List.take_take, Nat.min_eq_left hk]
    rw [e5, h4, strs, strs, List.map_take]

theorem any_cut {w wr : World} {g B : Nat} {a : Option Addr} {len cap a1 a2 n c k : Nat} {x : Option Addr} {ps : List ByteArray} {ls : List (Int × ByteArray)} {u1 : Value} (h : DrawIn w wr g B a len cap a1 a2 ps ls (.slice x n c) u1) (hB : B ≤ g) (hn : n = ps.length) (hk : k ≤ n) :
    AnyFin w (wr.setCell ⟨a2, 0, none⟩ (.slice x k c)) g B a len cap a1 a2 (ps.take k) ls (.slice x k c) u1 := by
  have e2 := h.at2
  have k2 : Kept wr (wr.setCell ⟨a2, 0, none⟩ (.slice x k c)) (fun j => j = a2) := kept_setCell _ _ _ _
  obtain ⟨y1, y2⟩ := any_base h hB (kept_mono k2 (fun j _ e => by omega))
  obtain ⟨o1, o2⟩ := disk_rows h.disk
  subst hn
  refine ⟨y1, y2, heap_setCell_same _ a2 0 _ _ _ h.var, ⟨_, _, rfl, ?_, ?_⟩, h.at1, h.cur⟩
  · have o3 := own_take o1 hk
    have e : (ps.take k).length = k := by simp; omega
    rw [e]
    exact own_kept o3 k2 (fun j hj e => own_ne_type o3 h.var (by decide) (by rw [hj, e]))
  · exact own_kept o2 k2 (fun j hj e => own_ne_type o2 h.var (by decide) (by rw [hj, e]))

theorem any_put {w wr : World} {g B : Nat} {a : Option Addr} {len cap a1 a2 c b : Nat} {ps : List ByteArray} {ls : List (Int × ByteArray)} {u1 : Value} {t : ByteArray} (h : DrawIn w wr g B a len cap a1 a2 ps ls (.slice (some ⟨b, 0, none⟩) ps.length c) u1) (hB : B ≤ g) :
    AnyFin w (wr.setCell ⟨b, 0, none⟩ (.string t)) g B a len cap a1 a2 (ps.set 0 t) ls (.slice (some ⟨b, 0, none⟩) ps.length c) u1 := by
  have e2 := h.at2
  obtain ⟨o1, o2⟩ := disk_rows h.disk
  have hb := (o1.lt b rfl).1
  have hne : a2 ≠ b := fun e => own_ne_type o1 h.var (by decide) (by rw [e]; rfl)
  have k2 : Kept wr (wr.setCell ⟨b, 0, none⟩ (.string t)) (fun j => j = b) := kept_setCell _ _ _ _
  obtain ⟨y1, y2⟩ := any_base h hB (kept_mono k2 (fun j _ e => by omega))
  refine ⟨y1, y2, (k2.2.2.2.2 a2 (Array.getElem?_eq_some_iff.1 h.var).1 hne).trans h.var, ⟨_, _, rfl, ?_, ?_⟩, h.at1, h.cur⟩
  · have o3 := (o1.stored 0 (.string t)).1
    rw [strs_set] at o3
    rw [List.length_set]
    exact o3
  · exact own_kept o2 k2 (fun j hj e => one_type o1 o2 Try.types_part b rfl (by rw [hj, e]))

theorem any_app {w wr wz : World} {o : Obj} {g B : Nat} {a : Option Addr} {len cap a1 a2 : Nat} {ps : List ByteArray} {ls ms : List (Int × ByteArray)} {u0 u1 v1 : Value} (h : DrawIn w wr g B a len cap a1 a2 ps ls u0 u1) (hB : B ≤ g) (hg : (wr.alloc o).grownBy wz u1.ownBlock) (hv : wz.ownsRow (a1 + 1) 40 2 v1 ms.length (puts ms)) :
    wz.heap[a2]? = some (Obj.cells #[u0, u1] 27) ∧ AnyFin w (wz.setCell ⟨a2, 1, none⟩ v1) g B a len cap a1 a2 ps ms u0 v1 := by
  have e1 := h.at1
  have e2 := h.at2
  obtain ⟨o1, o2⟩ := disk_rows h.disk
  have la2 : a2 < wr.heap.size := (Array.getElem?_eq_some_iff.1 h.var).1
  have ka : Kept wr wz (fun j => u1.ownBlock = some j) := ⟨hg.os, hg.tape, hg.output, Nat.le_trans (by simp) hg.size, fun j hj hn => (hg.block j (by simp; omega) (fun e => hn e.symm)).trans (Below.heap_alloc wr o j hj)⟩
  have hvar : wz.heap[a2]? = some (Obj.cells #[u0, u1] 27) := (ka.2.2.2.2 a2 la2 (own_ne_type o2 h.var (by decide))).trans h.var
  have k2 : Kept wz (wz.setCell ⟨a2, 1, none⟩ v1) (fun j => j = a2) := kept_setCell _ _ _ _
  have kall : Kept wr (wz.setCell ⟨a2, 1, none⟩ v1) (fun j => a1 < j) := kept_trans (kept_mono ka (fun j _ e => by have := (o2.lt j e).1; omega)) k2 (fun j _ e => by omega)
  obtain ⟨y1, y2⟩ := any_base h hB kall
  refine ⟨hvar, y1, y2, heap_setCell_same _ a2 1 _ _ _ hvar, ⟨_, _, rfl, ?_, ?_⟩, h.at1, h.cur⟩
  · have o3 := own_kept o1 ka (fun j hj e => one_type o1 o2 Try.types_part j hj e)
    exact own_kept o3 k2 (fun j hj e => own_ne_type o3 hvar (by decide) (by rw [hj, e]))
  · exact own_kept hv k2 (fun j hj e => own_ne_type hv hvar (by decide) (by rw [hj, e]))

theorem any_ret {w wr : World} {g B : Nat} {a : Option Addr} {len cap a1 a2 : Nat} {ps : List ByteArray} {ls : List (Int × ByteArray)} {u0 u1 : Value} (h : AnyFin w wr g B a len cap a1 a2 ps ls u0 u1) (hB : B ≤ g) :
    ((wr.setCell ⟨a1, 0, none⟩ u0).setCell ⟨a1, 1, none⟩ u1).cell? ⟨a1, 0, none⟩ = some u0 ∧ ((wr.setCell ⟨a1, 0, none⟩ u0).setCell ⟨a1, 1, none⟩ u1).cell? ⟨a1, 1, none⟩ = some u1 ∧
    DiskOwn ((wr.setCell ⟨a1, 0, none⟩ u0).setCell ⟨a1, 1, none⟩ u1) w.heap.size (.agg #[u0, u1]) ps ls ∧ Drawn w ((wr.setCell ⟨a1, 0, none⟩ u0).setCell ⟨a1, 1, none⟩ u1) g B a len cap := by
  have e1 := h.at1
  have e3 := h.cur
  have l1 : a1 < wr.heap.size := (Array.getElem?_eq_some_iff.1 h.res).1
  have y1 : (wr.setCell ⟨a1, 0, none⟩ u0).heap[a1]? = some (Obj.cells #[u0, .slice none 0 0] 27) := heap_setCell_same _ a1 0 _ _ _ h.res
  have y2 : ((wr.setCell ⟨a1, 0, none⟩ u0).setCell ⟨a1, 1, none⟩ u1).heap[a1]? = some (Obj.cells #[u0, u1] 27) := heap_setCell_same _ a1 1 _ _ _ y1
  have k2 : Kept wr ((wr.setCell ⟨a1, 0, none⟩ u0).setCell ⟨a1, 1, none⟩ u1) (fun k => k = a1) := kept_trans (kept_setCell _ _ _ _) (kept_setCell _ _ _ _) (fun j _ h => h)
  obtain ⟨o1, o2⟩ := disk_rows h.disk
  refine ⟨(cell_at y2 0).1, (cell_at y2 1).1, ⟨_, _, rfl, ?_, ?_⟩, ?_, ?_, ?_⟩
  · exact own_down (own_kept o1 k2 (fun k hk => by have := (o1.lt k hk).1; omega)) (by omega)
  · exact own_down (own_kept o2 k2 (fun k hk => by have := (o2.lt k hk).1; omega)) (by omega)
  · obtain ⟨i, x, hi, hblk⟩ := h.drawn.1
    exact ⟨i, x, hi, (k2.2.2.2.2 g (by omega) (by omega)).trans hblk⟩
  · exact ⟨k2.1.trans h.drawn.2.1.os, k2.2.1.trans h.drawn.2.1.tape, k2.2.2.1.trans h.drawn.2.1.output, Nat.le_trans h.drawn.2.1.size k2.2.2.2.1, fun k hk hn => (k2.2.2.2.2 k (by omega) (by omega)).trans (h.drawn.2.1.block k hk hn)⟩
  · refine ⟨h.drawn.2.2.1, h.drawn.2.2.2.imp id (fun ⟨b, off, e, hlt, hz⟩ => ⟨b, off, e, hlt, fun j hj => ?_⟩)⟩
    obtain ⟨z, h1, h2⟩ := hz j hj
    exact ⟨z, h1, by rw [World.cell?_of_block (k2.2.2.2.2 b (by omega) (by omega))]; exact h2⟩

theorem small_cut {ps : List ByteArray} {ls : List (Int × ByteArray)} {k : Nat} (h : Small ps ls) : Small (ps.take k) ls :=
  ⟨by have := h.1; simp; omega, h.2.1, fun s hs => h.2.2.1 s (List.mem_of_mem_take hs), h.2.2.2⟩

theorem small_put {ps : List ByteArray} {ls : List (Int × ByteArray)} {k : Nat} {t : ByteArray} (h : Small ps ls) (ht : t.size ≤ 241) : Small (ps.set k t) ls :=
  ⟨by rw [List.length_set]; exact h.1, h.2.1, fun s hs => by rcases List.mem_or_eq_of_mem_set hs with h1 | h1; exact h.2.2.1 s h1; (rw [h1]; exact ht), h.2.2.2⟩

theorem small_app {ps : List ByteArray} {ls : List (Int × ByteArray)} {z : Int} {t : ByteArray} (h : Small ps ls) (hl : ls.length ≤ 8) (ht : t.size ≤ 240) : Small ps (ls ++ [(z, t)]) :=
  ⟨h.1, by simp; omega, h.2.2.1, fun p hp => by rcases List.mem_append.1 hp with h1 | h1; exact h.2.2.2 p h1; (rw [List.mem_singleton] at h1; subst h1; exact ht)⟩

set_option maxHeartbeats 2000000 in
set_option maxRecDepth 100000 in
theorem l03Any_any (g B : Nat) (a : Option Addr) (len cap : Nat) (w : World) (hc : CurAt w g a len cap) (hd : CodeIn w B a len) (hB : B ≤ g) :
    Calls Try.prog 51 #[.pointer (some ⟨g, 0, none⟩)] w fun e w' => ∃ (v : Value) (ps : List ByteArray) (ls : List (Int × ByteArray)), e = .returned v ∧ Small ps ls ∧ DiskOwn w' w.heap.size v ps ls ∧ Drawn w w' g B a len cap := by
  have hgl := cur_lt hc
  obtain ⟨w0, hw0⟩ : ∃ w0, w0 = w.alloc (Obj.cells #[.slice none 0 0, .slice none 0 0] 27) := ⟨_, rfl⟩
  have hb0 : Below w.heap.size w w0 := by rw [hw0]; exact (Below.refl w.heap.size w).alloc (Nat.le_refl _) _
  have q0 : w0.heap[w.heap.size]? = some (Obj.cells #[.slice none 0 0, .slice none 0 0] 27) := by rw [hw0]; exact heap_alloc_new w _
  have hs0 : w0.heap.size = w.heap.size + 1 := by rw [hw0]; simp
  have HD0 := hide (drawn_below hc hd hB hb0)
  obtain ⟨a1, ha1⟩ : ∃ a, a = w.heap.size := ⟨_, rfl⟩
  rw [← ha1] at q0
  have HQ := hide q0
  have HA := hide (⟨ha1, hs0⟩ : a1 = w.heap.size ∧ w0.heap.size = w.heap.size + 1)
  clear hc hd q0 hs0 hb0
  go_enter Try.func51, Try.ntmps51
  go_wp2_with fail
  rw [← hw0, ← ha1]
  clear hw0 ha1
  refine (l03Disk_any g B a len cap _ HD0.out.1 HD0.out.2.2 hB).mono ?_
  rintro e w1 ⟨v1, ps, ls, rfl, hok, hp, hl, hown1, h1⟩
  have HOk := hide (⟨hok, hp, hl⟩ : diskOkB ps ls = true ∧ ps.length ≤ 7 ∧ ls.length ≤ 8)
  have H1 := hide (drawn_trans HD0.out h1)
  have HO1 := hide hown1
  have HQ1 : Hid (w1.heap[a1]? = some (Obj.cells #[.slice none 0 0, .slice none 0 0] 27)) := hide ((h1.2.1.block a1 (by have := HA.out; omega) (fun e => by injection e with e; have := HA.out; omega)).trans HQ.out)
  have HS1 := hide h1.2.1.size
  clear hok hp hl hown1 h1 HQ HD0
  go_wp2_with fail
  refine (specCopy_any _ ps ls (by have := HOk.out; omega) (by have := HOk.out; omega) _ (disk_of_own HO1.out)).mono ?_
  rintro e w2 ⟨v2, rfl, hown2, hb2⟩
  obtain ⟨x3, c3, y3, d3, rfl⟩ := disk_form hown2
  obtain ⟨a2, ha2⟩ : ∃ a, a = w2.heap.size := ⟨_, rfl⟩
  obtain ⟨w3, hw3⟩ : ∃ w3, w3 = w2.alloc (Obj.cells #[.slice x3 ps.length c3, .slice y3 ls.length d3] 27) := ⟨_, rfl⟩
  have HI0 : Hid (DrawIn w w3 g B a len cap a1 a2 ps ls (.slice x3 ps.length c3) (.slice y3 ls.length d3)) := hide (by
    have hA := HA.out
    have hs1 := HS1.out
    have hs2 := hb2.size
    have hb3 : Below w1.heap.size w1 w3 := by rw [hw3]; exact hb2.alloc hb2.size _
    refine ⟨drawn_trans H1.out (drawn_below H1.out.1 H1.out.2.2 hB hb3), (hb3.block a1 (by omega)).trans HQ1.out, by rw [hw3, ha2]; exact heap_alloc_new w2 _, ?_, HOk.out.1, hA.1, by omega, hgl⟩
    obtain ⟨o1, o2⟩ := disk_rows hown2
    rw [hw3]
    exact ⟨_, _, rfl, own_down (o1.alloc _) (by omega), own_down (o2.alloc _) (by omega)⟩)
  clear hown2 hb2 H1 HO1 HQ1
  go_wp2_with fail
  rw [← hw3, ← ha2]
  clear hw3 ha2
  refine (l01Below_any g B a len cap 12 (by omega) (by omega) _ HI0.out.drawn.1 HI0.out.drawn.2.2 hB).mono ?_
  rintro e w4 ⟨z, hz, rfl, h4⟩
  have HI := hide (drawIn_drawn HI0.out h4)
  clear h4 HI0
  obtain ⟨b0, b1, b2, b3⟩ := var_cells HI.out.var
  obtain ⟨r0, r1, r2, r3⟩ := var_cells HI.out.res
  by_cases z0 : z = 0
  · subst z0
    have HBel : Hid (∀ wx, CurAt wx g a len cap → CodeIn wx B a len → Calls Try.prog 43 #[.pointer (some ⟨g, 0, none⟩), .int .i64 4] wx fun e w' => ∃ x : Nat, x < 4 ∧ e = .returned (.int .i64 (x : Int)) ∧ Drawn wx w' g B a len cap) := hide (fun wx h1 h2 => l01Below_any g B a len cap 4 (by omega) (by omega) wx h1 h2 hB)
    have hcap : ps.length ≤ c3 := own_cap (disk_rows HI.out.disk).1
    have h4 := (diskOk_yes HOk.out.1).2.2.1
    go_wp2_with fail
    go_region_with ((go_at_call 43; refine (HBel.out _ ?_ ?_).mono ?_; exact HI.out.drawn.1; exact HI.out.drawn.2.2; rintro e w5 ⟨k, hk, rfl, h5⟩; have HI5 := hide (drawIn_next HI.out h5 rfl rfl rfl rfl); obtain ⟨b50, b51, b52, b53⟩ := var_cells HI5.out.var; have hk0 : (0 : Int) ≤ (k : Int) := Int.natCast_nonneg k; have hk1 : k ≤ c3 := le_four hk h4 hcap; have hk2 : (k : Int) ≤ (c3 : Int) := Int.ofNat_le.2 hk1))
    all_goals
      have HF := hide (any_cut HI5.out hB rfl (Nat.le_of_lt (Nat.lt_of_lt_of_le hk h4)))
      clear b50 b51 b52 b53
      obtain ⟨g0, g1, g2, g3⟩ := var_cells HF.out.var
      obtain ⟨q0, q1, q2, q3⟩ := var_cells HF.out.res
      have HR := hide (any_ret HF.out hB)
      clear b0 b1 b2 b3 r0 r1 r2 r3
      go_wp2_with fail
      refine bodyPost_ret (v := .agg #[.slice x3 k c3, .slice y3 ls.length d3]) (by simp [results, Try.results51, go_sem, HR.out.1, HR.out.2.1]) rfl ⟨_, ps.take k, ls, rfl, small_cut (small_ok HOk.out.1 HOk.out.2.1 HOk.out.2.2), HR.out.2.2.1, HR.out.2.2.2⟩
  · have n0 : ((z : Int) == 0) = false := by rw [beq_eq_false_iff_ne]; omega
    by_cases z1 : z = 1
    · subst z1
      obtain ⟨i1, hj, hy0, hy1, hy2⟩ := info_parts Try.infoPut
      obtain ⟨wi, hwi⟩ : ∃ wi, wi = w4.alloc (Obj.cells #[.int .i64 (-1), .int .i64 0, .int .i64 40] 3) := ⟨_, rfl⟩
      have HIa : Hid (DrawIn w wi g B a len cap a1 a2 ps ls (.slice x3 ps.length c3) (.slice y3 ls.length d3)) := hide (by rw [hwi]; exact drawIn_below HI.out hB ((Below.refl _ _).alloc (Nat.le_refl _) _))
      have HPick : Hid (∀ wx : World, wx.heap = wi.heap → Calls Try.prog 50 #[.pointer (some ⟨g, 0, none⟩), .slice (some ⟨w4.heap.size, 0, none⟩) 3 3] wx fun e w' => ∃ z : Int, z ∈ [-1, 0, 40] ∧ e = .returned (.int .i64 z) ∧ Drawn wx w' g B a len cap) := hide (fun wx hx => by
        refine l01PickInt_any g B a len cap [-1, 0, 40] (by simp) (by simp) w4.heap.size 3 wx (cur_heap HIa.out.drawn.1 hx) (code_heap HIa.out.drawn.2.2 hx) hB (by have := HI.out.cur; have := HI.out.drawn.2.1.size; omega) (by rw [hx, hwi]; simp) (fun j hj => ?_)
        rw [World.cell?_of_block (congrArg (·[w4.heap.size]?) hx), hwi, World.cell?_alloc_mark]
        match j, hj with
        | 0, _ => rfl
        | 1, _ => rfl
        | 2, _ => rfl)
      have ha : ∀ o, (w4.alloc o).drew.cell? ⟨a2, 1, none⟩ = some (.slice y3 ls.length d3) := fun o => (var_cells (drawIn_below HI.out hB ((Below.refl _ _).alloc (Nat.le_refl _) o)).var).2.1
      have hl8 := HOk.out.2.2
      have HWI := hide hwi
      clear hwi
      go_wp2_with fail
      go_region_law (first | (refine step_call2 _ ?_ 50 Try.f50 Try.func50 ?_ ?_ (.tmp 21) (.tmp 22) #[61, 29] ?_ (.pointer (some ⟨g, 0, none⟩)) (.slice (some ⟨w4.heap.size, 0, none⟩) 3 3) ?_ ?_ _ (HPick.out _ ?_) ?_; exact rfl; decide; exact Option.some_ne_none _; exact rfl; exact rfl; exact rfl; (rw [HWI.out]; exact rfl); rintro e w5 ⟨z, hz, rfl, h5⟩; refine ⟨_, rfl, ?_⟩; have HI5 := hide (drawIn_next HIa.out h5 (by rw [HWI.out]; rfl) (by rw [HWI.out]; rfl) (by rw [HWI.out]; rfl) (by rw [HWI.out]; rfl)); obtain ⟨b50, b51, b52, b53⟩ := var_cells HI5.out.var; have hc := fun o => (var_cells (drawIn_below HI5.out hB ((Below.refl _ _).alloc (Nat.le_refl _) o)).var).2.1) | (refine step_append_row _ ?_ (.tmp 20) (.tmp 25) 25 ?_ (a1 + 1) 40 i1 (.agg #[.int .i64 0, .string ⟨#[]⟩]) 2 24 Try.underlying25 hj hy0 hy1 hy2 ?_ ?_ (.slice y3 ls.length d3) ls.length (puts ls) ?_ ((disk_rows HI5.out.disk).2.alloc _) (.slice (some ⟨w5.heap.size, 0, none⟩) 1 1) 1 (puts [(z, ⟨#[120]⟩)]) ?_ (row_new w5 z ⟨#[120]⟩) (puts_one _) ?_ ?_ ?_ ?_; exact rfl; exact rfl; exact rfl; decide; exact rfl; exact rfl; (unfold maxLen; omega); omega; (simp; exact low_var HI5.out); intro y6 d6 w6 hown6 hg6; obtain ⟨hv6, hf6⟩ := any_app (ms := ls ++ [(z, ⟨#[120]⟩)]) HI5.out hB hg6 (put_end hown6); obtain ⟨b60, b61, b62, b63⟩ := var_cells hv6))
      all_goals
        have HF := hide hf6
        clear b50 b51 b52 b53 b60 b61 b62 b63 hv6 hf6 hg6 hown6 hc ha
        obtain ⟨g0, g1, g2, g3⟩ := var_cells HF.out.var
        obtain ⟨q0, q1, q2, q3⟩ := var_cells HF.out.res
        have HR := hide (any_ret HF.out hB)
        clear b0 b1 b2 b3 r0 r1 r2 r3
        go_wp2_with fail
        refine bodyPost_ret (v := .agg #[.slice x3 ps.length c3, .slice y6 (ls.length + 1) d6]) (by simp [results, Try.results51, go_sem, HR.out.1, HR.out.2.1]) rfl ⟨_, ps, ls ++ [(z, ⟨#[120]⟩)], rfl, small_app (small_ok HOk.out.1 HOk.out.2.1 HOk.out.2.2) hl8 (by decide), HR.out.2.2.1, HR.out.2.2.2⟩
    · have n1 : ((z : Int) == 1) = false := by rw [beq_eq_false_iff_ne]; omega
      by_cases z2 : z = 2
      · subst z2
        have HBel : Hid (∀ wx, CurAt wx g a len cap → CodeIn wx B a len → Calls Try.prog 43 #[.pointer (some ⟨g, 0, none⟩), .int .i64 2] wx fun e w' => ∃ x : Nat, x < 2 ∧ e = .returned (.int .i64 (x : Int)) ∧ Drawn wx w' g B a len cap) := hide (fun wx h1 h2 => l01Below_any g B a len cap 2 (by omega) (by omega) wx h1 h2 hB)
        have HLo : Hid (∀ (k : Nat) (wx : World), k < 2 → Calls Try.prog 67 #[.int .i64 (240 + (k : Int)), .int .u8 65] wx fun e w' => ∃ t : ByteArray, t.size = 240 + k ∧ e = .returned (.string t) ∧ Below wx.heap.size wx w') := hide (fun k wx hk => by
          have h := l01Long_any (240 + k) 65 (by omega) (by omega) wx
          rw [Int.natCast_add] at h
          exact h)
        have h4 := (diskOk_yes HOk.out.1).2.2.1
        obtain ⟨bb, rfl⟩ : ∃ bb, x3 = some ⟨bb, 0, none⟩ := by
          rcases (disk_rows HI.out.disk).1.2 with ⟨e, h0⟩ | ⟨gg, cc, cur, e, _⟩
          · omega
          · injection e with e1; exact ⟨gg, e1⟩
        have hi1 : (0 : Int) < (ps.length : Int) := by omega
        go_wp2_with fail
        go_region_with (first | (go_at_call 67; refine (HLo.out k _ hk).mono ?_; rintro e w6 ⟨t, ht, rfl, hb6⟩; have HI6 := hide (drawIn_below HI5.out hB hb6); obtain ⟨b60, b61, b62, b63⟩ := var_cells HI6.out.var; obtain ⟨⟨ts, tc⟩, tf⟩ := first_cell HI6.out.disk h4) | (go_at_call 43; refine (HBel.out _ ?_ ?_).mono ?_; exact HI.out.drawn.1; exact HI.out.drawn.2.2; rintro e w5 ⟨k, hk, rfl, h5⟩; have HI5 := hide (drawIn_next HI.out h5 rfl rfl rfl rfl); obtain ⟨b50, b51, b52, b53⟩ := var_cells HI5.out.var; have hw : IntKind.i64.wrap (240 + (k : Int)) = 240 + (k : Int) := wrap_small hk))
        all_goals
          have HF := hide (any_put (t := t) HI6.out hB)
          clear b50 b51 b52 b53 b60 b61 b62 b63
          obtain ⟨g0, g1, g2, g3⟩ := var_cells HF.out.var
          obtain ⟨q0, q1, q2, q3⟩ := var_cells HF.out.res
          have HR := hide (any_ret HF.out hB)
          clear b0 b1 b2 b3 r0 r1 r2 r3
          go_wp2_with fail
          refine bodyPost_ret (v := .agg #[.slice (some ⟨bb, 0, none⟩) ps.length c3, .slice y3 ls.length d3]) (by simp [results, Try.results51, go_sem, HR.out.1, HR.out.2.1]) rfl ⟨_, ps.set 0 t, ls, rfl, small_put (small_ok HOk.out.1 HOk.out.2.1 HOk.out.2.2) (by omega), HR.out.2.2.1, HR.out.2.2.2⟩
      · have n2 : ((z : Int) == 2) = false := by rw [beq_eq_false_iff_ne]; omega
        go_wp2_with fail
        have hfin := drawIn_ret HI.out hB
        refine bodyPost_ret (v := .agg #[.slice x3 ps.length c3, .slice y3 ls.length d3]) (by simp [results, Try.results51, go_sem, hfin.1, hfin.2.1]) rfl ⟨_, ps, ls, rfl, small_ok HOk.out.1 HOk.out.2.1 HOk.out.2.2, hfin.2.2.1, hfin.2.2.2⟩
end Go.Proofs.Ytjjjnloimpehbaa
