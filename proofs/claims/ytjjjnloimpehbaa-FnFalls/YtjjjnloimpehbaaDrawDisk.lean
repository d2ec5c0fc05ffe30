/-
  Drawn disks by contracts: l03Disk, DrawDisk: a right disk of few pages in new memory, some of it late; l03Left, DrawLeft. Which one is drawn is not said.
-/
import Derived.Test.YtjjjnloimpehbaaDraw4
import Derived.Test.YtjjjnloimpehbaaDiskMore
namespace Go.Proofs.Ytjjjnloimpehbaa
open Go.RowKit

/-- a drawn disk on its way: the cursor at g, the answer's variable at a1, the disk's variable at a2 -/
structure DrawIn (w wr : World) (g B : Nat) (a : Option Addr) (len cap a1 a2 : Nat) (ps : List ByteArray) (ls : List (Int × ByteArray)) (u0 u1 : Value) : Prop where
  drawn : Drawn w wr g B a len cap
  res : wr.heap[a1]? = some (Obj.cells #[.slice none 0 0, .slice none 0 0] 27)
  var : wr.heap[a2]? = some (Obj.cells #[u0, u1] 27)
  disk : DiskOwn wr (a1 + 1) (.agg #[u0, u1]) ps ls
  ok : diskOkB ps ls = true
  at1 : a1 = w.heap.size
  at2 : a1 < a2
  cur : g < w.heap.size

theorem kept_of_drawn {w w' : World} {g B : Nat} {a : Option Addr} {len cap : Nat} (h : Drawn w w' g B a len cap) : Kept w w' (fun k => k = g) :=
  ⟨h.2.1.os, h.2.1.tape, h.2.1.output, h.2.1.size, fun k hk hn => h.2.1.block k hk (fun e => hn (by injection e))⟩

theorem drawIn_drawn {w wr wr' : World} {g B : Nat} {a : Option Addr} {len cap a1 a2 : Nat} {ps : List ByteArray} {ls : List (Int × ByteArray)} {u0 u1 : Value} (h : DrawIn w wr g B a len cap a1 a2 ps ls u0 u1) (hd : Drawn wr wr' g B a len cap) : DrawIn w wr' g B a len cap a1 a2 ps ls u0 u1 := by
  have k := kept_of_drawn hd
  have e1 := h.at1
  have e2 := h.at2
  have e3 := h.cur
  refine ⟨drawn_trans h.drawn hd, (k.2.2.2.2 a1 (Array.getElem?_eq_some_iff.1 h.res).1 (by omega)).trans h.res, (k.2.2.2.2 a2 (Array.getElem?_eq_some_iff.1 h.var).1 (by omega)).trans h.var, ?_, h.ok, e1, e2, e3⟩
  exact diskOwn_kept h.disk k (fun j hj e => by have := (diskOwn_lt h.disk j hj).1; omega)

theorem drawn_below {w w' : World} {g B : Nat} {a : Option Addr} {len cap : Nat} (hc : CurAt w g a len cap) (hd : CodeIn w B a len) (hB : B ≤ g) (hb : Below w.heap.size w w') : Drawn w w' g B a len cap := by
  have hg := cur_lt hc
  have hgr : w.grownBy w' (some g) := ⟨hb.os, hb.tape, hb.output, hb.size, fun k hk _ => hb.block k hk⟩
  refine ⟨?_, hgr, code_grown hd hgr hB hg⟩
  obtain ⟨i, x, hi, hblk⟩ := hc
  exact ⟨i, x, hi, (hb.block g hg).trans hblk⟩

/-- the disk's variable takes a new disk -/
theorem drawIn_set {w wr wr' : World} {g B : Nat} {a : Option Addr} {len cap a1 a2 : Nat} {ps qs : List ByteArray} {ls ms : List (Int × ByteArray)} {u0 u1 v0 v1 : Value} (h : DrawIn w wr g B a len cap a1 a2 ps ls u0 u1) (hB : B ≤ g) (hb : Below wr.heap.size wr wr') (hd : DiskOwn wr' wr.heap.size (.agg #[v0, v1]) qs ms) (hok : diskOkB qs ms = true) :
    DrawIn w ((wr'.setCell ⟨a2, 0, none⟩ v0).setCell ⟨a2, 1, none⟩ v1) g B a len cap a1 a2 qs ms v0 v1 := by
  have e1 := h.at1
  have e2 := h.at2
  have e3 := h.cur
  have l1 : a1 < wr.heap.size := (Array.getElem?_eq_some_iff.1 h.res).1
  have l2 : a2 < wr.heap.size := (Array.getElem?_eq_some_iff.1 h.var).1
  have k2 : Kept wr' ((wr'.setCell ⟨a2, 0, none⟩ v0).setCell ⟨a2, 1, none⟩ v1) (fun k => k = a2) := kept_trans (kept_setCell _ _ _ _) (kept_setCell _ _ _ _) (fun j _ h => h)
  have hdb := drawn_below h.drawn.1 h.drawn.2.2 hB hb
  have y0 : wr'.heap[a2]? = some (Obj.cells #[u0, u1] 27) := (hb.block a2 l2).trans h.var
  have y1 : (wr'.setCell ⟨a2, 0, none⟩ v0).heap[a2]? = some (Obj.cells #[v0, u1] 27) := heap_setCell_same _ a2 0 _ _ _ y0
  have hsz := hb.size
  have hw0 := h.drawn.2.1.size
  have hall := drawn_trans h.drawn hdb
  refine ⟨⟨?_, ?_, ?_⟩, ?_, heap_setCell_same _ a2 1 _ _ _ y1, ?_, hok, e1, e2, e3⟩
  · obtain ⟨i, x, hi, hblk⟩ := hdb.1
    exact ⟨i, x, hi, (k2.2.2.2.2 g (by omega) (by omega)).trans hblk⟩
  · refine ⟨k2.1.trans hall.2.1.os, k2.2.1.trans hall.2.1.tape, k2.2.2.1.trans hall.2.1.output, Nat.le_trans hall.2.1.size k2.2.2.2.1, fun k hk hn => ?_⟩
    exact (k2.2.2.2.2 k (by omega) (by omega)).trans (hall.2.1.block k hk hn)
  · refine ⟨hdb.2.2.1, hdb.2.2.2.imp id (fun ⟨b, off, e, hlt, hz⟩ => ⟨b, off, e, hlt, fun j hj => ?_⟩)⟩
    obtain ⟨z, h1, h2⟩ := hz j hj
    exact ⟨z, h1, by rw [World.cell?_of_block (k2.2.2.2.2 b (by omega) (by omega))]; exact h2⟩
  · exact (k2.2.2.2.2 a1 (by omega) (by omega)).trans ((hb.block a1 l1).trans h.res)
  · obtain ⟨o1, o2⟩ := disk_rows hd
    exact ⟨_, _, rfl, own_down (own_kept o1 k2 (fun k hk => by have := (o1.lt k hk).1; omega)) (by omega), own_down (own_kept o2 k2 (fun k hk => by have := (o2.lt k hk).1; omega)) (by omega)⟩

theorem newP_ok (k : Nat) (h : k < 4) : diskOkB (newP ((4 + k : Nat) : Int)) [] = true := by
  have : k = 0 ∨ k = 1 ∨ k = 2 ∨ k = 3 := by omega
  rcases this with rfl | rfl | rfl | rfl <;> rfl

theorem putD_ok {ps : List ByteArray} {p : Int × ByteArray} (h : ∀ s ∈ ps, s.size ≤ 240) (hp : p.2.size ≤ 240) : ∀ s ∈ putD ps p, s.size ≤ 240 := by
  intro s hs
  unfold putD at hs
  split at hs
  · rcases List.mem_or_eq_of_mem_set hs with h1 | h1
    · exact h s h1
    · rw [h1]; exact hp
  · exact h s hs

theorem syncD_small (ls : List (Int × ByteArray)) : ∀ ps : List ByteArray, (∀ s ∈ ps, s.size ≤ 240) → (∀ p ∈ ls, p.2.size ≤ 240) → ∀ s ∈ syncD ps ls, s.size ≤ 240 := by
  induction ls with
  | nil => intro ps h _ s hs; exact h s hs
  | cons p ls ih =>
    intro ps h hl
    rw [syncD, List.foldl_cons]
    exact ih _ (putD_ok h (hl p (List.mem_cons_self ..))) (fun q hq => hl q (List.mem_cons_of_mem _ hq))

theorem diskOk_of {ps : List ByteArray} {ls : List (Int × ByteArray)} (h1 : ∀ s ∈ ps, s.size ≤ 240) (h2 : ∀ p ∈ ls, 0 ≤ p.1 ∧ p.1 < (ps.length : Int) ∧ p.2.size ≤ 240) (h3 : 4 ≤ ps.length ∧ ps.length ≤ 40 ∧ ls.length ≤ 200) : diskOkB ps ls = true := by
  rw [diskOk_all (fun i hi => h1 _ (List.getElem_mem hi)) (fun i hi => h2 _ (List.getElem_mem hi))]
  exact decide_eq_true h3

theorem syncD_ok {ps : List ByteArray} {ls : List (Int × ByteArray)} (h : diskOkB ps ls = true) : diskOkB (syncD ps ls) [] = true := by
  obtain ⟨h1, h2, h3, h4, h5⟩ := diskOk_yes h
  refine diskOk_of (syncD_small ls ps h1 (fun p hp => (h2 p hp).2.2)) (fun p hp => by cases hp) ?_
  rw [syncD_length]
  exact ⟨h3, h4, by simp⟩

theorem writeL_ok {ps : List ByteArray} {ls : List (Int × ByteArray)} {page : Int} {text : ByteArray} (h : diskOkB ps ls = true) : diskOkB ps (writeL ps ls page text) = true := by
  rw [writeL]
  split
  · next hw =>
    rw [writeOk] at hw
    simp only [Bool.and_eq_true, decide_eq_true_eq] at hw
    obtain ⟨h1, h2, h3, h4, h5⟩ := diskOk_yes h
    refine diskOk_of h1 (fun p hp => ?_) ⟨h3, h4, by simp; omega⟩
    rcases List.mem_append.1 hp with hq | hq
    · exact h2 p hq
    · rw [List.mem_singleton] at hq
      subst hq
      exact ⟨hw.1.1.2.1, by have := hw.1.1.2.2; show page < _; omega, hw.1.2⟩
  · exact h

theorem writeL_grow {ps : List ByteArray} {ls : List (Int × ByteArray)} {page : Int} {text : ByteArray} : (writeL ps ls page text).length ≤ ls.length + 1 := by
  rw [writeL]
  split <;> simp

end Go.Proofs.Ytjjjnloimpehbaa
