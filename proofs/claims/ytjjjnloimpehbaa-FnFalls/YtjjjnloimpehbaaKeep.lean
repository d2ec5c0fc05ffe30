/-
  The program's keep by a contract: the pages of a disk with all that lies in a closed channel's buffer written onto them, in order. First: a sheet's take, and what the walk holds.
-/
import Derived.Test.YtjjjnloimpehbaaImplWrite
import Derived.Test.YtjjjnloimpehbaaChan
namespace Go.Proofs.Ytjjjnloimpehbaa
open Go.RowKit Go.Conc

theorem Try.infoPtr : (Try.prog.info? 85).map (fun i => (i.zero, i.size, i.bytes)) = some (some (.pointer none), 1, 8) := by kernel_rfl

set_option maxHeartbeats 400000 in
theorem take_any (b : Nat) (x t : ByteArray) (w : World) (hb : w.heap[b]? = some (Obj.cells #[.string x] 87)) :
    Calls Try.prog 66 #[.pointer (some ⟨b, 0, none⟩), .string t] w fun e w' => e = .returned (.tuple #[]) ∧ w' = w.setCell ⟨b, 0, none⟩ (.string t) := by
  have c0 : w.cell? ⟨b, 0, none⟩ = some (.string x) := (cell_at hb 0).1
  have f0 := (cell_at hb 0).2
  clear hb
  go_enter Try.func66, Try.ntmps66
  go_wp2
  go_end0
  exact ⟨rfl, rfl⟩

/-- the pointers to n sheets that lie one behind the other -/
def ptrs (a3 n : Nat) : List Value := (List.range n).map fun j => .pointer (some ⟨a3 + j, 0, none⟩)

theorem ptrs_length (a3 n : Nat) : (ptrs a3 n).length = n := by simp [ptrs]

theorem ptrs_at (a3 n j : Nat) (h : j < n) : (ptrs a3 n)[j]? = some (.pointer (some ⟨a3 + j, 0, none⟩)) := by simp [ptrs, h]

/-- a put as one value -/
def putV (p : Int × ByteArray) : Value := .agg #[.int .i64 p.1, .string p.2]

/-- what keep holds: its argument's box, its answer's variable, the row of pointers, the sheets, the channel; nothing else that was there is turned -/
structure KeepIn (wr : World) (c a0 a1 a2 a3 n : Nat) (vp vl : Value) (m : List ByteArray) (ch : Obj) (w : World) : Prop where
  box : wr.heap[a0]? = some (Obj.cells #[vp, vl] 27)
  res : wr.heap[a1]? = some (Obj.cells #[.slice none 0 0, .slice none 0 0] 27)
  row : wr.ownsRow a2 85 1 (.slice (some ⟨a2, 0, none⟩) n n) n (ptrs a3 n)
  sheet : ∀ j, j < n → wr.heap[a3 + j]? = some (Obj.cells #[.string (m.getD j ⟨#[]⟩)] 87)
  len : m.length = n
  chan : wr.heap[c]? = some ch
  low : Kept w wr (fun k => k = c)

theorem keepIn_below {wr wr' : World} {c a0 a1 a2 a3 n : Nat} {vp vl : Value} {m : List ByteArray} {ch : Obj} {w : World} (h : KeepIn wr c a0 a1 a2 a3 n vp vl m ch w) (hb : Below wr.heap.size wr wr') : KeepIn wr' c a0 a1 a2 a3 n vp vl m ch w := by
  have key : ∀ {k : Nat} {o : Obj}, wr.heap[k]? = some o → wr'.heap[k]? = some o := fun h => (hb.block _ (Array.getElem?_eq_some_iff.1 h).1).trans h
  exact ⟨key h.box, key h.res, own_stays h.row hb, fun j hj => key (h.sheet j hj), h.len, key h.chan, kept_trans h.low (kept_of_all hb _) (fun _ _ h => h)⟩

theorem heap_setChan_other (w : World) (c cap : Nat) (buf : Array Value) (cl : Bool) (s r : Nat) (tm : Bool) (k : Nat) (h : k ≠ c) : (w.setChan c cap buf cl s r tm).heap[k]? = w.heap[k]? := by
  simp only [World.setChan]
  rw [Array.getElem?_setIfInBounds_ne (by omega)]

theorem kept_setChan (w : World) (c cap : Nat) (buf : Array Value) (cl : Bool) (s r : Nat) (tm : Bool) : Kept w (w.setChan c cap buf cl s r tm) (fun k => k = c) :=
  ⟨rfl, rfl, rfl, by simp [World.setChan], fun k _ hn => heap_setChan_other w c cap buf cl s r tm k hn⟩

/-- the order of the blocks -/
def Ord (c a0 a1 a2 a3 : Nat) : Prop := c < a0 ∧ a1 = a0 + 1 ∧ a1 < a2 ∧ a2 < a3

theorem keepIn_chan {wr : World} {c a0 a1 a2 a3 n : Nat} {vp vl : Value} {m : List ByteArray} {ch : Obj} {w : World} (h : KeepIn wr c a0 a1 a2 a3 n vp vl m ch w) (ho : Ord c a0 a1 a2 a3) (cap : Nat) (buf : Array Value) (cl : Bool) (s r : Nat) (tm : Bool) : KeepIn (wr.setChan c cap buf cl s r tm) c a0 a1 a2 a3 n vp vl m (.chan cap buf cl s r tm) w := by
  obtain ⟨o1, o2, o3, o4⟩ := ho
  have k := kept_setChan wr c cap buf cl s r tm
  refine ⟨(heap_setChan_other _ _ _ _ _ _ _ _ _ (by omega)).trans h.box, (heap_setChan_other _ _ _ _ _ _ _ _ _ (by omega)).trans h.res, own_kept h.row k (fun j hj e => by have := (h.row.lt j hj).1; omega), fun j hj => (heap_setChan_other _ _ _ _ _ _ _ _ _ (by omega)).trans (h.sheet j hj), h.len, heap_setChan _ _ _ _ _ _ _ _ (Array.getElem?_eq_some_iff.1 h.chan).1, kept_trans h.low k (fun _ _ h => h)⟩

theorem keepIn_put {wr : World} {c a0 a1 a2 a3 n : Nat} {vp vl : Value} {m : List ByteArray} {ch : Obj} {w : World} (h : KeepIn wr c a0 a1 a2 a3 n vp vl m ch w) (ho : Ord c a0 a1 a2 a3) (hw : a0 = w.heap.size) (j : Nat) (hj : j < n) (t : ByteArray) : KeepIn (wr.setCell ⟨a3 + j, 0, none⟩ (.string t)) c a0 a1 a2 a3 n vp vl (m.set j t) ch w := by
  obtain ⟨o1, o2, o3, o4⟩ := ho
  have k := kept_setCell wr (a3 + j) 0 (.string t)
  have other : ∀ i, i ≠ a3 + j → (wr.setCell ⟨a3 + j, 0, none⟩ (.string t)).heap[i]? = wr.heap[i]? := fun i hi => heap_setCell_other wr ⟨a3 + j, 0, none⟩ i (.string t) hi
  refine ⟨(other _ (by omega)).trans h.box, (other _ (by omega)).trans h.res, own_kept h.row k (fun i hi e => ?_), fun i hi => ?_, by rw [List.length_set]; exact h.len, (other _ (by omega)).trans h.chan, kept_trans h.low k (fun i hi e => by omega)⟩
  · have : i = a2 := (Option.some.inj hi).symm
    omega
  · by_cases e : i = j
    · subst e
      rw [heap_setCell_same wr (a3 + i) 0 _ _ _ (h.sheet i hi)]
      have : i < m.length := by rw [h.len]; exact hi
      simp [List.getD, this]
    · rw [other _ (by omega), h.sheet i hi]
      simp [List.getD, List.getElem?_set_ne (Ne.symm e)]
end Go.Proofs.Ytjjjnloimpehbaa
