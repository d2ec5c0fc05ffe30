/-
  Several texts in one. spec.DiskNew and spec.WritePage by contracts. · The program's WritePage by a contract: a put behind what is late, or the disk as it is. · Regions that hold a communication, inside the walk of one goroutine: a send into a buffer with room, a receive from a buffer that holds something, a receive from a closed and empty channel, as steps of a region that draws nothing. No function of the program. · The program's keep by a contract: the pages of a disk with all that lies in a closed channel's buffer written onto them, in order. First: a sheet's take, and what the walk holds. · The program's keep by a contract. · The program's SyncDisk by a contract: all that is late is kept, in order, by way of a channel.
-/
import Derived.Test.YtghjbfdbheokcaaGreatSwC
import Derived.Test.YtghjbfdbheokcaaGreatSwD
import Derived.Test.YtghjbfdbheokcaaGreatPlain10
import Derived.Test.YtghjbfdbheokcaaGreatImplCopyN
import Derived.Conc.LoneCalls
import Derived.Tactics
namespace Go.Proofs.YtghjbfdbheokcaaGreat
open Go.RowKit

theorem writeOk_no {ps : List ByteArray} {ls : List (Int × ByteArray)} {page : Int} {text : ByteArray} (h : ¬ (diskOkB ps ls = true ∧ (0 ≤ page ∧ page ≤ (ps.length : Int) - 1) ∧ text.size ≤ 240 ∧ ls.length ≠ 200)) : writeOk ps ls page text = false ∧ writeL ps ls page text = ls := by
  have e : writeOk ps ls page text = false := by
    rw [← Bool.not_eq_true, writeOk]
    simp only [Bool.and_eq_true, decide_eq_true_eq]
    intro hh
    exact h ⟨hh.1.1.1, hh.1.1.2, hh.1.2, hh.2⟩
  exact ⟨e, by rw [writeL, e]; rfl⟩

theorem writeOk_yes {ps : List ByteArray} {ls : List (Int × ByteArray)} {page : Int} {text : ByteArray} (h : diskOkB ps ls = true) (h1 : 0 ≤ page ∧ page ≤ (ps.length : Int) - 1) (h2 : text.size ≤ 240) (h3 : ls.length ≠ 200) : writeOk ps ls page text = true ∧ writeL ps ls page text = ls ++ [(page, text)] := by
  have e : writeOk ps ls page text = true := by
    rw [writeOk]
    simp only [Bool.and_eq_true, decide_eq_true_eq]
    exact ⟨⟨⟨h, h1⟩, h2⟩, h3⟩
  exact ⟨e, by rw [writeL, e]; rfl⟩

theorem puts_snoc (ls : List (Int × ByteArray)) (p : Int) (t : ByteArray) : puts ls ++ [.int .i64 p, .string t] = puts (ls ++ [(p, t)]) := by simp [puts]

end Go.Proofs.YtghjbfdbheokcaaGreat

namespace Go.Proofs.YtghjbfdbheokcaaGreat
open Go.RowKit

theorem put_new (w : World) (q : Int) (t : ByteArray) : RowAt (w.alloc (Obj.cells #[.int .i64 q, .string t] 101)) 2 (.slice (some ⟨w.heap.size, 0, none⟩) 1 1) 1 (puts [(q, t)]) := by
  refine ⟨rfl, _, _, rfl, Or.inr ⟨w.heap.size, 0, rfl, by simp, fun j hj => ?_⟩⟩
  rw [Nat.zero_add, (cell_at (heap_alloc_new w _) j).1]
  simp [puts]

/-- behind the append: the variable's cells, and with the new row stored into it the answer's facts -/
theorem write_app {w w4 w5 w6 : World} {a1 B U g : Nat} {x3 y3 y6 : Option Addr} {c3 d3 d6 : Nat} {ps : List ByteArray} {ls : List (Int × ByteArray)} {page : Int} {text : ByteArray} {o : Obj}
    (hres : w4.heap[a1]? = some (Obj.cells #[.slice none 0 0, .slice none 0 0] 40)) (hvar : w4.heap[g]? = some (Obj.cells #[.slice x3 ps.length c3, .slice y3 ls.length d3] 40))
    (o1 : w4.ownsRow B 9 1 (.slice x3 ps.length c3) ps.length (strs ps)) (o2 : w4.ownsRow B 101 2 (.slice y3 ls.length d3) ls.length (puts ls)) (hB : Below w.heap.size w w4)
    (hu : ∀ k, (Value.slice y3 ls.length d3).ownBlock = some k → B ≤ k ∧ k < U) (ho1 : w.heap.size ≤ a1 ∧ a1 < B) (ho2 : U ≤ g ∧ B ≤ U) (_ho3 : w.heap.size ≤ B)
    (hb5 : Below w4.heap.size w4 w5) (hg6 : (w5.alloc o).grownBy w6 (Value.slice y3 ls.length d3).ownBlock) (hown6 : w6.ownsRow B 101 2 (.slice y6 (ls.length + 1) d6) (ls.length + 1) (puts ls ++ puts [(page, text)])) :
    (w6.cell? ⟨g, 0, none⟩ = some (.slice x3 ps.length c3) ∧ w6.cell? ⟨g, 1, none⟩ = some (.slice y3 ls.length d3) ∧ w6.frozen? ⟨g, 1, none⟩ = false) ∧
    ((w6.setCell ⟨g, 1, none⟩ (.slice y6 (ls.length + 1) d6)).heap[g]? = some (Obj.cells #[.slice x3 ps.length c3, .slice y6 (ls.length + 1) d6] 40)) ∧
    ((w6.setCell ⟨g, 1, none⟩ (.slice y6 (ls.length + 1) d6)).heap[a1]? = some (Obj.cells #[.slice none 0 0, .slice none 0 0] 40)) ∧
    DiskOwn (w6.setCell ⟨g, 1, none⟩ (.slice y6 (ls.length + 1) d6)) B (.agg #[.slice x3 ps.length c3, .slice y6 (ls.length + 1) d6]) ps (ls ++ [(page, text)]) ∧ Below w.heap.size w (w6.setCell ⟨g, 1, none⟩ (.slice y6 (ls.length + 1) d6)) := by
  have hlg : g < w4.heap.size := (Array.getElem?_eq_some_iff.1 hvar).1
  have hla : a1 < w4.heap.size := (Array.getElem?_eq_some_iff.1 hres).1
  have hsz := hb5.size
  have hkeep : ∀ k, k < w4.heap.size → (∀ j, (Value.slice y3 ls.length d3).ownBlock = some j → k ≠ j) → w6.heap[k]? = w4.heap[k]? := fun k hk hn => ((hg6.block k (by simp; omega) (fun e => hn k e.symm rfl)).trans (Below.heap_alloc w5 _ k (by omega))).trans (hb5.block k hk)
  have hr6 := (hkeep a1 hla (fun j hj => by have := hu j hj; omega)).trans hres
  have hv6 := (hkeep g hlg (fun j hj => by have := hu j hj; omega)).trans hvar
  have p5 := own_stays o1 hb5
  have q5 := own_stays o2 hb5
  have ho6 : w6.ownsRow B 9 1 (.slice x3 ps.length c3) ps.length (strs ps) := own_apart (p5.alloc _) (q5.alloc _) Tryz.types_part hg6
  have k7 : Kept w6 (w6.setCell ⟨g, 1, none⟩ (.slice y6 (ls.length + 1) d6)) (fun k => k = g) := kept_setCell _ _ _ _
  refine ⟨⟨(cell_at hv6 0).1, (cell_at hv6 1).1, (cell_at hv6 1).2⟩, heap_setCell_same _ g 1 _ _ _ hv6, ?_, ?_, ?_⟩
  · rw [heap_setCell_other _ ⟨g, 1, none⟩ a1 _ (by show a1 ≠ g; omega)]
    exact hr6
  · refine ⟨_, _, rfl, own_kept ho6 k7 (fun k hk e => own_ne_type ho6 hv6 (by decide) (by rw [hk, e])), ?_⟩
    rw [List.length_append, ← puts_snoc ls page text]
    exact own_kept hown6 k7 (fun k hk e => own_ne_type hown6 hv6 (by decide) (by rw [hk, e]))
  · exact ((((hB.trans (hb5.mono hB.size)).alloc (by have := hB.size; omega) _).grown hg6 (by simp; have := hB.size; omega) (fun k hk => by have := hu k hk; omega))).setCell (by show _ ≤ g; have := hB.size; omega) _

end Go.Proofs.YtghjbfdbheokcaaGreat

namespace Go.Proofs.YtghjbfdbheokcaaGreat
open Go.RowKit Go.Conc

/-- inside a region, from its n-th operation on: what the machine of one comes to -/
def InOps (P : Program) (ops : Array Oper) (Q : Exit → Act → World → Prop) (n : Nat) (a : Act) (w : World) : Prop :=
  ∀ (b : Frame) (k : List Item) (cs : List Frame), ∃ e a' w', Q e a' w' ∧ Arrives P (lone (b.at a (.inRegion ops (List.range' n (ops.size - n)) :: k)) cs w) b k cs e a' w'

section
variable {P : Program} {ops : Array Oper} {Q : Exit → Act → World → Prop} {n : Nat} {a a' : Act} {w w' : World} {o : Oper}

theorem inOps_region {id : Nat} (h : InOps P ops Q 0 a w) : (Code.region id ops false).wp P Q a w := by
  intro b k cs
  obtain ⟨e, a', w', q, r⟩ := h b k cs
  refine ⟨e, a', w', q, .of_steps (.one step_region) ?_⟩
  rw [List.range_eq_range']
  exact r

theorem inOps_list (h : wpList P ops Q (ops.toList.drop n) a w) : InOps P ops Q n a w := by
  intro b k cs
  refine wp_ops _ a w ?_ b k cs
  have e := wpOps_eq_wpList (P := P) (Q := Q) (ops := ops) (ops.toList.drop n) n (by intro j; simp)
  rw [List.length_drop, Array.length_toList] at e
  rw [e]
  exact h

theorem rest_at (ho : ops[n]? = some o) : List.range' n (ops.size - n) = n :: List.range' (n + 1) (ops.size - (n + 1)) := by
  have hl : n < ops.size := (Array.getElem?_eq_some_iff.1 ho).1
  rw [show ops.size - n = (ops.size - (n + 1)) + 1 from by omega, List.range'_succ]

/-- one step of the machine, and the rest -/
theorem inOps_step (ho : ops[n]? = some o) (hs : ∀ (b : Frame) (k : List Item) (cs : List Frame), step P (lone (b.at a (.inRegion ops (n :: List.range' (n + 1) (ops.size - (n + 1))) :: k)) cs w) = .next (lone (b.at a' (.inRegion ops (List.range' (n + 1) (ops.size - (n + 1))) :: k)) cs w'))
    (h : InOps P ops Q (n + 1) a' w') : InOps P ops Q n a w := by
  intro b k cs
  obtain ⟨e, a2, w2, q, r⟩ := h b k cs
  refine ⟨e, a2, w2, q, ?_⟩
  rw [rest_at ho]
  exact .of_steps (.one (hs b k cs)) r

theorem fin_at (ho : ops[n]? = some o) (b : Frame) (rest : List Nat) (k : List Item) (v : Value) : (b.at a (.inRegion ops (n :: rest) :: k)).finish v = b.at (a.put o.dst v) (.inRegion ops rest :: k) := by rw [Frame.finish_at, ho]; rfl

theorem inOps_value (ho : ops[n]? = some o) (hg : o.guard = none) {v : Value} (hr : (execOp a.eval o).run P w = .ok (.value v) w') (h : InOps P ops Q (n + 1) (a.put o.dst v) w') : InOps P ops Q n a w := by
  have hw : Region.wanted o (yielded ops a.tmps) = true := by simp [Region.wanted, hg]
  refine inOps_step ho (fun b k cs => ?_) h
  refine step_lone_go ?_
  rw [stepG_op ho hw, ← fin_at ho]
  simp [stepG.apply, hr]

theorem comm_at (ho : ops[n]? = some o) (hw : Region.wanted o (yielded ops a.tmps) = true) {cases : Array CommCase} {shape : CommShape} (hr : (execOp a.eval o).run P w = .ok (.comm cases true shape) w') (b : Frame) (rest : List Nat) (k : List Item) (cs : List Frame) :
    ∃ es, stepG P true (G (b.at a (.inRegion ops (n :: rest) :: k)) cs) w = .comm (G (b.at a (.inRegion ops (n :: rest) :: k)) cs) cases true shape w' es := by
  rw [stepG_oper ho hw]
  by_cases hk : b.kind = .early
  · exact ⟨_, by simp [stepG.apply, hr, G, Frame.at, hk, GStep.after]; rfl⟩
  · have hk' : (b.kind == CallKind.early) = false := by simpa using hk
    exact ⟨_, by simp [stepG.apply, hr, G, Frame.at, hk', GStep.after]; rfl⟩

theorem inOps_send (ho : ops[n]? = some o) (hg : o.guard = none) {c cap s r : Nat} {v z : Value} {buf : Array Value} {tm : Bool} (hr : (execOp a.eval o).run P w = .ok (.comm #[scase c v z] true .send) w) (hc : w.heap[c]? = some (.chan cap buf false s r tm)) (hroom : buf.size < cap)
    (h : InOps P ops Q (n + 1) (a.put o.dst undef) (w.setChan c cap (buf.push v) false (s + 1) r tm)) : InOps P ops Q n a w := by
  have hw : Region.wanted o (yielded ops a.tmps) = true := by simp [Region.wanted, hg]
  refine inOps_step ho (fun b k cs => ?_) h
  obtain ⟨es, hes⟩ := comm_at ho hw hr b (List.range' (n + 1) (ops.size - (n + 1))) k cs
  rw [← fin_at ho]
  exact step_lone_send_room hes hc hroom

theorem inOps_recv (ho : ops[n]? = some o) (hg : o.guard = none) {c cap s r : Nat} {z : Value} {buf : Array Value} {tm closed ok : Bool} (hr : (execOp a.eval o).run P w = .ok (.comm #[rcase c z] true (.recv ok)) w) (hc : w.heap[c]? = some (.chan cap buf closed s r tm)) (hsome : 0 < buf.size)
    (h : InOps P ops Q (n + 1) (a.put o.dst (got ok (buf.getD 0 undef) true)) (w.setChan c cap (buf.extract 1 buf.size) closed s (r + 1) tm)) : InOps P ops Q n a w := by
  have hw : Region.wanted o (yielded ops a.tmps) = true := by simp [Region.wanted, hg]
  refine inOps_step ho (fun b k cs => ?_) h
  obtain ⟨es, hes⟩ := comm_at ho hw hr b (List.range' (n + 1) (ops.size - (n + 1))) k cs
  rw [← fin_at ho]
  exact step_lone_recv_buf ok hes hc hsome

theorem inOps_shut (ho : ops[n]? = some o) (hg : o.guard = none) {c cap s r : Nat} {z : Value} {tm ok : Bool} (hr : (execOp a.eval o).run P w = .ok (.comm #[rcase c z] true (.recv ok)) w) (hc : w.heap[c]? = some (.chan cap #[] true s r tm))
    (h : InOps P ops Q (n + 1) (a.put o.dst (got ok z false)) w) : InOps P ops Q n a w := by
  have hw : Region.wanted o (yielded ops a.tmps) = true := by simp [Region.wanted, hg]
  refine inOps_step ho (fun b k cs => ?_) h
  obtain ⟨es, hes⟩ := comm_at ho hw hr b (List.range' (n + 1) (ops.size - (n + 1))) k cs
  rw [← fin_at ho]
  exact step_lone_recv_shut ok hes hc
end
end Go.Proofs.YtghjbfdbheokcaaGreat

namespace Go.Proofs.YtghjbfdbheokcaaGreat
open Go.RowKit Go.Conc

theorem Tryz.infoPtr : (Tryz.prog.info? 149).map (fun i => (i.zero, i.size, i.bytes)) = some (some (.pointer none), 1, 8) := by kernel_rfl

set_option maxHeartbeats 400000 in
theorem take_any (b : Nat) (x t : ByteArray) (w : World) (hb : w.heap[b]? = some (Obj.cells #[.string x] 151)) :
    Calls Tryz.prog 100 #[.pointer (some ⟨b, 0, none⟩), .string t] w fun e w' => e = .returned (.tuple #[]) ∧ w' = w.setCell ⟨b, 0, none⟩ (.string t) := by
  have c0 : w.cell? ⟨b, 0, none⟩ = some (.string x) := (cell_at hb 0).1
  have f0 := (cell_at hb 0).2
  clear hb
  go_enter Tryz.func100, Tryz.ntmps100
  go_wp2
  go_end0
  exact ⟨rfl, rfl⟩

/-- the pointers to n sheets that lie one behind the other -/
def ptrs (a3 n : Nat) : List Value := (List.range n).map fun j => .pointer (some ⟨a3 + j, 0, none⟩)

theorem ptrs_length (a3 n : Nat) : (ptrs a3 n).length = n := by simp [ptrs]

theorem ptrs_at (a3 n j : Nat) (h : j < n) : (ptrs a3 n)[j]? = some (.pointer (some ⟨a3 + j, 0, none⟩)) := by simp [ptrs, h]

/-- a put as one value -/
def putV (p : Int × ByteArray) : Value := .agg #[.int .i64 p.1, .string p.2]

/-- what keep holds: its argument's box, its answer's variable, the row of pointers, the sheets, the channel; nothing else that was there is turned -/
structure KeepIn (wr : World) (c a0 a1 a2 a3 n : Nat) (vp vl : Value) (m : List ByteArray) (ch : Obj) (w : World) : Prop where
  box : wr.heap[a0]? = some (Obj.cells #[vp, vl] 40)
  res : wr.heap[a1]? = some (Obj.cells #[.slice none 0 0, .slice none 0 0] 40)
  row : wr.ownsRow a2 149 1 (.slice (some ⟨a2, 0, none⟩) n n) n (ptrs a3 n)
  sheet : ∀ j, j < n → wr.heap[a3 + j]? = some (Obj.cells #[.string (m.getD j ⟨#[]⟩)] 151)
  len : m.length = n
  chan : wr.heap[c]? = some ch
  low : Kept w wr (fun k => k = c)

theorem keepIn_below {wr wr' : World} {c a0 a1 a2 a3 n : Nat} {vp vl : Value} {m : List ByteArray} {ch : Obj} {w : World} (h : KeepIn wr c a0 a1 a2 a3 n vp vl m ch w) (hb : Below wr.heap.size wr wr') : KeepIn wr' c a0 a1 a2 a3 n vp vl m ch w := by
  have key : ∀ {k : Nat} {o : Obj}, wr.heap[k]? = some o → wr'.heap[k]? = some o := fun h => (hb.block _ (Array.getElem?_eq_some_iff.1 h).1).trans h
  exact ⟨key h.box, key h.res, own_stays h.row hb, fun j hj => key (h.sheet j hj), h.len, key h.chan, kept_trans h.low (kept_of_all hb _) (fun _ _ h => h)⟩

theorem heap_setChan_other (w : World) (c cap : Nat) (buf : Array Value) (cl : Bool) (s r : Nat) (tm : Bool) (k : Nat) (h : k ≠ c) : (w.setChan c cap buf cl s r tm).heap[k]? = w.heap[k]? := by
  simp only [World.setChan]
  rw [Array.getElem?_setIfInBounds_ne (by omega)]

theorem kept_setChan (w : World) (c cap : Nat) (buf : Array Value) (cl : Bool) (s r : Nat) (tm : Bool) : Kept w (w.setChan c cap buf cl s r tm) (fun k => k = c) :=
  ⟨rfl, rfl, rfl, by simp [World.setChan], fun k _ hn => heap_setChan_other w c cap buf cl s r tm k hn⟩

/-- the order of the blocks -/
def Ord (c a0 a1 a2 a3 : Nat) : Prop := c < a0 ∧ a1 = a0 + 1 ∧ a1 < a2 ∧ a2 < a3

theorem keepIn_chan {wr : World} {c a0 a1 a2 a3 n : Nat} {vp vl : Value} {m : List ByteArray} {ch : Obj} {w : World} (h : KeepIn wr c a0 a1 a2 a3 n vp vl m ch w) (ho : Ord c a0 a1 a2 a3) (cap : Nat) (buf : Array Value) (cl : Bool) (s r : Nat) (tm : Bool) : KeepIn (wr.setChan c cap buf cl s r tm) c a0 a1 a2 a3 n vp vl m (.chan cap buf cl s r tm) w := by
  obtain ⟨o1, o2, o3, o4⟩ := ho
  have k := kept_setChan wr c cap buf cl s r tm
  refine ⟨(heap_setChan_other _ _ _ _ _ _ _ _ _ (by omega)).trans h.box, (heap_setChan_other _ _ _ _ _ _ _ _ _ (by omega)).trans h.res, own_kept h.row k (fun j hj e => by have := (h.row.lt j hj).1; omega), fun j hj => (heap_setChan_other _ _ _ _ _ _ _ _ _ (by omega)).trans (h.sheet j hj), h.len, heap_setChan _ _ _ _ _ _ _ _ (Array.getElem?_eq_some_iff.1 h.chan).1, kept_trans h.low k (fun _ _ h => h)⟩

theorem keepIn_put {wr : World} {c a0 a1 a2 a3 n : Nat} {vp vl : Value} {m : List ByteArray} {ch : Obj} {w : World} (h : KeepIn wr c a0 a1 a2 a3 n vp vl m ch w) (ho : Ord c a0 a1 a2 a3) (hw : a0 = w.heap.size) (j : Nat) (hj : j < n) (t : ByteArray) : KeepIn (wr.setCell ⟨a3 + j, 0, none⟩ (.string t)) c a0 a1 a2 a3 n vp vl (m.set j t) ch w := by
  obtain ⟨o1, o2, o3, o4⟩ := ho
  have k := kept_setCell wr (a3 + j) 0 (.string t)
  have other : ∀ i, i ≠ a3 + j → (wr.setCell ⟨a3 + j, 0, none⟩ (.string t)).heap[i]? = wr.heap[i]? := fun i hi => heap_setCell_other wr ⟨a3 + j, 0, none⟩ i (.string t) hi
  refine ⟨(other _ (by omega)).trans h.box, (other _ (by omega)).trans h.res, own_kept h.row k (fun i hi e => ?_), fun i hi => ?_, by rw [List.length_set]; exact h.len, (other _ (by omega)).trans h.chan, kept_trans h.low k (fun i hi e => by omega)⟩
  · have : i = a2 := (Option.some.inj hi).symm
    omega
  · by_cases e : i = j
    · subst e
      rw [heap_setCell_same wr (a3 + i) 0 _ _ _ (h.sheet i hi)]
      have : i < m.length := by rw [h.len]; exact hi
      simp [List.getD, this]
    · rw [other _ (by omega), h.sheet i hi]
      simp [List.getD, List.getElem?_set_ne (Ne.symm e)]
end Go.Proofs.YtghjbfdbheokcaaGreat

namespace Go.Proofs.YtghjbfdbheokcaaGreat
open Go.RowKit Go.Conc

theorem ptrs_take (a3 n k : Nat) (h : k < n) {L : List Value} (hl : L.length = n) (ht : L.take k = (ptrs a3 n).take k) : (L.set k (.pointer (some ⟨a3 + k, 0, none⟩))).take (k + 1) = (ptrs a3 n).take (k + 1) := by
  rw [List.take_succ_eq_append_getElem (by rw [List.length_set]; omega), List.take_succ_eq_append_getElem (by rw [ptrs_length]; exact h), List.getElem_set_self, List.take_set_of_le (by omega), ht]
  congr 2
  have := ptrs_at a3 n k h
  rw [List.getElem?_eq_getElem (by rw [ptrs_length]; exact h)] at this
  exact (Option.some.inj this).symm

/-- a disk is laid into the variable of the answer, where all but one block stays -/
theorem ret_kept {w wr : World} {a1 B c : Nat} {r0 r1 u0 u1 : Value} {t : TypeId} {ps : List ByteArray} {ls : List (Int × ByteArray)} (hres : wr.heap[a1]? = some (Obj.cells #[r0, r1] t)) (hd : DiskOwn wr B (.agg #[u0, u1]) ps ls) (hB : a1 < B) (hw : w.heap.size ≤ a1) (hk : Kept w wr (fun k => k = c)) :
    ((wr.setCell ⟨a1, 0, none⟩ u0).setCell ⟨a1, 1, none⟩ u1).cell? ⟨a1, 0, none⟩ = some u0 ∧ ((wr.setCell ⟨a1, 0, none⟩ u0).setCell ⟨a1, 1, none⟩ u1).cell? ⟨a1, 1, none⟩ = some u1 ∧
    DiskOwn ((wr.setCell ⟨a1, 0, none⟩ u0).setCell ⟨a1, 1, none⟩ u1) w.heap.size (.agg #[u0, u1]) ps ls ∧ Kept w ((wr.setCell ⟨a1, 0, none⟩ u0).setCell ⟨a1, 1, none⟩ u1) (fun k => k = c) := by
  have y1 : (wr.setCell ⟨a1, 0, none⟩ u0).heap[a1]? = some (Obj.cells #[u0, r1] t) := heap_setCell_same _ a1 0 _ _ _ hres
  have y2 : ((wr.setCell ⟨a1, 0, none⟩ u0).setCell ⟨a1, 1, none⟩ u1).heap[a1]? = some (Obj.cells #[u0, u1] t) := heap_setCell_same _ a1 1 _ _ _ y1
  have k2 : Kept wr ((wr.setCell ⟨a1, 0, none⟩ u0).setCell ⟨a1, 1, none⟩ u1) (fun k => k = a1) := kept_trans (kept_setCell _ _ _ _) (kept_setCell _ _ _ _) (fun j _ h => h)
  obtain ⟨o1, o2⟩ := disk_rows hd
  refine ⟨(cell_at y2 0).1, (cell_at y2 1).1, ⟨_, _, rfl, ?_, ?_⟩, kept_trans hk k2 (fun j hj e => by omega)⟩
  · exact own_down (own_kept o1 k2 (fun k hk => by have := (o1.lt k hk).1; omega)) (by omega)
  · exact own_down (own_kept o2 k2 (fun k hk => by have := (o2.lt k hk).1; omega)) (by omega)

theorem syncD_size {N : Nat} {bs : List (Int × ByteArray)} : ∀ {ps : List ByteArray}, (∀ s ∈ ps, s.size ≤ N) → (∀ p ∈ bs, p.2.size ≤ N) → ∀ x ∈ syncD ps bs, x.size ≤ N := by
  induction bs with
  | nil => intro ps h _ x hx; exact h x hx
  | cons p bs ih =>
    intro ps h hb
    rw [syncD, List.foldl_cons]
    refine ih (fun x hx => ?_) (fun q hq => hb q (List.mem_cons_of_mem _ hq))
    unfold putD at hx
    split at hx
    · rcases List.mem_or_eq_of_mem_set hx with h1 | h1
      · exact h x h1
      · rw [h1]; exact hb p (List.mem_cons_self ..)
    · exact h x hx

set_option maxHeartbeats 4000000 in
set_option maxRecDepth 100000 in
theorem keep_any (vp vl : Value) (ps : List ByteArray) (hp : ps.length ≤ 1048576) (hps : ∀ s ∈ ps, s.size ≤ 1048576) (c cap s r : Nat) (bs : List (Int × ByteArray)) (hbs : ∀ p ∈ bs, p.2.size ≤ 1048576) (w : World) (hd : RowAt w 1 vp ps.length (strs ps)) (hch : w.heap[c]? = some (.chan cap (bs.map putV).toArray true s r false)) :
    Calls Tryz.prog 85 #[.agg #[vp, vl], .chan (some c)] w fun e w' => ∃ v', e = .returned v' ∧ DiskOwn w' w.heap.size v' (syncD ps bs) [] ∧ Kept w w' (fun k => k = c) := by
  obtain ⟨i0, hi, hz0, hz1, hz2⟩ := info_parts Tryz.infoStrR
  obtain ⟨i1, hj, hy0, hy1, hy2⟩ := info_parts Tryz.infoPut
  obtain ⟨i2, hq, hx0, hx1, hx2⟩ := info_parts Tryz.infoPtr
  obtain ⟨x1, c1, rfl⟩ : ∃ a cap, vp = .slice a ps.length cap := by obtain ⟨-, a, cap, e, -⟩ := hd; exact ⟨a, cap, e⟩
  have H1 := hide hd
  have HPs := hide hps
  have HBs := hide hbs
  have hcw : c < w.heap.size := (Array.getElem?_eq_some_iff.1 hch).1
  have HCw := hide hcw
  clear hd hps hbs hcw
  obtain ⟨w0, hw0⟩ : ∃ w0, w0 = (w.alloc (Obj.cells #[.slice x1 ps.length c1, vl] 40)).alloc (Obj.cells #[.slice none 0 0, .slice none 0 0] 40) := ⟨_, rfl⟩
  obtain ⟨q0, q1, hs0⟩ := two_allocs w (Obj.cells #[.slice x1 ps.length c1, vl] 40) (Obj.cells #[.slice none 0 0, .slice none 0 0] 40)
  rw [← hw0] at q0 q1 hs0
  have hb0 : Below w.heap.size w w0 := by rw [hw0]; exact ((Below.refl w.heap.size w).alloc (Nat.le_refl _) _).alloc (by simp) _
  go_enter Tryz.func85, Tryz.ntmps85
  go_wp2_with (at_make; rw [← hw0]; refine wpList_make_full _ rfl _ _ 148 rfl w0.heap.size 149 i2 (.pointer none) 1 Tryz.underlying148 hq hx0 hx1 .i64 .i64 _ _ ps.length rfl rfl rfl rfl (by rw [hx2]; omega) (by unfold maxLen; omega) (Nat.le_refl _) ?_)
  intro w1 hown1 hg1
  obtain ⟨a0, ha0⟩ : ∃ a, a = w.heap.size := ⟨_, rfl⟩
  obtain ⟨a1, ha1⟩ : ∃ a, a = a0 + 1 := ⟨_, rfl⟩
  obtain ⟨a2, ha2⟩ : ∃ a, a = a1 + 1 := ⟨_, rfl⟩
  obtain ⟨a3, ha3⟩ : ∃ a, a = w1.heap.size := ⟨_, rfl⟩
  rw [← hw0] at hg1
  rw [← ha0, ← ha1, ← ha2] at hown1 ⊢
  rw [← ha0] at q0 q1 hs0
  rw [← ha1] at q1
  have hb1 : Below w.heap.size w w1 := hb0.grown hg1 (by omega) (fun k hk => by cases hk)
  have r0 := (hg1.block a0 (by omega) (by simp)).trans q0
  have r1 := (hg1.block a1 (by omega) (by simp)).trans q1
  have hlt3 : a2 < a3 := by rw [ha3]; exact (hown1.lt a2 rfl).2
  have HA := hide (⟨ha0, ⟨by have := HCw.out; omega, ha1, by omega, hlt3⟩⟩ : a0 = w.heap.size ∧ Ord c a0 a1 a2 a3)
  have cb0 : w1.cell? ⟨a0, 0, none⟩ = some (.slice x1 ps.length c1) := (cell_at r0 0).1
  have HR := hide (⟨r0, r1, (hb1.block c HCw.out).trans hch⟩ : w1.heap[a0]? = some (Obj.cells #[.slice x1 ps.length c1, vl] 40) ∧ w1.heap[a1]? = some (Obj.cells #[.slice none 0 0, .slice none 0 0] 40) ∧ w1.heap[c]? = some (.chan cap (bs.map putV).toArray true s r false))
  have HB1 := hide hb1
  have HS3 : Hid (w1.heap.size = a3) := hide ha3.symm
  have HO1 := hide hown1
  clear hown1 hg1 ha0 ha1 ha2 ha3 hw0 hb0 q0 q1 hs0 r0 r1 hb1 hch hlt3
  go_wp2_with fail
  go_loopg [19] ps.length (fun q iv wr => ∃ (k : Nat) (L : List Value), k ≤ ps.length ∧ iv = .int .i64 (k : Int) ∧ q + k = ps.length ∧ Hid (wr.ownsRow a2 149 1 (.slice (some ⟨a2, 0, none⟩) ps.length ps.length) ps.length L ∧ L.take k = (ptrs a3 ps.length).take k) ∧ Hid (Below a2 w1 wr ∧ wr.heap.size = a3 + k ∧ ∀ j, j < k → wr.heap[a3 + j]? = some (Obj.cells #[.string (ps.getD j ⟨#[]⟩)] 151)))
  case atStart => exact ⟨0, _, Nat.zero_le _, rfl, rfl, hide ⟨HO1.out, by simp⟩, hide ⟨Below.refl _ _, HS3.out, fun j hj => by omega⟩⟩
  case round =>
    obtain ⟨k, L, hk, rfl, hg, HL, HW⟩ := hrel
    have HG := hide hg
    clear hg cb0 HO1
    by_cases hlt : k < ps.length
    · rcases H1.out.2 with ⟨a, cap', e, h0 | ⟨b, off, e2, hbl, hc⟩⟩
      · omega
      · injection e with e1 e3 e4
        subst e1 e4
        subst e2
        obtain ⟨x, hx⟩ : ∃ x, x = ps[k] := ⟨_, rfl⟩
        have hcell : wr.cell? ⟨b, off + k, none⟩ = some (.string x) := by
          rw [HW.out.1.cell (by have := HA.out; have := HA.out.2.2.2.1; have := HA.out.2.2.1; show b < a2; omega), HB1.out.cell (by exact hbl), hc k (by omega), strs_at ps k hlt, hx]
        obtain ⟨u, hu⟩ : ∃ u, L[k]? = some u := ⟨_, List.getElem?_eq_getElem (by have := HL.out.1.1; omega)⟩
        have hca : ∀ o, (wr.alloc o).cell? ⟨a2, k, none⟩ = some u := fun o => by rw [(HL.out.1.alloc o).cellAt k (by omega), hu]
        have hfz : ∀ o, (wr.alloc o).frozen? ⟨a2, k, none⟩ = false := fun o => (HL.out.1.alloc o).frozenAt k
        have hws : wr.heap.size = a3 + k := HW.out.2.1
        have hi0 : (0 : Int) ≤ (k : Int) := by omega
        have hi1 : (k : Int) < (ps.length : Int) := by omega
        have HX := hide hx
        clear hc hx hu
        have hu2 : a2 ≤ wr.heap.size := by have h4 := HA.out.2.2.2.2; omega
        have HL2 : Hid (((wr.alloc (Obj.cells #[.string x] 151)).setCell ⟨a2, k, none⟩ (.pointer (some ⟨a3 + k, 0, none⟩))).ownsRow a2 149 1 (.slice (some ⟨a2, 0, none⟩) ps.length ps.length) ps.length (L.set k (.pointer (some ⟨a3 + k, 0, none⟩))) ∧ (L.set k (.pointer (some ⟨a3 + k, 0, none⟩))).take (k + 1) = (ptrs a3 ps.length).take (k + 1)) :=
          hide ⟨((HL.out.1.alloc _).stored k _).1, ptrs_take a3 ps.length k hlt (by have := HL.out.1.1; omega) HL.out.2⟩
        have HW2 : Hid (Below a2 w1 ((wr.alloc (Obj.cells #[.string x] 151)).setCell ⟨a2, k, none⟩ (.pointer (some ⟨a3 + k, 0, none⟩))) ∧ ((wr.alloc (Obj.cells #[.string x] 151)).setCell ⟨a2, k, none⟩ (.pointer (some ⟨a3 + k, 0, none⟩))).heap.size = a3 + (k + 1) ∧ ∀ j, j < k + 1 → ((wr.alloc (Obj.cells #[.string x] 151)).setCell ⟨a2, k, none⟩ (.pointer (some ⟨a3 + k, 0, none⟩))).heap[a3 + j]? = some (Obj.cells #[.string (ps.getD j ⟨#[]⟩)] 151)) := hide (by
          refine ⟨(HW.out.1.alloc hu2 _).setCell (Nat.le_refl _) _, by simp; omega, fun j hj => ?_⟩
          rw [heap_setCell_other _ ⟨a2, k, none⟩ (a3 + j) _ (by show a3 + j ≠ a2; have h4 := HA.out.2.2.2.2; omega)]
          by_cases e : j = k
          · subst e
            rw [← hws, heap_alloc_new, HX.out]
            simp [List.getD, hlt]
          · rw [Below.heap_alloc wr _ (a3 + j) (by omega)]
            exact HW.out.2.2 j (by omega))
        go_wp2_with fail
        go_roundg (gk - 1)
        case measure => have := HG.out; omega
        case rel => exact ⟨k + 1, _, by omega, by go_num, by have := HG.out; omega, HL2, HW2⟩
    · obtain rfl : k = ps.length := by omega
      have HK : Hid (KeepIn wr c a0 a1 a2 a3 ps.length (.slice x1 ps.length c1) vl ps (.chan cap (bs.map putV).toArray true s r false) w) := hide (by
        have hA := HA.out
        obtain ⟨o1, o2, o3, o4⟩ := hA.2
        have hb := HW.out.1
        have e : L = ptrs a3 ps.length := by
          have h1 := HL.out.2
          rw [List.take_of_length_le (by have := HL.out.1.1; omega), List.take_of_length_le (by rw [ptrs_length]; exact Nat.le_refl _)] at h1
          exact h1
        refine ⟨(hb.block a0 (by omega)).trans HR.out.1, (hb.block a1 (by omega)).trans HR.out.2.1, by rw [← e]; exact HL.out.1, HW.out.2.2, rfl, (hb.block c (by omega)).trans HR.out.2.2, ?_⟩
        exact kept_of_all (HB1.out.trans (hb.mono (by omega))) _)
      clear HL HW HR HB1 HS3
      go_wp2_with fail
      go_loopg [8] bs.length (fun q cv wr => ∃ (k r' : Nat) (_ : cv = cv), k ≤ bs.length ∧ q + k = bs.length ∧ Hid (KeepIn wr c a0 a1 a2 a3 ps.length (.slice x1 ps.length c1) vl (syncD ps (bs.take k)) (.chan cap ((bs.drop k).map putV).toArray true s r' false) w))
      case atStart => exact ⟨0, r, rfl, Nat.zero_le _, rfl, HK⟩
      case round =>
        obtain ⟨k, r', -, hk, hg, HI⟩ := hrel
        have HG2 := hide hg
        clear hg HK
        by_cases hlt2 : k < bs.length
        · obtain ⟨q, t, hqt⟩ : ∃ q t, (q, t) = bs[k] := ⟨_, _, rfl⟩
          have hb0 : ((bs.drop k).map putV).toArray.getD 0 undef = .agg #[.int .i64 q, .string t] := by
            rw [List.drop_eq_getElem_cons hlt2, ← hqt]; rfl
          have hb1 : ((bs.drop k).map putV).toArray.extract 1 ((bs.drop k).map putV).toArray.size = ((bs.drop (k + 1)).map putV).toArray := by
            rw [List.drop_eq_getElem_cons hlt2]; simp
            exact List.take_of_length_le (by simp; omega)
          obtain ⟨w2, hw2⟩ : ∃ w2, w2 = wr.setChan c cap ((bs.drop (k + 1)).map putV).toArray true s (r' + 1) false := ⟨_, rfl⟩
          have HI2 : Hid (KeepIn w2 c a0 a1 a2 a3 ps.length (.slice x1 ps.length c1) vl (syncD ps (bs.take k)) (.chan cap ((bs.drop (k + 1)).map putV).toArray true s (r' + 1) false) w) := hide (by rw [hw2]; exact keepIn_chan HI.out HA.out.2 _ _ _ _ _ _)
          have HQT := hide hqt
          clear hqt
          go_step
          refine inOps_region ?_
          refine inOps_recv (c := c) (cap := cap) (s := s) (r := r') (tm := false) (closed := true) (ok := true) (z := putV (0, ⟨#[]⟩)) (buf := ((bs.drop k).map putV).toArray) rfl rfl ?_ HI.out.chan (by simp; omega) ?_
          · simp [go_sem, zeroValue, typeInfo, hj, hy0, rcase, putV]
          · refine inOps_list ?_
            simp only [List.drop_succ_cons, List.drop_zero, Nat.zero_add, got, if_true, List.getElem_toArray, List.getElem_cons_zero, hb0, hb1]
            rw [← hw2]
            have ca0 : ∀ o, (w2.alloc o).cell? ⟨a0, 0, none⟩ = some (.slice x1 ps.length c1) := fun o => (cell_at ((Below.heap_alloc w2 o _ (Array.getElem?_eq_some_iff.1 HI2.out.box).1).trans HI2.out.box) 0).1
            have ca1 : ∀ o, (w2.alloc o).cell? ⟨a0, 1, none⟩ = some vl := fun o => (cell_at ((Below.heap_alloc w2 o _ (Array.getElem?_eq_some_iff.1 HI2.out.box).1).trans HI2.out.box) 1).1
            obtain ⟨w3, hw3⟩ : ∃ w3, w3 = w2.alloc (Obj.cells #[.int .i64 q, .string t] 101) := ⟨_, rfl⟩
            have hb3 : Below w2.heap.size w2 w3 := by rw [hw3]; exact (Below.refl _ _).alloc (Nat.le_refl _) _
            have HI3 := hide (keepIn_below HI2.out hb3)
            have HV3 : Hid (w3.heap[w2.heap.size]? = some (Obj.cells #[.int .i64 q, .string t] 101)) := hide (by rw [hw3]; exact heap_alloc_new w2 _)
            have HC := hide (hasPage_any x1 ps.length c1 vl q)
            clear hb0 hb1 hw2 hb3 HI HI2
            go_wp2_with fail
            rw [← hw3]
            obtain ⟨ap, hap⟩ : ∃ ap, ap = w2.heap.size := ⟨_, rfl⟩
            rw [← hap] at HV3 ⊢
            refine (HC.out _).mono ?_
            rintro e w4 ⟨rfl, hb4⟩
            have HI4 := hide (keepIn_below HI3.out hb4)
            have hv4 := (hb4.block _ (Array.getElem?_eq_some_iff.1 HV3.out).1).trans HV3.out
            have cp0 : w4.cell? ⟨ap, 0, none⟩ = some (.int .i64 q) := (cell_at hv4 0).1
            have cp1 : w4.cell? ⟨ap, 1, none⟩ = some (.string t) := (cell_at hv4 1).1
            clear hb4 hw3 HI3 HV3 hap ca0 ca1 HC
            by_cases hin : 0 ≤ q ∧ q < (ps.length : Int)
            · rw [decide_eq_true hin]
              obtain ⟨j, hj2⟩ := Int.eq_ofNat_of_zero_le hin.1
              subst hj2
              have hjl : j < ps.length := by omega
              have cq : w4.cell? ⟨a2, j, none⟩ = some (.pointer (some ⟨a3 + j, 0, none⟩)) := by rw [HI4.out.row.cellAt j (by omega), ptrs_at _ _ _ hjl]
              have hj0 : (0 : Int) ≤ (j : Int) := by omega
              have hj1 : (j : Int) < (ps.length : Int) := by omega
              have HT : Hid (w4.heap[a3 + j]? = some (Obj.cells #[.string ((syncD ps (bs.take k)).getD j ⟨#[]⟩)] 151)) := hide (HI4.out.sheet j hjl)
              have HP : Hid (syncD ps (bs.take (k + 1)) = (syncD ps (bs.take k)).set j t) := hide (by rw [syncD_succ ps bs k hlt2, ← HQT.out, putD, syncD_length, if_pos hin]; simp)
              go_wp2_with fail
              go_region_law (refine step_call2 _ ?_ 100 Tryz.f100 Tryz.func100 ?_ ?_ (.tmp 43) (.tmp 45) #[149, 9] ?_ (.pointer (some ⟨a3 + j, 0, none⟩)) (.string t) ?_ ?_ _ (take_any (a3 + j) ((syncD ps (bs.take k)).getD j ⟨#[]⟩) t _ HT.out) ?_; exact rfl; decide; exact Option.some_ne_none _; exact rfl; exact rfl; exact rfl; rintro e w5 ⟨rfl, hw5⟩; refine ⟨_, rfl, ?_⟩)
              all_goals
                have HI5 : Hid (KeepIn (w4.setCell ⟨a3 + j, 0, none⟩ (.string t)).drew c a0 a1 a2 a3 ps.length (.slice x1 ps.length c1) vl (syncD ps (bs.take (k + 1))) (.chan cap ((bs.drop (k + 1)).map putV).toArray true s (r' + 1) false) w) := hide (by rw [HP.out]; exact keepIn_below (keepIn_put HI4.out HA.out.2 HA.out.1 j hjl t) ((Below.refl _ _).drew))
                clear hw5 cp0 cp1 cq
                go_wp2_with fail
                go_roundg (gk - 1)
                case measure => have := HG2.out; omega
                case rel => exact ⟨k + 1, r' + 1, trivial, by omega, by have := HG2.out; omega, HI5⟩
            · rw [decide_eq_false hin]
              have HI5 : Hid (KeepIn w4 c a0 a1 a2 a3 ps.length (.slice x1 ps.length c1) vl (syncD ps (bs.take (k + 1))) (.chan cap ((bs.drop (k + 1)).map putV).toArray true s (r' + 1) false) w) := hide (by rw [syncD_succ ps bs k hlt2, ← HQT.out, putD, syncD_length, if_neg hin]; exact HI4.out)
              clear cp0 cp1
              go_wp2_with fail
              go_roundg (gk - 1)
              case measure => have := HG2.out; omega
              case rel => exact ⟨k + 1, r' + 1, trivial, by omega, by have := HG2.out; omega, HI5⟩
        · obtain rfl : k = bs.length := by omega
          have hch2 : wr.heap[c]? = some (.chan cap #[] true s r' false) := by have := HI.out.chan; rw [List.drop_length] at this; exact this
          have HS : Hid (∃ ch, KeepIn wr c a0 a1 a2 a3 ps.length (.slice x1 ps.length c1) vl (syncD ps bs) ch w) := hide ⟨_, by have := HI.out; rw [List.take_length] at this; exact this⟩
          clear HI
          go_step
          refine inOps_region ?_
          refine inOps_shut (c := c) (cap := cap) (s := s) (r := r') (tm := false) (ok := true) (z := putV (0, ⟨#[]⟩)) rfl rfl ?_ hch2 ?_
          · simp [go_sem, zeroValue, typeInfo, hj, hy0, rcase, putV]
          · refine inOps_list ?_
            simp only [List.drop_succ_cons, List.drop_zero, Nat.zero_add, got, if_true, List.getElem_toArray, List.getElem_cons_zero]
            clear hch2
            go_wp2_with (at_make; refine wpList_make_full _ rfl _ _ 22 rfl wr.heap.size 9 i0 (.string ⟨#[]⟩) 1 Tryz.underlying22 hi hz0 hz1 .i64 .i64 _ _ ps.length rfl rfl rfl rfl (by rw [hz2]; omega) (by unfold maxLen; omega) (Nat.le_refl _) ?_)
            intro w5 hown5 hg5
            obtain ⟨wk, hwk⟩ : ∃ wk, wk = wr := ⟨_, rfl⟩
            obtain ⟨a4, ha4⟩ : ∃ a, a = wk.heap.size := ⟨_, rfl⟩
            rw [← hwk] at hown5 hg5 HS
            have hb5 : Below a4 wk w5 := by rw [ha4]; exact (Below.refl _ _).grown hg5 (Nat.le_refl _) (fun k hk => by cases hk)
            rw [← ha4] at hown5
            rw [← hwk, ← ha4]
            obtain ⟨M, hM⟩ : ∃ M, M = syncD ps bs := ⟨_, rfl⟩
            have HMl : Hid (M.length = ps.length ∧ ∀ x ∈ M, x.size ≤ 1048576) := hide (by rw [hM]; exact ⟨syncD_length _ _, syncD_size HPs.out HBs.out⟩)
            rw [← hM] at HS
            have HKk : Hid (∀ wx, Below a4 wk wx → ∃ ch, KeepIn wx c a0 a1 a2 a3 ps.length (.slice x1 ps.length c1) vl M ch w) := hide (fun wx hb => by obtain ⟨ch, h⟩ := HS.out; exact ⟨ch, keepIn_below h (by rw [← ha4]; exact hb)⟩)
            have HO5 : Hid (w5.ownsRow a4 9 1 (.slice (some ⟨a4, 0, none⟩) ps.length ps.length) ps.length (strs (List.replicate ps.length ⟨#[]⟩))) := hide (own_n hown5 rfl (strs_made _))
            have HB5 := hide hb5
            have HA4 : Hid (a2 < a4 ∧ w.heap.size ≤ a4) := hide (by obtain ⟨ch, h⟩ := HS.out; rw [ha4]; exact ⟨(h.row.lt a2 rfl).2, h.low.2.2.2.1⟩)
            have HMe := hide hM
            clear hown5 hg5 hwk ha4 hM hb5 HS
            go_wp2_with fail
            go_loopg [52] ps.length (fun q iv wr => ∃ (k : Nat) (m : List ByteArray), k ≤ ps.length ∧ iv = .int .i64 (k : Int) ∧ q + k = ps.length ∧ wr.ownsRow a4 9 1 (.slice (some ⟨a4, 0, none⟩) ps.length ps.length) ps.length (strs m) ∧ Hid (m.length = ps.length ∧ m.take k = M.take k) ∧ Hid (Below a4 wk wr))
            case atStart => exact ⟨0, _, Nat.zero_le _, rfl, rfl, HO5.out, hide ⟨by simp, by simp⟩, HB5⟩
            case round =>
              obtain ⟨k, m, hk3, rfl, hg, hown, HM, HB⟩ := hrel
              have HG3 := hide hg
              clear hg HO5 HB5
              by_cases hlt3 : k < ps.length
              · have hkM : k < M.length := by rw [HMl.out.1]; exact hlt3
                obtain ⟨x, hx⟩ : ∃ x, x = M[k] := ⟨_, rfl⟩
                have hxs : x.size ≤ 1048576 := by rw [hx]; exact HMl.out.2 _ (List.getElem_mem hkM)
                have HCl := hide (clone_any x (by omega))
                have hsh : wr.heap[a3 + k]? = some (Obj.cells #[.string x] 151) := by
                  obtain ⟨ch, h⟩ := HKk.out wr HB.out
                  rw [h.sheet k hlt3, hx]; simp [List.getD, hkM]
                have cs0 : wr.cell? ⟨a3 + k, 0, none⟩ = some (.string x) := (cell_at hsh 0).1
                have cq : wr.cell? ⟨a2, k, none⟩ = some (.pointer (some ⟨a3 + k, 0, none⟩)) := by
                  obtain ⟨ch, h⟩ := HKk.out wr HB.out
                  rw [h.row.cellAt k (by omega), ptrs_at _ _ _ hlt3]
                have hi0 : (0 : Int) ≤ (k : Int) := by omega
                have hi1 : (k : Int) < (ps.length : Int) := by omega
                have HX := hide hx
                have HOw := hide hown
                clear hx hsh hown
                go_wp2_with fail
                refine (HCl.out _).mono ?_
                rintro e w6 ⟨rfl, hb6⟩
                have hown6 := own_stays HOw.out hb6
                obtain ⟨u, hu⟩ : ∃ u, (strs m)[k]? = some u := ⟨_, List.getElem?_eq_getElem (by rw [strs_length, HM.out.1]; exact hlt3)⟩
                have hcell : w6.cell? ⟨a4, k, none⟩ = some u := by rw [hown6.cellAt k (by omega), hu]
                have hfz : w6.frozen? ⟨a4, k, none⟩ = false := hown6.frozenAt k
                have HO := hide ((hown6.stored k (.string x)).1)
                rw [strs_set m k x] at HO
                have HM2 : Hid ((m.set k x).length = ps.length ∧ (m.set k x).take (k + 1) = M.take (k + 1)) := hide (by
                  refine ⟨by rw [List.length_set]; exact HM.out.1, ?_⟩
                  have hkm : k < m.length := by rw [HM.out.1]; exact hlt3
                  rw [List.take_succ_eq_append_getElem (by rw [List.length_set]; exact hkm), List.take_succ_eq_append_getElem hkM, List.getElem_set_self, List.take_set_of_le (by omega), HM.out.2, HX.out])
                have HB6 : Hid (Below a4 wk (w6.setCell ⟨a4, k, none⟩ (.string x))) := hide ((HB.out.trans (hb6.mono (by have := (HOw.out.lt a4 rfl).2; omega))).setCell (Nat.le_refl _) _)
                clear hu hown6 hb6 cs0 cq
                go_wp2_with fail
                go_roundg (gk - 1)
                case measure => have := HG3.out; omega
                case rel => exact ⟨k + 1, m.set k x, by omega, by go_num, by have := HG3.out; omega, HO.out, HM2, HB6⟩
              · have hml : m = M := by
                  have h1 := HM.out.2
                  rw [List.take_of_length_le (by rw [HM.out.1]; omega), List.take_of_length_le (by rw [HMl.out.1]; omega)] at h1
                  exact h1
                subst hml
                obtain ⟨ch, hK⟩ := HKk.out wr HB.out
                obtain ⟨w7, hw7⟩ : ∃ w7, w7 = wr.alloc (Obj.cells #[] 101) := ⟨_, rfl⟩
                have hb7 : Below wr.heap.size wr w7 := by rw [hw7]; exact (Below.refl _ _).alloc (Nat.le_refl _) _
                have hem : w7.heap[wr.heap.size]? = some (Obj.cells #[] 101) := by rw [hw7]; exact heap_alloc_new wr _
                have HK7 := hide (keepIn_below hK hb7)
                have HE7 := hide (own_empty (sz := 2) hem)
                have HO7 := hide (own_stays hown hb7)
                have HZ : Hid (a4 ≤ wr.heap.size) := hide (Nat.le_of_lt (hown.lt a4 rfl).2)
                have cr0 : w7.cell? ⟨a1, 0, none⟩ = some (.slice none 0 0) := (cell_at HK7.out.res 0).1
                have cr1 : w7.cell? ⟨a1, 1, none⟩ = some (.slice none 0 0) := (cell_at HK7.out.res 1).1
                have fr0 := (cell_at HK7.out.res 0).2
                have fr1 := (cell_at HK7.out.res 1).2
                rw [hw7] at cr0 cr1 fr0 fr1
                clear hK hb7 hem hown
                go_wp2_with fail
                rw [← hw7]
                have hA := HA.out.1
                have hO := HA.out.2.2
                have h4 := HA4.out
                have hz := HZ.out
                have hret := ret_kept (w := w) (c := c) (B := a4) (u0 := .slice (some ⟨a4, 0, none⟩) ps.length ps.length) (u1 := .slice (some ⟨wr.heap.size, 0, none⟩) 0 0) (ps := m) (ls := []) HK7.out.res ⟨_, _, rfl, by rw [HM.out.1]; exact HO7.out, own_down HE7.out hz⟩ (by omega) (by omega) HK7.out.low
                rw [HMe.out] at hret
                exact bodyPost_ret (v := .agg #[.slice (some ⟨a4, 0, none⟩) ps.length ps.length, .slice (some ⟨wr.heap.size, 0, none⟩) 0 0]) (by simp [results, Tryz.results85, go_sem, hret.1, hret.2.1]) rfl ⟨_, rfl, hret.2.2.1, hret.2.2.2⟩
end Go.Proofs.YtghjbfdbheokcaaGreat

namespace Go.Proofs.YtghjbfdbheokcaaGreat
open Go.RowKit Go.Conc

/-- what the sending holds: its argument's box, its answer's variable, the channel; nothing that was there is turned -/
structure SendIn (wr : World) (c a0 a1 : Nat) (vp vl : Value) (ch : Obj) (w : World) : Prop where
  box : wr.heap[a0]? = some (Obj.cells #[vp, vl] 40)
  res : wr.heap[a1]? = some (Obj.cells #[.slice none 0 0, .slice none 0 0] 40)
  chan : wr.heap[c]? = some ch
  low : Below a0 w wr

theorem sendIn_below {wr wr' : World} {c a0 a1 : Nat} {vp vl : Value} {ch : Obj} {w : World} (h : SendIn wr c a0 a1 vp vl ch w) (hb : Below wr.heap.size wr wr') : SendIn wr' c a0 a1 vp vl ch w := by
  have key : ∀ {k : Nat} {o : Obj}, wr.heap[k]? = some o → wr'.heap[k]? = some o := fun h => (hb.block _ (Array.getElem?_eq_some_iff.1 h).1).trans h
  exact ⟨key h.box, key h.res, key h.chan, h.low.trans (hb.mono (Nat.le_of_lt (Array.getElem?_eq_some_iff.1 h.box).1))⟩

theorem sendIn_alloc {wr : World} {c a0 a1 : Nat} {vp vl : Value} {ch : Obj} {w : World} (h : SendIn wr c a0 a1 vp vl ch w) (o : Obj) : SendIn (wr.alloc o) c a0 a1 vp vl ch w := sendIn_below h ((Below.refl _ _).alloc (Nat.le_refl _) _)

theorem sendIn_chan {wr : World} {c a0 a1 : Nat} {vp vl : Value} {ch : Obj} {w : World} (h : SendIn wr c a0 a1 vp vl ch w) (h0 : a0 < c) (h1 : a1 < c) (cap : Nat) (buf : Array Value) (cl : Bool) (s r : Nat) (tm : Bool) : SendIn (wr.setChan c cap buf cl s r tm) c a0 a1 vp vl (.chan cap buf cl s r tm) w :=
  ⟨(heap_setChan_other _ _ _ _ _ _ _ _ _ (by omega)).trans h.box, (heap_setChan_other _ _ _ _ _ _ _ _ _ (by omega)).trans h.res, heap_setChan _ _ _ _ _ _ _ _ (Array.getElem?_eq_some_iff.1 h.chan).1, below_setChan h.low (Nat.le_of_lt h0) _ _ _ _ _ _⟩

theorem Tryz.infoPutC : ∃ i, Tryz.prog.info? 101 = some i ∧ i.bytes = 24 := by
  obtain ⟨i, h, -, -, hb⟩ := info_parts Tryz.infoPut
  exact ⟨i, h, hb⟩

theorem makeChan_any (n : Nat) (hn : n ≤ 1048576) (w : World) : (Instr.makeChan 135 (.int .i64 (n : Int))).run Tryz.prog w = .ok (.chan (some w.heap.size)) (w.alloc (.chan n #[] false 0 0 false)) := by
  obtain ⟨i, hi, hb⟩ := Tryz.infoPutC
  exact run_makeChan (P := Tryz.prog) (w := w) Tryz.underlying135 hi .i64 n (by omega) (by rw [hb]; omega)

theorem putV_snoc (ls : List (Int × ByteArray)) (k : Nat) (h : k < ls.length) : ((ls.take k).map putV).toArray.push (putV ls[k]) = ((ls.take (k + 1)).map putV).toArray := by
  rw [List.take_succ_eq_append_getElem h, List.map_append]; simp

/-- the end: what keep answers is laid into the variable of the answer -/
theorem send_end {w wc wk : World} {c a0 a1 : Nat} {vp vl u0 u1 : Value} {ch : Obj} {ps : List ByteArray} (h : SendIn wc c a0 a1 vp vl ch w) (h0 : a0 = w.heap.size) (h1 : a1 = a0 + 1) (hc : a1 < c) (hd : DiskOwn wk wc.heap.size (.agg #[u0, u1]) ps []) (hk : Kept wc wk (fun k => k = c)) :
    wk.heap[a1]? = some (Obj.cells #[.slice none 0 0, .slice none 0 0] 40) ∧ (((wk.setCell ⟨a1, 0, none⟩ u0).setCell ⟨a1, 1, none⟩ u1).cell? ⟨a1, 0, none⟩ = some u0 ∧ ((wk.setCell ⟨a1, 0, none⟩ u0).setCell ⟨a1, 1, none⟩ u1).cell? ⟨a1, 1, none⟩ = some u1 ∧
    DiskOwn ((wk.setCell ⟨a1, 0, none⟩ u0).setCell ⟨a1, 1, none⟩ u1) w.heap.size (.agg #[u0, u1]) ps [] ∧ Below w.heap.size w ((wk.setCell ⟨a1, 0, none⟩ u0).setCell ⟨a1, 1, none⟩ u1)) := by
  have hla : a1 < wc.heap.size := (Array.getElem?_eq_some_iff.1 h.res).1
  have hr := (hk.2.2.2.2 a1 hla (by omega)).trans h.res
  have hlow := h.low
  rw [h0] at hlow
  exact ⟨hr, ret_disk hr hd hla (by omega) (hlow.trans (below_of_kept hk hlow.size (fun k e => by omega)))⟩

set_option maxHeartbeats 2000000 in
set_option maxRecDepth 100000 in
theorem implSyncDisk_any (v : Value) (ps : List ByteArray) (ls : List (Int × ByteArray)) (hp : ps.length ≤ 1048576) (hl : ls.length ≤ 1048576) (hps : ∀ s ∈ ps, s.size ≤ 1048576) (hls : ∀ p ∈ ls, p.2.size ≤ 1048576) (w : World) (hd : DiskAt w v ps ls) :
    Calls Tryz.prog 55 #[v] w fun e w' => ∃ v', e = .returned v' ∧ DiskOwn w' w.heap.size v' (syncD ps ls) [] ∧ Below w.heap.size w w' := by
  obtain ⟨vp, vl, rfl, h1, h2⟩ := hd
  obtain ⟨x2, c2, rfl⟩ : ∃ a cap, vl = .slice a ls.length cap := by obtain ⟨-, a, cap, e, -⟩ := h2; exact ⟨a, cap, e⟩
  have H1 := hide h1
  have H2 := hide h2
  have HKe := hide (fun c cap s r wx h h' => keep_any vp (.slice x2 ls.length c2) ps hp hps c cap s r ls hls wx h h')
  clear h1 h2 hps hls
  obtain ⟨w0, hw0⟩ : ∃ w0, w0 = (w.alloc (Obj.cells #[vp, .slice x2 ls.length c2] 40)).alloc (Obj.cells #[.slice none 0 0, .slice none 0 0] 40) := ⟨_, rfl⟩
  obtain ⟨q0, q1, hs0⟩ := two_allocs w (Obj.cells #[vp, .slice x2 ls.length c2] 40) (Obj.cells #[.slice none 0 0, .slice none 0 0] 40)
  rw [← hw0] at q0 q1 hs0
  have hb0 : Below w.heap.size w w0 := by rw [hw0]; exact ((Below.refl w.heap.size w).alloc (Nat.le_refl _) _).alloc (by simp) _
  obtain ⟨a0, ha0⟩ : ∃ a, a = w.heap.size := ⟨_, rfl⟩
  obtain ⟨a1, ha1⟩ : ∃ a, a = a0 + 1 := ⟨_, rfl⟩
  obtain ⟨c, hc⟩ : ∃ c, c = a1 + 1 := ⟨_, rfl⟩
  rw [← ha0] at q0 q1 hs0
  rw [← ha1] at q1
  obtain ⟨w1, hw1⟩ : ∃ w1, w1 = w0.alloc (.chan ls.length #[] false 0 0 false) := ⟨_, rfl⟩
  have hsc : w0.heap.size = c := by omega
  have HS1 : Hid (SendIn w1 c a0 a1 vp (.slice x2 ls.length c2) (.chan ls.length #[] false 0 0 false) w) := hide (by
    rw [hw1]
    refine ⟨(Below.heap_alloc w0 _ a0 (by omega)).trans q0, (Below.heap_alloc w0 _ a1 (by omega)).trans q1, ?_, ?_⟩
    · rw [← hsc]; exact heap_alloc_new w0 _
    · rw [ha0]; exact hb0.alloc (by omega) _)
  have HA := hide (⟨ha0, ha1, hc⟩ : a0 = w.heap.size ∧ a1 = a0 + 1 ∧ c = a1 + 1)
  have hmk := makeChan_any ls.length hl
  have cb1 : w1.cell? ⟨a0, 1, none⟩ = some (.slice x2 ls.length c2) := (cell_at HS1.out.box 1).1
  rw [hw1, hw0, ha0] at cb1
  clear q0 q1 hs0 hb0
  go_enter Tryz.func55, Tryz.ntmps55
  go_wp2_with fail
  rw [← hw0, ← hw1, ← ha0, ← ha1, ← hc]
  clear hmk cb1 hw0 hw1 ha0 ha1 hc hsc
  go_loopg [13] ls.length (fun q iv wr => ∃ k s : Nat, k ≤ ls.length ∧ iv = .int .i64 (k : Int) ∧ q + k = ls.length ∧ Hid (SendIn wr c a0 a1 vp (.slice x2 ls.length c2) (.chan ls.length ((ls.take k).map putV).toArray false s 0 false) w))
  case atStart => exact ⟨0, 0, Nat.zero_le _, rfl, rfl, HS1⟩
  case round =>
    obtain ⟨k, s, hk, rfl, hg, HI⟩ := hrel
    have HG := hide hg
    clear hg HS1
    by_cases hlt : k < ls.length
    · rcases H2.out.2 with ⟨a, cap, e, h0 | ⟨b, off, e2, hbl, hcc⟩⟩
      · omega
      · injection e with e1 e3 e4
        subst e1 e4
        subst e2
        obtain ⟨q, t, hqt⟩ : ∃ q t, (q, t) = ls[k] := ⟨_, _, rfl⟩
        have hba : b < a0 := by have := HA.out; omega
        have hc0 : wr.cell? ⟨b, off + k * 2, none⟩ = some (.int .i64 q) := by rw [HI.out.low.cell (by exact hba), hcc (k * 2) (by omega), (puts_at ls k hlt).1, ← hqt]
        have hc1 : wr.cell? ⟨b, off + k * 2 + 1, none⟩ = some (.string t) := by rw [HI.out.low.cell (by exact hba), Nat.add_assoc, hcc (k * 2 + 1) (by omega), (puts_at ls k hlt).2, ← hqt]
        have hi0 : (0 : Int) ≤ (k : Int) := by omega
        have hi1 : (k : Int) < (ls.length : Int) := by omega
        obtain ⟨wa, hwa⟩ : ∃ wa, wa = wr.alloc (Obj.cells #[.int .i64 q, .string t] 101) := ⟨_, rfl⟩
        have HIa : Hid (SendIn wa c a0 a1 vp (.slice (some ⟨b, off, none⟩) ls.length c2) (.chan ls.length ((ls.take k).map putV).toArray false s 0 false) w) := hide (by rw [hwa]; exact sendIn_alloc HI.out _)
        have hva : wa.heap[wr.heap.size]? = some (Obj.cells #[.int .i64 q, .string t] 101) := by rw [hwa]; exact heap_alloc_new wr _
        have HI2 : Hid (SendIn (wa.setChan c ls.length ((ls.take (k + 1)).map putV).toArray false (s + 1) 0 false) c a0 a1 vp (.slice (some ⟨b, off, none⟩) ls.length c2) (.chan ls.length ((ls.take (k + 1)).map putV).toArray false (s + 1) 0 false) w) := hide (sendIn_chan HIa.out (by have := HA.out; omega) (by have := HA.out; omega) _ _ _ _ _ _)
        have cp0 : wa.cell? ⟨wr.heap.size, 0, none⟩ = some (.int .i64 q) := (cell_at hva 0).1
        have cp1 : wa.cell? ⟨wr.heap.size, 1, none⟩ = some (.string t) := (cell_at hva 1).1
        have hpush : ((ls.take k).map putV).toArray.push (.agg #[.int .i64 q, .string t]) = ((ls.take (k + 1)).map putV).toArray := by rw [← putV_snoc ls k hlt, ← hqt]; rfl
        have HQT := hide hqt
        clear hqt hcc hva
        iterate 32 (first | go_values | go_skip | go_guarded | go_step | go_upon)
        refine inOps_region ?_
        rw [← hwa]
        refine inOps_value (w' := wa) (v := .chan (some c)) rfl rfl (by simp [go_sem]) ?_
        refine inOps_value (w' := wa) (v := .agg #[.int .i64 q, .string t]) rfl rfl (by simp [go_sem, cp0, cp1]) ?_
        refine inOps_send (c := c) (cap := ls.length) (s := s) (r := 0) (tm := false) (buf := ((ls.take k).map putV).toArray) (v := .agg #[.int .i64 q, .string t]) (z := .tuple #[]) rfl rfl (by simp [go_sem, scase]) HIa.out.chan (by simp; omega) ?_
        rw [hpush]
        refine inOps_list ?_
        simp only [List.drop_succ_cons, List.drop_zero, Nat.zero_add, Nat.reduceAdd, List.getElem_toArray, List.getElem_cons_zero, List.getElem_cons_succ, Act.put, List.setIfInBounds_toArray, List.set_cons_succ, List.set_cons_zero]
        obtain ⟨w3, hw3⟩ : ∃ w3, w3 = wa.setChan c ls.length ((ls.take (k + 1)).map putV).toArray false (s + 1) 0 false := ⟨_, rfl⟩
        rw [← hw3]
        rw [← hw3] at HI2
        clear hwa cp0 cp1 hpush hc0 hc1 hw3
        go_wp2_with fail
        go_roundg (gk - 1)
        case measure => have := HG.out; omega
        case rel => exact ⟨k + 1, s + 1, by omega, by go_num, by have := HG.out; omega, HI2⟩
    · obtain rfl : k = ls.length := by omega
      have hch : wr.heap[c]? = some (.chan ls.length (ls.map putV).toArray false s 0 false) := by have := HI.out.chan; rw [List.take_length] at this; exact this
      have hcl : ∀ ats ty, (Builtin.close_ ats ty #[.chan (some c)]).run Tryz.prog wr = .ok (.tuple #[]) (wr.setChan c ls.length (ls.map putV).toArray true s 0 false) := fun ats ty => run_close_open (P := Tryz.prog) (w := wr) ats ty hch
      obtain ⟨wc, hwc⟩ : ∃ wc, wc = wr.setChan c ls.length (ls.map putV).toArray true s 0 false := ⟨_, rfl⟩
      have HIc : Hid (SendIn wc c a0 a1 vp (.slice x2 ls.length c2) (.chan ls.length (ls.map putV).toArray true s 0 false) w) := hide (by rw [hwc]; exact sendIn_chan HI.out (by have := HA.out; omega) (by have := HA.out; omega) _ _ _ _ _ _)
      have cb0 : wc.cell? ⟨a0, 0, none⟩ = some vp := (cell_at HIc.out.box 0).1
      have cb1 : wc.cell? ⟨a0, 1, none⟩ = some (.slice x2 ls.length c2) := (cell_at HIc.out.box 1).1
      rw [← hwc] at hcl
      clear HI hch hwc
      go_wp2_with fail
      refine (HKe.out c ls.length s 0 wc (row_below H1.out (by have := HIc.out.low; rw [HA.out.1] at this; exact this)) HIc.out.chan).mono ?_
      rintro e wk ⟨u, rfl, hdk, hkk⟩
      obtain ⟨y1, d1, y2, d2, rfl⟩ := disk_form hdk
      have hA := HA.out
      obtain ⟨hr, hfin⟩ := send_end HIc.out hA.1 hA.2.1 (by omega) hdk hkk
      have cr0 : wk.cell? ⟨a1, 0, none⟩ = some (.slice none 0 0) := (cell_at hr 0).1
      have cr1 : wk.cell? ⟨a1, 1, none⟩ = some (.slice none 0 0) := (cell_at hr 1).1
      have fr0 := (cell_at hr 0).2
      have fr1 := (cell_at hr 1).2
      have HF := hide hfin
      clear hfin hdk hkk hr hcl cb0 cb1 hA
      go_wp2_with fail
      exact bodyPost_ret (v := .agg #[.slice y1 (syncD ps ls).length d1, .slice y2 0 d2]) (by have h1 := HF.out.1; have h2 := HF.out.2.1; simp only [List.length_nil] at h1 h2; simp [results, Tryz.results55, go_sem, h1, h2]) rfl ⟨_, rfl, HF.out.2.2.1, HF.out.2.2.2⟩
end Go.Proofs.YtghjbfdbheokcaaGreat
