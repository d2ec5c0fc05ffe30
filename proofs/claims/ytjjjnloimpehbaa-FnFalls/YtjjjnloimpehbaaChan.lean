/-
  Regions that hold a communication, inside the walk of one goroutine: a send into a buffer with room, a receive from a buffer that holds something, a receive from a closed and empty channel, as steps of a region that draws nothing. No function of the program.
-/
import Derived.Conc.LoneCalls
import Derived.Tactics
namespace Go.Proofs.Ytjjjnloimpehbaa
open Go.RowKit Go.Conc

/-- inside a region, from its n-th operation on: what the machine of one comes to -/
def InOps (P : Program) (ops : Array Oper) (Q : Exit → Act → World → Prop) (n : Nat) (a : Act) (w : World) : Prop :=
  ∀ (b : Frame) (k : List Item) (cs : List Frame), ∃ e a' w', Q e a' w' ∧ Arrives P (lone (b.at a (.inRegion ops (List.range' n (ops.size - n)) :: k)) cs w) b k cs e a' w'

section
variable {P : Program} {ops : Array Oper} {Q : Exit → Act → World → Prop} {n : Nat} {a a' : Act} {w w' : World} {o : Oper}

theorem inOps_region {id : Nat} (h : InOps P ops Q 0 a w) : (Code.region id ops false).wp P Q a w := by
  intro b k cs
  obtain ⟨e, a', w', q, r⟩ := h b k cs
  refine ⟨e, a', w', q, .of_steps (.one step_region) ?_⟩
  rw [List.range_eq_range']
  exact r

theorem inOps_list (h : wpList P ops Q (ops.toList.drop n) a w) : InOps P ops Q n a w := by
  intro b k cs
  refine wp_ops _ a w ?_ b k cs
  have e := wpOps_eq_wpList (P := P) (Q := Q) (ops := ops) (ops.toList.drop n) n (by intro j; simp)
  rw [List.length_drop, Array.length_toList] at e
  rw [e]
  exact h

theorem rest_at (ho : ops[n]? = some o) : List.range' n (ops.size - n) = n :: List.range' (n + 1) (ops.size - (n + 1)) := by
  have hl : n < ops.size := (Array.getElem?_eq_some_iff.1 ho).1
  rw [show ops.size - n = (ops.size - (n + 1)) + 1 from by omega, List.range'_succ]

/-- one step of the machine, and the rest -/
theorem inOps_step (ho : ops[n]? = some o) (hs : ∀ (b : Frame) (k : List Item) (cs : List Frame), step P (lone (b.at a (.inRegion ops (n :: List.range' (n + 1) (ops.size - (n + 1))) :: k)) cs w) = .next (lone (b.at a' (.inRegion ops (List.range' (n + 1) (ops.size - (n + 1))) :: k)) cs w'))
    (h : InOps P ops Q (n + 1) a' w') : InOps P ops Q n a w := by
  intro b k cs
  obtain ⟨e, a2, w2, q, r⟩ := h b k cs
  refine ⟨e, a2, w2, q, ?_⟩
  rw [rest_at ho]
  exact .of_steps (.one (hs b k cs)) r

theorem fin_at (ho : ops[n]? = some o) (b : Frame) (rest : List Nat) (k : List Item) (v : Value) : (b.at a (.inRegion ops (n :: rest) :: k)).finish v = b.at (a.put o.dst v) (.inRegion ops rest :: k) := by rw [Frame.finish_at, ho]; rfl

theorem inOps_value (ho : ops[n]? = some o) (hg : o.guard = none) {v : Value} (hr : (execOp a.eval o).run P w = .ok (.value v) w') (h : InOps P ops Q (n + 1) (a.put o.dst v) w') : InOps P ops Q n a w := by
  have hw : Region.wanted o (yielded ops a.tmps) = true := by simp [Region.wanted, hg]
  refine inOps_step ho (fun b k cs => ?_) h
  refine step_lone_go ?_
  rw [stepG_op ho hw, ← fin_at ho]
  simp [stepG.apply, hr]

theorem comm_at (ho : ops[n]? = some o) (hw : Region.wanted o (yielded ops a.tmps) = true) {cases : Array CommCase} {shape : CommShape} (hr : (execOp a.eval o).run P w = .ok (.comm cases true shape) w') (b : Frame) (rest : List Nat) (k : List Item) (cs : List Frame) :
    ∃ es, stepG P true (G (b.at a (.inRegion ops (n :: rest) :: k)) cs) w = .comm (G (b.at a (.inRegion ops (n :: rest) :: k)) cs) cases true shape w' es := by
  rw [stepG_oper ho hw]
  by_cases hk : b.kind = .early
  · exact ⟨_, by simp [stepG.apply, hr, G, Frame.at, hk, GStep.after]; rfl⟩
  · have hk' : (b.kind == CallKind.early) = false := by simpa using hk
    exact ⟨_, by simp [stepG.apply, hr, G, Frame.at, hk', GStep.after]; rfl⟩

theorem inOps_send (ho : ops[n]? = some o) (hg : o.guard = none) {c cap s r : Nat} {v z : Value} {buf : Array Value} {tm : Bool} (hr : (execOp a.eval o).run P w = .ok (.comm #[scase c v z] true .send) w) (hc : w.heap[c]? = some (.chan cap buf false s r tm)) (hroom : buf.size < cap)
    (h : InOps P ops Q (n + 1) (a.put o.dst undef) (w.setChan c cap (buf.push v) false (s + 1) r tm)) : InOps P ops Q n a w := by
  have hw : Region.wanted o (yielded ops a.tmps) = true := by simp [Region.wanted, hg]
  refine inOps_step ho (fun b k cs => ?_) h
  obtain ⟨es, hes⟩ := comm_at ho hw hr b (List.range' (n + 1) (ops.size - (n + 1))) k cs
  rw [← fin_at ho]
  exact step_lone_send_room hes hc hroom

theorem inOps_recv (ho : ops[n]? = some o) (hg : o.guard = none) {c cap s r : Nat} {z : Value} {buf : Array Value} {tm closed ok : Bool} (hr : (execOp a.eval o).run P w = .ok (.comm #[rcase c z] true (.recv ok)) w) (hc : w.heap[c]? = some (.chan cap buf closed s r tm)) (hsome : 0 < buf.size)
    (h : InOps P ops Q (n + 1) (a.put o.dst (got ok (buf.getD 0 undef) true)) (w.setChan c cap (buf.extract 1 buf.size) closed s (r + 1) tm)) : InOps P ops Q n a w := by
  have hw : Region.wanted o (yielded ops a.tmps) = true := by simp [Region.wanted, hg]
  refine inOps_step ho (fun b k cs => ?_) h
  obtain ⟨es, hes⟩ := comm_at ho hw hr b (List.range' (n + 1) (ops.size - (n + 1))) k cs
  rw [← fin_at ho]
  exact step_lone_recv_buf ok hes hc hsome

theorem inOps_shut (ho : ops[n]? = some o) (hg : o.guard = none) {c cap s r : Nat} {z : Value} {tm ok : Bool} (hr : (execOp a.eval o).run P w = .ok (.comm #[rcase c z] true (.recv ok)) w) (hc : w.heap[c]? = some (.chan cap #[] true s r tm))
    (h : InOps P ops Q (n + 1) (a.put o.dst (got ok z false)) w) : InOps P ops Q n a w := by
  have hw : Region.wanted o (yielded ops a.tmps) = true := by simp [Region.wanted, hg]
  refine inOps_step ho (fun b k cs => ?_) h
  obtain ⟨es, hes⟩ := comm_at ho hw hr b (List.range' (n + 1) (ops.size - (n + 1))) k cs
  rw [← fin_at ho]
  exact step_lone_recv_shut ok hes hc
end
end Go.Proofs.Ytjjjnloimpehbaa
