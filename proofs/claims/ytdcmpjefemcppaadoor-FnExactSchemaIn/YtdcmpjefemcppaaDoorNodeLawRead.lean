/-
  The exact law of ReadNode by contracts.
-/
import Derived.Test.YtdcmpjefemcppaaDoorImplReadNode
import Derived.Test.YtdcmpjefemcppaaDoorSpecRead
import Derived.Test.YtdcmpjefemcppaaDoorNode2
namespace Go.Proofs.YtdcmpjefemcppaaDoor
open Go.RowKit

theorem readN_len {t : ByteArray} {n : Nd} {ok : Bool} (h : ReadN t n ok) : n.ks.length ≤ 4 ∧ n.vs.length ≤ 4 ∧ n.cs.length ≤ 4 := by
  rcases h with ⟨-, h, -⟩ | ⟨-, rfl, -⟩
  · obtain ⟨h1, h2, h3, h4⟩ := cnt_yes (node_yes h.1).1
    cases hl : n.lf with
    | true => have := h3 hl; omega
    | false => have := h4 hl; omega
  · simp [Nd.none]

theorem nodeOwn_cells {w : World} {B : Nat} {v : Value} {lf : Bool} {ks vs : List ByteArray} {cs : List Int} (h : NodeOwn w B v lf ks vs cs) : ∃ a1 c1 a2 c2 a3 c3, v = .agg #[.bool lf, .slice a1 ks.length c1, .slice a2 vs.length c2, .slice a3 cs.length c3] := by
  obtain ⟨v1, v2, v3, rfl, h1, h2, h3, -⟩ := h
  obtain ⟨a1, c1, rfl⟩ := own_slice h1
  obtain ⟨a2, c2, rfl⟩ := own_slice h2
  obtain ⟨a3, c3, rfl⟩ := own_slice h3
  exact ⟨a1, c1, a2, c2, a3, c3, rfl⟩

theorem var4 {w : World} {a : Nat} {b0 v1 v2 v3 : Value} (h : w.heap[a]? = some (.cells #[b0, v1, v2, v3] 59 (0, 0))) : w.cell? ⟨a, 0, none⟩ = some b0 ∧ w.cell? ⟨a, 1, none⟩ = some v1 ∧ w.cell? ⟨a, 2, none⟩ = some v2 ∧ w.cell? ⟨a, 3, none⟩ = some v3 :=
  ⟨(cell_at h 0).1, (cell_at h 1).1, (cell_at h 2).1, (cell_at h 3).1⟩

theorem stays {w w' : World} {a : Nat} {o : Obj} (h : w.heap[a]? = some o) (hb : Below w.heap.size w w') : w'.heap[a]? = some o := (hb.block _ (Array.getElem?_eq_some_iff.1 h).1).trans h

end Go.Proofs.YtdcmpjefemcppaaDoor
