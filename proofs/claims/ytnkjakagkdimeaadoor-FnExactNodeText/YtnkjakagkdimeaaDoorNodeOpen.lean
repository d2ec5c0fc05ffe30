/-
  A node that came in as an argument of a law, opened: what its reading gives.
-/
import Derived.Test.YtnkjakagkdimeaaDoorNode
import Derived.Lib.SmallJoins
import Derived.Deep.Strs
import Derived.Deep.SlicePairs
import Derived.ChangeOld
namespace Go.Proofs.YtnkjakagkdimeaaDoor
open Go.RowKit Go.ChangeShapes Go.WideShapes Go.Deep

theorem row_strs {H : Type} {enc : TypeId × Value → H} {W : World} {base : Nat} {spare : Nat → Bool} {held : Bool} {fuel : Nat} {v : Value} {x : DataW H × List MemPlace}
    (h : DataW.trod enc Tryd.prog W base spare held fuel 24 [v] = some x) : ∃ ps : List ByteArray, RowAt W 1 v ps.length (strs ps) ∧ ps.length ≤ maxLen ∧ ∀ s ∈ ps, s.size ≤ maxLen := by
  rcases open_strs Tryd.underlying24 Tryd.underlying9 (by kernel_rfl) h with ⟨hcs, -⟩ | ⟨a, len, cap, m, Sx, hcs, -, hl, hm, hmm, -, hx⟩
  · injection hcs with hcs
    subst hcs
    exact ⟨[], ⟨rfl, none, 0, rfl, Or.inl rfl⟩, by unfold maxLen; simp, fun s hs => by cases hs⟩
  · injection hcs with hcs
    subst hcs
    have hlm : len ≤ m := by rw [hmm]; split <;> omega
    refine ⟨(List.range len).map Sx, ?_, by simp; omega, fun s hs => ?_⟩
    · rw [List.length_map, List.length_range]
      refine ⟨by rw [strs_length]; simp, some a, cap, rfl, ?_⟩
      by_cases h0 : len = 0
      · exact Or.inl h0
      · obtain ⟨b, off, spot⟩ := a
        have hc := (hx 0 (by omega)).1
        obtain rfl : spot = none := by simpa [Addr.add] using World.cell?_spot hc
        refine Or.inr ⟨b, off, rfl, World.block_lt_of_cell? W _ (by simpa [Addr.add] using hc : W.cell? ⟨b, off, none⟩ = _), fun j hj => ?_⟩
        have hj' : j < len := by omega
        have := (hx j (by omega)).1
        rw [Addr.add_lit] at this
        rw [this, strs_at _ j (by simpa using hj')]
        simp
    · obtain ⟨i, hi, rfl⟩ := List.mem_map.1 hs
      exact (hx i (by have := List.mem_range.1 hi; omega)).2

theorem row_ints {H : Type} {enc : TypeId × Value → H} {W : World} {base : Nat} {spare : Nat → Bool} {held : Bool} {fuel : Nat} {v : Value} {x : DataW H × List MemPlace}
    (h : DataW.trod enc Tryd.prog W base spare held fuel 25 [v] = some x) : ∃ cs : List Int, RowAt W 1 v cs.length (ints cs) ∧ cs.length ≤ maxLen := by
  rcases open_ints Tryd.underlying25 Tryd.underlying3 (by kernel_rfl) h with ⟨hcs, -⟩ | ⟨a, len, cap, zs, hcs, -, hl, hm, hz, -, hx, -⟩
  · injection hcs with hcs
    subst hcs
    exact ⟨[], ⟨rfl, none, 0, rfl, Or.inl rfl⟩, by unfold maxLen; simp⟩
  · injection hcs with hcs
    subst hcs
    have hlm : len ≤ zs.length := by rw [hz]; split <;> omega
    have hlen : (zs.take len).length = len := by rw [List.length_take]; omega
    refine ⟨zs.take len, ?_, by omega⟩
    rw [hlen]
    refine ⟨by rw [ints_length, hlen]; simp, some a, cap, rfl, ?_⟩
    by_cases h0 : len = 0
    · exact Or.inl h0
    · obtain ⟨b, off, spot⟩ := a
      have hc := hx 0 (by omega)
      obtain rfl : spot = none := by simpa [Addr.add] using World.cell?_spot hc
      refine Or.inr ⟨b, off, rfl, World.block_lt_of_cell? W _ (by simpa [Addr.add] using hc : W.cell? ⟨b, off, none⟩ = _), fun j hj => ?_⟩
      have hj' : j < len := by omega
      have := hx j (by omega)
      rw [Addr.add_lit] at this
      rw [this, ints_at _ j (by omega)]
      simp [List.getD, show j < zs.length by omega]

set_option maxRecDepth 100000 in
theorem open_node {H : Type} {enc : TypeId × Value → H} {W : World} {r : Reach} {b0 base : Nat} {spare : Nat → Bool} {held : Bool} {v : Value} {d : DataW H} {p : List MemPlace}
    (hv : Value.okWide Tryd.prog W r b0 38 v) (h : DataW.Trod enc Tryd.prog W base spare held 38 v d p) :
    ∃ lf ks vs cs, NodeAt W v lf ks vs cs ∧ ks.length ≤ maxLen ∧ (∀ s ∈ ks, s.size ≤ maxLen) ∧ vs.length ≤ maxLen ∧ (∀ s ∈ vs, s.size ≤ maxLen) ∧ cs.length ≤ maxLen := by
  obtain ⟨v0, v1, v2, v3, y0, y1, y2, y3, n, rfl, -, -, h0, h1, h2, h3⟩ := Joins.open_agg4 Tryd.underlying38 (by kernel_rfl) (by kernel_rfl) hv h
  obtain ⟨lf, e0, -⟩ := DataW.trod_bool Tryd.underlying4 h0
  injection e0 with e0
  subst e0
  obtain ⟨ks, k1, k2, k3⟩ := row_strs h1
  obtain ⟨vs, l1, l2, l3⟩ := row_strs h2
  obtain ⟨cs, c1, c2⟩ := row_ints h3
  exact ⟨lf, ks, vs, cs, ⟨v1, v2, v3, rfl, k1, l1, c1⟩, k2, k3, l2, l3, c2⟩
end Go.Proofs.YtnkjakagkdimeaaDoor
