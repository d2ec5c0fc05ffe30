/-
  A node that came in as an argument of a law beside a work, opened.
-/
import Derived.Test.YtejfmjejdopglaaDoorWorkOpen
namespace Go.Proofs.YtejfmjejdopglaaDoor
open Go.RowKit Go.ChangeShapes Go.WideShapes Go.Deep

set_option maxRecDepth 100000 in
theorem open_node {H : Type} {enc : TypeId × Value → H} {W : World} {r : Reach} {b0 base : Nat} {spare : Nat → Bool} {held : Bool} {v : Value} {d : DataW H} {p : List MemPlace}
    (hv : Value.okWide Tryd.prog W r b0 50 v) (h : DataW.Trod enc Tryd.prog W base spare held 50 v d p) :
    ∃ lf ks vs cs, NodeAt W v lf ks vs cs ∧ ks.length ≤ maxLen ∧ (∀ s ∈ ks, s.size ≤ maxLen) ∧ vs.length ≤ maxLen ∧ (∀ s ∈ vs, s.size ≤ maxLen) ∧ cs.length ≤ maxLen := by
  obtain ⟨v0, v1, v2, v3, y0, y1, y2, y3, n, rfl, -, -, h0, h1, h2, h3⟩ := Joins.open_agg4 Tryd.underlying50 (by kernel_rfl) (by kernel_rfl) hv h
  obtain ⟨lf, e0, -⟩ := DataW.trod_bool Tryd.underlying4 h0
  injection e0 with e0
  subst e0
  obtain ⟨ks, k1, k2, k3⟩ := row_strs h1
  obtain ⟨vs, l1, l2, l3⟩ := row_strs h2
  obtain ⟨cs, c1, c2, -⟩ := row_intsW h3
  exact ⟨lf, ks, vs, cs, ⟨v1, v2, v3, rfl, k1, l1, c1⟩, k2, k3, l2, l3, c2⟩
end Go.Proofs.YtejfmjejdopglaaDoor
