/-
  An event that came in as an argument of a law, opened: what its reading gives.
-/
import Derived.Test.YthcakofocbileaaEvRow
import Derived.Lib.SmallJoins
import Derived.Deep.Strs
import Derived.Deep.SlicePairs
import Derived.Deep.Grids
import Derived.ChangeOld
namespace Go.Proofs.Ythcakofocbileaa
open Go.RowKit Go.ChangeShapes Go.WideShapes Go.Deep

theorem row_boolsE {H : Type} {enc : TypeId × Value → H} {W : World} {base : Nat} {held : Bool} {fuel : Nat} {v : Value} {x : DataW H × List MemPlace}
    (h : DataW.trod enc Try.prog W base (fun _ => true) held fuel 34 [v] = some x) : ∃ bs : List Bool, RowAt W 1 v bs.length (bools bs) ∧ bs.length ≤ maxLen := by
  rcases Go.Deep.open_bools Try.underlying34 Try.underlying4 (by kernel_rfl) h with ⟨hcs, -⟩ | ⟨a, len, cap, B, hcs, -, hl, hm, -, hx⟩
  · injection hcs with hcs
    subst hcs
    exact ⟨[], ⟨rfl, none, 0, rfl, Or.inl rfl⟩, by unfold maxLen; simp⟩
  · injection hcs with hcs
    subst hcs
    refine ⟨(List.range len).map B, ?_, by simp; omega⟩
    rw [List.length_map, List.length_range]
    refine ⟨by rw [bools_length]; simp, some a, cap, rfl, ?_⟩
    by_cases h0 : len = 0
    · exact Or.inl h0
    · obtain ⟨b, off, spot⟩ := a
      have hc := hx 0 (by omega)
      obtain rfl : spot = none := by simpa [Addr.add] using World.cell?_spot hc
      refine Or.inr ⟨b, off, rfl, World.block_lt_of_cell? W _ (by simpa [Addr.add] using hc : W.cell? ⟨b, off, none⟩ = _), fun j hj => ?_⟩
      have := hx j (by omega)
      rw [Addr.add_lit] at this
      rw [this, bools_at _ j (by simp; omega)]
      simp

theorem array7 {cs : Array Value} (h : cs.size = 7) : ∃ c0 c1 c2 c3 c4 c5 c6, cs = #[c0, c1, c2, c3, c4, c5, c6] := by
  obtain ⟨l⟩ := cs
  match l, h with
  | [c0, c1, c2, c3, c4, c5, c6], _ => exact ⟨_, _, _, _, _, _, _, rfl⟩

theorem Try.cellsEvL : Try.prog.cellsOf 36 = 7 := by kernel_rfl

set_option maxRecDepth 100000 in
theorem open_event {H : Type} {enc : TypeId × Value → H} {W : World} {r : Reach} {b0 base : Nat} {held : Bool} {v : Value} {d : DataW H} {p : List MemPlace}
    (hv : Value.okWide Try.prog W r b0 36 v) (h : DataW.Trod enc Try.prog W base (fun _ => true) held 36 v d p) : ∃ e : Evt, EvAt W v e ∧ e.key.size ≤ maxLen ∧ e.val.size ≤ maxLen ∧ e.left.length ≤ maxLen := by
  obtain ⟨cs, rfl, hsz⟩ := okWide_struct Try.underlying36 hv
  obtain ⟨c0, c1, c2, c3, c4, c5, c6, rfl⟩ := array7 (hsz.trans Try.cellsEvL)
  obtain ⟨fuel, hf⟩ := h
  obtain ⟨xs, n, -, -, -, hlen, hfs⟩ := DataW.trod_struct Try.underlying36 hf
  match xs, hlen with
  | [y0, y1, y2, y3, y4, y5, y6], _ =>
    have h0 := hfs 0 _ rfl
    have h1 := hfs 1 _ rfl
    have h2 := hfs 2 _ rfl
    have h3 := hfs 3 _ rfl
    have h4 := hfs 4 _ rfl
    have h5 := hfs 5 _ rfl
    have h6 := hfs 6 _ rfl
    replace h0 : DataW.trod enc Try.prog W base (fun _ => true) held n 3 [c0] = some y0 := h0
    replace h1 : DataW.trod enc Try.prog W base (fun _ => true) held n 3 [c1] = some y1 := h1
    replace h2 : DataW.trod enc Try.prog W base (fun _ => true) held n 9 [c2] = some y2 := h2
    replace h3 : DataW.trod enc Try.prog W base (fun _ => true) held n 9 [c3] = some y3 := h3
    replace h4 : DataW.trod enc Try.prog W base (fun _ => true) held n 3 [c4] = some y4 := h4
    replace h5 : DataW.trod enc Try.prog W base (fun _ => true) held n 34 [c5] = some y5 := h5
    replace h6 : DataW.trod enc Try.prog W base (fun _ => true) held n 3 [c6] = some y6 := h6
    obtain ⟨k0, e0, -⟩ := DataW.trod_int Try.underlying3 h0
    obtain ⟨k1, e1, -⟩ := DataW.trod_int Try.underlying3 h1
    obtain ⟨k2, e2, -, b2⟩ := DataW.trod_string Try.underlying9 h2
    obtain ⟨k3, e3, -, b3⟩ := DataW.trod_string Try.underlying9 h3
    obtain ⟨k4, e4, -⟩ := DataW.trod_int Try.underlying3 h4
    obtain ⟨bs, r5, b5⟩ := row_boolsE h5
    obtain ⟨k6, e6, -⟩ := DataW.trod_int Try.underlying3 h6
    simp only [List.cons.injEq, and_true] at e0 e1 e2 e3 e4 e6
    subst e0 e1 e2 e3 e4 e6
    obtain ⟨-, a, cap, rfl, h7⟩ := id r5
    exact ⟨⟨k0, k1, k2, k3, k4, bs, k6⟩, ⟨a, cap, rfl, r5⟩, b2, b3, b5⟩

end Go.Proofs.Ythcakofocbileaa
